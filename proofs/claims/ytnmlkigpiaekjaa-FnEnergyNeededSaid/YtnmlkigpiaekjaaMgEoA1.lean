/- Contracts of chapter 6: the energy behind a segment, of the program; the closure that sums. | Contracts of the laws' own helpers on intervals. | Contracts of the laws' own helpers on segments. | Contracts of the laws' own helpers on slices of segments and layouts. | Marks that the exact laws write into layouts. | Contracts of chapter 6: the closure that sums the changes along a run, of the program. | Contracts of chapter 3: layouts: the program's functions. | Sets of brakes in plain words: which segments of a run are brakes, as a walk along the run gathers them and as the list of all indices tells them. | Slices of structs of numbers, each struct wd cells wide: what the walks say of them (for every such type). | Contracts of chapter 9: places along a run, the last energy of one, sets of brakes, of the program. | Contracts of chapter 6: the segments of a run, of the program. | Slices of intervals, as the laws compare, mark and read them; one interval appended. | Contracts of chapter 6: the energies along a run, of the program. | Contracts of chapter 6: the energy that is needed, of the program. | Slices that came in, as the shell of a proof says them. | The walk of the law of chapter 6 on the energy that is needed. -/
import Derived.Test.YtnmlkigpiaekjaaEnK
import Derived.Deep.RegionWith
import Derived.Test.YtnmlkigpiaekjaaIvN
import Derived.Test.YtnmlkigpiaekjaaSgs
import Derived.Laws.ResultCell
import Derived.Test.YtnmlkigpiaekjaaHeld
import Derived.IntWalk
import Derived.Test.YtnmlkigpiaekjaaGrown
import Derived.Test.YtnmlkigpiaekjaaEnP
import Derived.Test.YtnmlkigpiaekjaaSg1
import Derived.Test.YtnmlkigpiaekjaaMathL
import Derived.Test.YtnmlkigpiaekjaaSl
import Derived.Test.YtnmlkigpiaekjaaOwn
import Derived.WalkSmall
import Derived.Deep.DeepMust
import Derived.Test.YtnmlkigpiaekjaaOwnS
import Derived.Deep.RegionLaw
import Derived.Test.YtnmlkigpiaekjaaFrom
import Derived.Test.YtnmlkigpiaekjaaEnY
import Derived.Test.YtnmlkigpiaekjaaEnV
namespace Go.Proofs.Ytnmlkigpiaekjaa
open Go.RowKit
set_option maxHeartbeats 4000000
set_option linter.unusedVariables false
set_option linter.unusedSimpArgs false
end Go.Proofs.Ytnmlkigpiaekjaa
namespace Go.Proofs.Ytnmlkigpiaekjaa
open Go.RowKit
set_option maxHeartbeats 2000000
set_option linter.unusedVariables false
set_option linter.unusedSimpArgs false
theorem l_toInterval (a b : Int) (w : World) : Calls Try.prog 21 #[.agg #[.int .i64 a, .int .i64 b]] w fun e w' => e = .returned (.agg #[.int .i64 a, .int .i64 b]) ∧ Later w w' := by
  go_enter Try.func21, Try.ntmps21
  go_wp2
  refine bodyPost_ret (v := .agg #[.int .i64 a, .int .i64 b]) (by simp [results, Try.results21, go_sem]) rfl ⟨rfl, ?_⟩
  exact (((Later.refl _).alloc _).alloc _).alloc _
theorem l_eqInterval (a b c d : Int) (w : World) : Calls Try.prog 52 #[.agg #[.int .i64 a, .int .i64 b], .agg #[.int .i64 c, .int .i64 d]] w fun e w' => e = .returned (.bool (a == c && b == d)) ∧ Later w w' := by
  go_enter Try.func52, Try.ntmps52
  go_wp2
  all_goals
    go_ret
    exact ⟨ret_b (by simp_all), ((Later.refl _).alloc _).alloc _⟩
end Go.Proofs.Ytnmlkigpiaekjaa
namespace Go.Proofs.Ytnmlkigpiaekjaa
open Go.RowKit
set_option maxHeartbeats 2000000
set_option linter.unusedVariables false
set_option linter.unusedSimpArgs false
theorem l_toSegment (x : Sg) (w : World) : Calls Try.prog 81 #[.agg #[.int .i64 x.k, .int .i64 x.l, .int .i64 x.r, .int .i64 x.a, .int .i64 x.b, .int .i64 x.c, .int .i64 x.d]] w fun e w' => e = .returned (.agg #[.int .i64 x.k, .int .i64 x.l, .int .i64 x.r, .int .i64 x.a, .int .i64 x.b, .int .i64 x.c, .int .i64 x.d]) ∧ Later w w' := by
  go_enter Try.func81, Try.ntmps81
  go_wp2_with (go_at_call 21; refine (l_toInterval _ _ _).mono ?_; rintro e w1 ⟨rfl, hb⟩; obtain ⟨H, hcc, hff, hzz⟩ := later_facts hb; clear hb; (try simp at hzz); (try simp only [World.heap_drewN, World.cell?_drewN, World.frozen?_drewN] at hcc hff); have hz0 : w.heap.size < w1.heap.size := (by omega); (try (have hz1 : w.heap.size + 1 < w1.heap.size := (by omega))); (try (have hz2 : w.heap.size + 1 + 1 < w1.heap.size := (by omega))))
  refine bodyPost_ret (v := .agg #[.int .i64 x.k, .int .i64 x.l, .int .i64 x.r, .int .i64 x.a, .int .i64 x.b, .int .i64 x.c, .int .i64 x.d]) (by simp [results, Try.results81, go_sem, *]) rfl ⟨rfl, ?_⟩
  exact (by repeat (first | (with_reducible exact Later.refl _) | (with_reducible exact Hid.out (by assumption)) | (with_reducible refine Later.setCell ?_ (by simp; omega) _) | (with_reducible refine Later.setCell ?_ (by simp) _) | (with_reducible refine Later.alloc ?_ _) | (with_reducible refine Later.drewN ?_ _) | (with_reducible refine Later.drew ?_) | (with_reducible refine Later.trans ?_ (Hid.out (by assumption)))))
theorem l_eqSegment (x y : Sg) (w : World) : Calls Try.prog 82 #[.agg #[.int .i64 x.k, .int .i64 x.l, .int .i64 x.r, .int .i64 x.a, .int .i64 x.b, .int .i64 x.c, .int .i64 x.d], .agg #[.int .i64 y.k, .int .i64 y.l, .int .i64 y.r, .int .i64 y.a, .int .i64 y.b, .int .i64 y.c, .int .i64 y.d]] w fun e w' => e = .returned (.bool (eqB x y)) ∧ Later w w' := by
  have key : ∀ p q r s t : Bool, (x.k == y.k) = p → (x.l == y.l) = q → (x.r == y.r) = r → (x.a == y.a && x.b == y.b) = s → (x.c == y.c && x.d == y.d) = t → Hid (eqB x y = (p && q && r && s && t)) := by
    rintro p q r s t rfl rfl rfl rfl rfl; exact Lib.hid rfl
  cases h1 : (x.k == y.k)
  · have K := key _ _ _ _ _ h1 rfl rfl rfl rfl
    have e1 : (x.k != y.k) = true := by simp [bne, h1]
    clear key h1
    go_enter Try.func82, Try.ntmps82
    go_wp2
    go_ret
    exact ⟨ret_b (by rw [K.out]; simp), (by repeat (first | (with_reducible exact Later.refl _) | (with_reducible exact Hid.out (by assumption)) | (with_reducible refine Later.setCell ?_ (by simp; omega) _) | (with_reducible refine Later.setCell ?_ (by simp) _) | (with_reducible refine Later.alloc ?_ _) | (with_reducible refine Later.drewN ?_ _) | (with_reducible refine Later.drew ?_) | (with_reducible refine Later.trans ?_ (Hid.out (by assumption)))))⟩
  · have e1 : (x.k != y.k) = false := by simp [bne, h1]
    cases h2 : (x.l == y.l)
    · have K := key _ _ _ _ _ h1 h2 rfl rfl rfl
      have e2 : (x.l != y.l) = true := by simp [bne, h2]
      clear key h1 h2
      go_enter Try.func82, Try.ntmps82
      go_wp2
      go_ret
      exact ⟨ret_b (by rw [K.out]; simp), (by repeat (first | (with_reducible exact Later.refl _) | (with_reducible exact Hid.out (by assumption)) | (with_reducible refine Later.setCell ?_ (by simp; omega) _) | (with_reducible refine Later.setCell ?_ (by simp) _) | (with_reducible refine Later.alloc ?_ _) | (with_reducible refine Later.drewN ?_ _) | (with_reducible refine Later.drew ?_) | (with_reducible refine Later.trans ?_ (Hid.out (by assumption)))))⟩
    · have e2 : (x.l != y.l) = false := by simp [bne, h2]
      cases h3 : (x.r == y.r)
      · have K := key _ _ _ _ _ h1 h2 h3 rfl rfl
        have e3 : (x.r != y.r) = true := by simp [bne, h3]
        clear key h1 h2 h3
        go_enter Try.func82, Try.ntmps82
        go_wp2
        go_ret
        exact ⟨ret_b (by rw [K.out]; simp), (by repeat (first | (with_reducible exact Later.refl _) | (with_reducible exact Hid.out (by assumption)) | (with_reducible refine Later.setCell ?_ (by simp; omega) _) | (with_reducible refine Later.setCell ?_ (by simp) _) | (with_reducible refine Later.alloc ?_ _) | (with_reducible refine Later.drewN ?_ _) | (with_reducible refine Later.drew ?_) | (with_reducible refine Later.trans ?_ (Hid.out (by assumption)))))⟩
      · have e3 : (x.r != y.r) = false := by simp [bne, h3]
        cases h4 : (x.a == y.a && x.b == y.b) <;> cases h5 : (x.c == y.c && x.d == y.d)
        all_goals
          have K := key _ _ _ _ _ h1 h2 h3 h4 h5
          have H4 := Lib.hid h4; have H5 := Lib.hid h5
          clear key h1 h2 h3 h4 h5
          go_enter Try.func82, Try.ntmps82
          go_wp2_with (go_at_call 52; refine (l_eqInterval _ _ _ _ _).mono ?_; (try rw [H4.out]); (try rw [H5.out]); rintro e w1 ⟨rfl, hb⟩; obtain ⟨H, hcc, hff, hzz⟩ := later_facts hb; clear hb; (try simp at hzz); (try simp only [World.heap_drewN, World.cell?_drewN, World.frozen?_drewN] at hcc hff); have hz0 : w.heap.size < w1.heap.size := (by omega); (try (have hz1 : w.heap.size + 1 < w1.heap.size := (by omega))); (try (have hz2 : w.heap.size + 1 + 1 < w1.heap.size := (by omega))))
          go_ret
          exact ⟨ret_b (by rw [K.out]; rfl), (by repeat (first | (with_reducible exact Later.refl _) | (with_reducible exact Hid.out (by assumption)) | (with_reducible refine Later.setCell ?_ (by simp; omega) _) | (with_reducible refine Later.setCell ?_ (by simp) _) | (with_reducible refine Later.alloc ?_ _) | (with_reducible refine Later.drewN ?_ _) | (with_reducible refine Later.drew ?_) | (with_reducible refine Later.trans ?_ (Hid.out (by assumption)))))⟩
end Go.Proofs.Ytnmlkigpiaekjaa
namespace Go.Proofs.Ytnmlkigpiaekjaa
open Go.RowKit
set_option maxHeartbeats 2000000
set_option linter.unusedVariables false
set_option linter.unusedSimpArgs false
theorem later_id {w w' : World} (h : Later w w') : Hid (Later w w') := Lib.hid h
theorem SgAt.later {w w' : World} {b o : Nat} {x : Sg} (h : SgAt w b o x) (k : Later w w') : SgAt w' b o x := by
  obtain ⟨h0, h1, h2, h3, h4, h5, h6⟩ := h
  have hb := sg_cell_lt h0
  refine ⟨?_, ?_, ?_, ?_, ?_, ?_, ?_⟩
  · rw [k.cell (p := ⟨b, o, none⟩) hb]; exact h0
  · rw [k.cell (p := ⟨b, o + 1, none⟩) hb]; exact h1
  · rw [k.cell (p := ⟨b, o + 2, none⟩) hb]; exact h2
  · rw [k.cell (p := ⟨b, o + 3, none⟩) hb]; exact h3
  · rw [k.cell (p := ⟨b, o + 4, none⟩) hb]; exact h4
  · rw [k.cell (p := ⟨b, o + 5, none⟩) hb]; exact h5
  · rw [k.cell (p := ⟨b, o + 6, none⟩) hb]; exact h6
theorem sg14 {w : World} {b o b' o' : Nat} {x y : Sg} (h : SgAt w b o x) (k : SgAt w b' o' y) : w.cell? ⟨b, o, none⟩ = some (.int .i64 x.k) ∧ w.cell? ⟨b, o + 1, none⟩ = some (.int .i64 x.l) ∧ w.cell? ⟨b, o + 2, none⟩ = some (.int .i64 x.r) ∧ w.cell? ⟨b, o + 3, none⟩ = some (.int .i64 x.a) ∧ w.cell? ⟨b, o + 4, none⟩ = some (.int .i64 x.b) ∧ w.cell? ⟨b, o + 5, none⟩ = some (.int .i64 x.c) ∧ w.cell? ⟨b, o + 6, none⟩ = some (.int .i64 x.d) ∧ w.cell? ⟨b', o', none⟩ = some (.int .i64 y.k) ∧ w.cell? ⟨b', o' + 1, none⟩ = some (.int .i64 y.l) ∧ w.cell? ⟨b', o' + 2, none⟩ = some (.int .i64 y.r) ∧ w.cell? ⟨b', o' + 3, none⟩ = some (.int .i64 y.a) ∧ w.cell? ⟨b', o' + 4, none⟩ = some (.int .i64 y.b) ∧ w.cell? ⟨b', o' + 5, none⟩ = some (.int .i64 y.c) ∧ w.cell? ⟨b', o' + 6, none⟩ = some (.int .i64 y.d) :=
  ⟨h.1, h.2.1, h.2.2.1, h.2.2.2.1, h.2.2.2.2.1, h.2.2.2.2.2.1, h.2.2.2.2.2.2, k⟩
/-- two lists of segments are equal -/
def eqsB (L M : List Sg) : Bool := decide (L.length = M.length) && (List.range L.length).all fun k => eqB (sx L k) (sx M k)
theorem eqsB_same (L : List Sg) : eqsB L L = true := by
  unfold eqsB
  simp [eqB_iff]
theorem l_eqSegmentS_same (a a' : Option Addr) (n cap n' cap' : Nat) (L : List Sg) (w : World) (hs : Sgs w a n L) (ht : Sgs w a' n' L) :
    Calls Try.prog 53 #[.slice a n cap, .slice a' n' cap'] w fun e w' => e = .returned (.bool true) ∧ Later w w' := by
  obtain rfl : n = n' := by rw [← hs.1, ← ht.1]
  have HS := Lib.hid hs
  have HT := Lib.hid ht
  have hn := hs.2.1
  clear hs ht
  have e0 : ((n : Int) != (n : Int)) = false := by simp
  go_enter Try.func53, Try.ntmps53
  go_wp2
  go_loopw [5] (fun i wr => ∃ k : Nat, k ≤ n ∧ i = .int .i64 k ∧ Later w wr) (fun i _ => n - (intOf i).toNat)
  case atStart => exact ⟨0, by omega, rfl, Later.refl _⟩
  case round =>
    obtain ⟨k, hk, rfl, hlw⟩ := hrel
    have HW := Lib.hid hlw
    clear hlw
    by_cases hlt : k < n
    · obtain ⟨b, off, rfl, hb, hc⟩ := (HS.out.later HW.out).at k hlt
      obtain ⟨b', off', rfl, hb', hc'⟩ := (HT.out.later HW.out).at k hlt
      have C := Lib.hid hc; have C' := Lib.hid hc'
      obtain ⟨c0, c1, c2, c3, c4, c5, c6⟩ := hc
      obtain ⟨d0, d1, d2, d3, d4, d5, d6⟩ := hc'
      go_wp2_with fail
      go_region_held3 (fun w' => w'.cell? ⟨b, off + k * 7, none⟩ = some (.int .i64 (sx L k).k) ∧ w'.cell? ⟨b, off + k * 7 + 1, none⟩ = some (.int .i64 (sx L k).l) ∧ w'.cell? ⟨b, off + k * 7 + 2, none⟩ = some (.int .i64 (sx L k).r) ∧ w'.cell? ⟨b, off + k * 7 + 3, none⟩ = some (.int .i64 (sx L k).a) ∧ w'.cell? ⟨b, off + k * 7 + 4, none⟩ = some (.int .i64 (sx L k).b) ∧ w'.cell? ⟨b, off + k * 7 + 5, none⟩ = some (.int .i64 (sx L k).c) ∧ w'.cell? ⟨b, off + k * 7 + 6, none⟩ = some (.int .i64 (sx L k).d) ∧ w'.cell? ⟨b', off' + k * 7, none⟩ = some (.int .i64 (sx L k).k) ∧ w'.cell? ⟨b', off' + k * 7 + 1, none⟩ = some (.int .i64 (sx L k).l) ∧ w'.cell? ⟨b', off' + k * 7 + 2, none⟩ = some (.int .i64 (sx L k).r) ∧ w'.cell? ⟨b', off' + k * 7 + 3, none⟩ = some (.int .i64 (sx L k).a) ∧ w'.cell? ⟨b', off' + k * 7 + 4, none⟩ = some (.int .i64 (sx L k).b) ∧ w'.cell? ⟨b', off' + k * 7 + 5, none⟩ = some (.int .i64 (sx L k).c) ∧ w'.cell? ⟨b', off' + k * 7 + 6, none⟩ = some (.int .i64 (sx L k).d)) (exact sg14 (C.out.later (by repeat (first | (with_reducible exact Later.refl _) | (with_reducible refine Later.alloc ?_ _) | (with_reducible refine Later.drewN ?_ _) | (with_reducible refine Later.drew ?_) | (with_reducible refine Later.trans ?_ (Hid.out (by assumption)))))) (C'.out.later (by repeat (first | (with_reducible exact Later.refl _) | (with_reducible refine Later.alloc ?_ _) | (with_reducible refine Later.drewN ?_ _) | (with_reducible refine Later.drew ?_) | (with_reducible refine Later.trans ?_ (Hid.out (by assumption)))))))
        (first | (go_at_call 82; refine (l_eqSegment (sx L k) (sx L k) _).mono ?_; rw [(eqB_iff _ _).2 rfl]; rintro e w1 ⟨rfl, hb1⟩; have H1 := Lib.hid hb1; clear hb1))
      all_goals
        go_wp2
        go_roundw
        case rel => exact ⟨k + 1, by omega, by go_num, (by repeat (first | (with_reducible exact Later.refl _) | (with_reducible exact Hid.out (by assumption)) | (with_reducible refine Later.alloc ?_ _) | (with_reducible refine Later.drewN ?_ _) | (with_reducible refine Later.drew ?_) | (with_reducible refine Later.trans ?_ (Hid.out (by assumption)))))⟩
        case measure => simp [intOf]; omega
    · obtain rfl : k = n := by omega
      go_wp2
      go_ret
      exact ⟨rfl, HW.out⟩
theorem l_eqLayout_same (a a' : Option Addr) (n cap n' cap' : Nat) (L : List Sg) (w : World) (hs : Sgs w a n L) (ht : Sgs w a' n' L) :
    Calls Try.prog 23 #[.agg #[.slice a n cap], .agg #[.slice a' n' cap']] w fun e w' => e = .returned (.bool true) ∧ Later w w' := by
  have HS := Lib.hid hs; have HT := Lib.hid ht
  clear hs ht
  go_enter Try.func23, Try.ntmps23
  go_wp2_with (go_at_call 53; refine (l_eqSegmentS_same a a' n cap n' cap' L _ (HS.out.later (by repeat (first | (with_reducible exact Later.refl _) | (with_reducible exact Hid.out (by assumption)) | (with_reducible refine Later.alloc ?_ _) | (with_reducible refine Later.drewN ?_ _) | (with_reducible refine Later.drew ?_) | (with_reducible refine Later.trans ?_ (Hid.out (by assumption)))))) (HT.out.later (by repeat (first | (with_reducible exact Later.refl _) | (with_reducible exact Hid.out (by assumption)) | (with_reducible refine Later.alloc ?_ _) | (with_reducible refine Later.drewN ?_ _) | (with_reducible refine Later.drew ?_) | (with_reducible refine Later.trans ?_ (Hid.out (by assumption))))))).mono ?_; rintro e w1 ⟨rfl, hb1⟩; have H1 := Lib.hid hb1; clear hb1)
  go_ret
  exact ⟨rfl, (by repeat (first | (with_reducible exact Later.refl _) | (with_reducible exact Hid.out (by assumption)) | (with_reducible refine Later.alloc ?_ _) | (with_reducible refine Later.drewN ?_ _) | (with_reducible refine Later.drew ?_) | (with_reducible refine Later.trans ?_ (Hid.out (by assumption)))))⟩
/-- what is left of a bound on the length, or -1 -/
def szI (m : Int) (n : Nat) : Int := if m - n < 0 then -1 else m - n
theorem l_szSegmentS (a : Option Addr) (n cap : Nat) (w : World) (hn : n ≤ 9223372036854775807) :
    Calls Try.prog 50 #[.slice a n cap, .int .i64 1048576] w fun e w' => e = .returned (.int .i64 (szI 1048576 n)) ∧ w = w' := by
  by_cases h : 1048576 < n
  · have e1 : Hid (szI 1048576 n = -1) := Lib.hid (by unfold szI; rw [if_pos (by omega)])
    go_enter Try.func50, Try.ntmps50
    go_wp2
    go_ret
    exact ⟨ret_i64 (by rw [e1.out]), rfl⟩
  · have e1 : Hid (szI 1048576 n = 1048576 - n) := Lib.hid (by unfold szI; rw [if_neg (by omega)])
    have h : n ≤ 1048576 := by omega
    go_enter Try.func50, Try.ntmps50
    go_wp2
    go_ret
    exact ⟨ret_i64 (by rw [e1.out]), rfl⟩
theorem l_szLayout (a : Option Addr) (n cap : Nat) (w : World) (hn : n ≤ 9223372036854775807) :
    Calls Try.prog 19 #[.agg #[.slice a n cap], .int .i64 1048576] w fun e w' => e = .returned (.int .i64 (szI 1048576 n)) ∧ Later w w' := by
  by_cases h : 1048576 < n
  · have e1 : Hid (szI 1048576 n = -1) := Lib.hid (by unfold szI; rw [if_pos (by omega)])
    go_enter Try.func19, Try.ntmps19
    go_wp2_with (go_at_call 50; refine (l_szSegmentS a n cap _ hn).mono ?_; rw [e1.out]; rintro e w' ⟨rfl, rfl⟩)
    go_ret
    exact ⟨ret_i64 (by rw [e1.out]), (by repeat (first | (with_reducible exact Later.refl _) | (with_reducible exact Hid.out (by assumption)) | (with_reducible refine Later.alloc ?_ _) | (with_reducible refine Later.drewN ?_ _) | (with_reducible refine Later.drew ?_) | (with_reducible refine Later.trans ?_ (Hid.out (by assumption)))))⟩
  · have e1 : Hid (szI 1048576 n = 1048576 - n) := Lib.hid (by unfold szI; rw [if_neg (by omega)])
    have h : n ≤ 1048576 := by omega
    go_enter Try.func19, Try.ntmps19
    go_wp2_with (go_at_call 50; refine (l_szSegmentS a n cap _ hn).mono ?_; rw [e1.out]; rintro e w' ⟨rfl, rfl⟩)
    go_ret
    exact ⟨ret_i64 (by rw [e1.out]), (by repeat (first | (with_reducible exact Later.refl _) | (with_reducible exact Hid.out (by assumption)) | (with_reducible refine Later.alloc ?_ _) | (with_reducible refine Later.drewN ?_ _) | (with_reducible refine Later.drew ?_) | (with_reducible refine Later.trans ?_ (Hid.out (by assumption)))))⟩
/-- what a copy of a slice of segments leaves: a row of its own -/
def CopiedS (w : World) (n : Nat) (L : List Sg) (e : Ending) (w' : World) : Prop :=
  ∃ g, e = .returned (.slice (some ⟨g, 0, none⟩) n n) ∧ w.heap.size ≤ g ∧ SgRow w' g n (flt L) ∧ Later w w'
theorem info_seg : (Try.prog.info? 77).map (fun i => (i.zero, i.size, i.bytes)) = some (some (.agg #[.int .i64 0, .int .i64 0, .int .i64 0, .int .i64 0, .int .i64 0, .int .i64 0, .int .i64 0]), 7, 56) := by kernel_rfl
end Go.Proofs.Ytnmlkigpiaekjaa
namespace Go.Proofs.Ytnmlkigpiaekjaa
open Go.RowKit
set_option maxHeartbeats 2000000
set_option linter.unusedVariables false
set_option linter.unusedSimpArgs false
/-- the numbers of a row, of which those of the first k segments are marked -/
def mrkS (f : Nat → Int) (k j : Nat) : Int := if j < k * 7 then 1 + (j : Int) else f j
def MarkedS (w : World) (g n : Nat) (f : Nat → Int) (e : Ending) (w' : World) : Prop :=
  e = .returned (.int .i64 (1 + 7 * (n : Int))) ∧ SgRow w' g n (mrkS f n) ∧ w.grownBy w' (some g)
theorem grown_refl (w : World) (r : Option Nat) : w.grownBy w r := ⟨rfl, rfl, rfl, Nat.le_refl _, fun _ _ _ => rfl⟩
theorem grown_set1 {a b : World} {g : Nat} (h : a.grownBy b (some g)) (j : Nat) (u : Value) : a.grownBy (b.setCell ⟨g, j, none⟩ u) (some g) := grown_trans h (grown_set b g j u)
set_option maxRecDepth 100000 in
theorem l_markSegmentS (g n cap : Nat) (f : Nat → Int) (w : World) (hr : SgRow w g n f) (hn : n ≤ 1048576) :
    Calls Try.prog 54 #[.slice (some ⟨g, 0, none⟩) n cap, .int .i64 1] w (MarkedS w g n f) := by
  have HR := Lib.hid hr
  clear hr
  go_enter Try.func54, Try.ntmps54
  go_wp2
  go_loopw [1, 5] (fun m i wr => ∃ k : Nat, k ≤ n ∧ i = .int .i64 k ∧ m = .int .i64 (1 + 7 * (k : Int)) ∧ SgRow wr g n (mrkS f k) ∧ w.grownBy wr (some g)) (fun _ i _ => n - (intOf i).toNat)
  case atStart => exact ⟨0, by omega, rfl, rfl, HR.out.congr (fun j hj => by unfold mrkS; rw [if_neg (by omega)]), grown_refl _ _⟩
  case round =>
    clear HR
    obtain ⟨k, hk, rfl, rfl, ho, hg⟩ := hrel
    have HR := Lib.hid ho; have HG := Lib.hid hg
    clear ho hg
    by_cases hlt : k < n
    · obtain ⟨u0, u1, u2, u3, u4, u5, u6, z0, z1, z2, z3, z4, z5, z6, g0, g1, g2, g3, g4, g5, g6⟩ := HR.out.seven' k hlt
      go_wp2
      go_roundw
      case rel =>
        refine ⟨k + 1, by omega, by go_num, by go_num, HR.out.put7 k _ _ _ _ _ _ _ ?_, ?_⟩
        · intro j hj
          unfold mrkS
          by_cases h1 : j < k * 7
          · rw [if_pos (by omega), if_neg (by omega), if_neg (by omega), if_neg (by omega), if_neg (by omega), if_neg (by omega), if_neg (by omega), if_neg (by omega), if_pos h1]
          · by_cases h2 : j < (k + 1) * 7
            · rw [if_pos h2]
              obtain ⟨i, rfl⟩ : ∃ i, j = k * 7 + i := ⟨j - k * 7, by omega⟩
              have hi' : i = 0 ∨ i = 1 ∨ i = 2 ∨ i = 3 ∨ i = 4 ∨ i = 5 ∨ i = 6 := by omega
              rcases hi' with rfl | rfl | rfl | rfl | rfl | rfl | rfl <;> simp <;> omega
            · rw [if_neg h2, if_neg (by omega), if_neg (by omega), if_neg (by omega), if_neg (by omega), if_neg (by omega), if_neg (by omega), if_neg (by omega), if_neg h1]
        · exact grown_set1 (grown_set1 (grown_set1 (grown_set1 (grown_set1 (grown_set1 (grown_set1 HG.out _ _) _ _) _ _) _ _) _ _) _ _) _ _
      case measure => simp [intOf]; omega
    · obtain rfl : k = n := by omega
      go_wp2
      go_ret
      exact ⟨rfl, HR.out, HG.out⟩
def MarkedL (w : World) (g n : Nat) (f : Nat → Int) (e : Ending) (w' : World) : Prop :=
  e = .returned (.int .i64 (1 + 7 * (n : Int))) ∧ SgRow w' g n (mrkS f n) ∧ w.grownBy w' (some g)
theorem l_markLayout (g n cap : Nat) (f : Nat → Int) (w : World) (hr : SgRow w g n f) (hn : n ≤ 1048576) :
    Calls Try.prog 24 #[.agg #[.slice (some ⟨g, 0, none⟩) n cap], .int .i64 1] w (MarkedL w g n f) := by
  have HR := Lib.hid (hr.later ((Later.refl _).alloc (.cells #[.slice (some ⟨g, 0, none⟩) n cap] 26)))
  clear hr
  go_enter Try.func24, Try.ntmps24
  go_wp2_with fail
  refine (l_markSegmentS g n cap f _ HR.out hn).mono ?_
  rintro e w1 ⟨rfl, hr, hg⟩
  have R1 := Lib.hid hr
  have G1 := Lib.hid (grown_trans (World.grownBy_alloc w _ (some g)) hg)
  clear hr hg
  go_wp2
  go_ret
  exact ⟨rfl, R1.out, G1.out⟩
end Go.Proofs.Ytnmlkigpiaekjaa
namespace Go.Proofs.Ytnmlkigpiaekjaa
open Go.RowKit
set_option maxHeartbeats 4000000
set_option linter.unusedVariables false
set_option linter.unusedSimpArgs false
theorem grown_allocC {a b : World} {r : Option Nat} (h : a.grownBy b r) (o : Obj) : a.grownBy (b.alloc o) r := grown_trans h (World.grownBy_alloc b o r)
theorem grown_laterC {a b c : World} {r : Option Nat} (h : a.grownBy b r) (k : Later b c) : a.grownBy c r := grown_trans h ⟨k.os, k.tape, k.output, k.size, fun i hi _ => k.block i hi⟩
theorem grown_drewN' {a b : World} {r : Option Nat} (h : a.grownBy b r) (q : Nat) : a.grownBy (b.drewN q) r := grown_trans h (grown_drewN b q r)
theorem grown_drewC {a b : World} {r : Option Nat} (h : a.grownBy b r) : a.grownBy b.drew r := grown_laterC h (Later.refl _).drew
theorem fr_set {g : Nat} {l : List Value} {w : World} (h : Fr g l w) (j : Nat) (u : Value) : Fr g (l.set j u) (w.setCell ⟨g, j, none⟩ u) := by
  refine ⟨by rw [World.size_setCell]; exact h.1, fun i v hi => ?_⟩
  rw [World.frozen?_setCell]
  rw [List.getElem?_set] at hi
  by_cases e : j = i
  · subst e
    rw [if_pos rfl] at hi
    split at hi
    · cases hi
      rename_i hl
      obtain ⟨c, f⟩ := h.2 j _ (List.getElem?_eq_getElem hl)
      exact ⟨World.cell?_setCell_same _ _ _ c, f⟩
    · cases hi
  · rw [if_neg e] at hi
    obtain ⟨c, f⟩ := h.2 i v hi
    refine ⟨?_, f⟩
    rw [World.cell?_setCell_other _ _ _ _ (by simp [e]; try omega)]
    exact c
theorem fr_far {g : Nat} {l : List Value} {w : World} (h : Fr g l w) (p : Addr) (u : Value) (hp : p.block ≠ g) : Fr g l (w.setCell p u) := by
  refine ⟨by rw [World.size_setCell]; exact h.1, fun i v hi => ?_⟩
  obtain ⟨c, f⟩ := h.2 i v hi
  rw [World.frozen?_setCell]
  refine ⟨?_, f⟩
  rw [World.cell?_setCell_far _ _ _ _ hp]
  exact c
theorem fr_kept {g : Nat} {l : List Value} {w w' : World} {r : Option Nat} (h : Fr g l w) (hg : w.grownBy w' r) (hr : r ≠ some g) : Fr g l w' := by
  refine ⟨Nat.lt_of_lt_of_le h.1 hg.size, fun i v hi => ?_⟩
  obtain ⟨c, f⟩ := h.2 i v hi
  exact ⟨hg.cell c (fun e => hr e.symm), by rw [World.frozen?_of_block (w := w) (hg.block g h.1 (fun e => hr e.symm))]; exact f⟩
theorem grown_newset {a b : World} {r : Option Nat} (h : a.grownBy b r) (p : Addr) (u : Value) (hp : a.heap.size ≤ p.block) : a.grownBy (b.setCell p u) r :=
  ⟨h.os, h.tape, h.output, by rw [World.size_setCell]; exact h.size, fun i hi hr => by rw [heap_setCell_other b p i u (by omega)]; exact h.block i hi hr⟩
/-- the closure that sums, its sum in block g -/
def sumF (g : Nat) : Value := .func (.func 76) #[] #[.pointer (some ⟨g, 0, none⟩)]
theorem i_coasting (a b : Int) (w : World) :
    Calls Try.prog 44 #[.agg #[.int .i64 a, .int .i64 b]] w fun e w' => ∃ g, e = .returned (sumF g) ∧ w.heap.size ≤ g ∧ Fr g [.int .i64 a, .int .i64 b] w' ∧ Later w w' := by
  go_enter Try.func44, Try.ntmps44
  go_wp2_with fail
  go_ret
  have F1 := fr_alloc (X := w.alloc (.cells #[.int .i64 a, .int .i64 b] 28)) (l := [.int .i64 a, .int .i64 b]) (T := 28) (Later.refl _)
  rw [World.size_alloc] at F1
  exact ⟨w.heap.size + 1, rfl, by omega, F1, (by repeat (first | (with_reducible exact Later.refl _) | (with_reducible exact Hid.out (by assumption)) | (with_reducible refine Later.alloc ?_ _) | (with_reducible refine Later.setCell ?_ (by simp; omega) _) | (with_reducible refine Later.setCell ?_ (by simp) _) | (with_reducible refine Later.drewN ?_ _) | (with_reducible refine Later.drew ?_) | (with_reducible refine Later.trans ?_ (Hid.out (by assumption)))))⟩
theorem i_coasting1 (x : Sg) (g : Nat) (a b : Int) (w : World) (h : sgB x = true) (hF : Fr g [.int .i64 a, .int .i64 b] w) (ha : -1000000000000 ≤ a) (ha' : a ≤ 1000000000000) (hb : -1000000000000 ≤ b) (hb' : b ≤ 1000000000000) :
    Calls Try.prog 76 #[.agg #[.int .i64 x.k, .int .i64 x.l, .int .i64 x.r, .int .i64 x.a, .int .i64 x.b, .int .i64 x.c, .int .i64 x.d], .pointer (some ⟨g, 0, none⟩)] w fun e w' => e = .returned (.agg #[.int .i64 (a + chL x), .int .i64 (b + chH x)]) ∧ Fr g [.int .i64 (a + chL x), .int .i64 (b + chH x)] w' ∧ w.grownBy w' (some g) := by
  obtain ⟨c1, c2, c3⟩ := ch_bd x h
  have hlt := hF.lt
  have HF := Lib.hid hF
  clear hF
  go_enter Try.func76, Try.ntmps76
  go_upto_region 1 with (fail)
  refine into (fun w' => Fr w.heap.size [.int .i64 x.k, .int .i64 x.l, .int .i64 x.r, .int .i64 x.a, .int .i64 x.b, .int .i64 x.c, .int .i64 x.d] w' ∧ Fr (w.heap.size + 1) [.int .i64 0, .int .i64 0] w' ∧ Fr g [.int .i64 a, .int .i64 b] w' ∧ Later w w') ⟨?_, ?_, fr_later HF.out (by repeat (first | (with_reducible exact Later.refl _) | (with_reducible exact Hid.out (by assumption)) | (with_reducible refine Later.alloc ?_ _) | (with_reducible refine Later.setCell ?_ (by simp; omega) _) | (with_reducible refine Later.setCell ?_ (by simp) _) | (with_reducible refine Later.drewN ?_ _) | (with_reducible refine Later.drew ?_) | (with_reducible refine Later.trans ?_ (Hid.out (by assumption))))), (by repeat (first | (with_reducible exact Later.refl _) | (with_reducible exact Hid.out (by assumption)) | (with_reducible refine Later.alloc ?_ _) | (with_reducible refine Later.setCell ?_ (by simp; omega) _) | (with_reducible refine Later.setCell ?_ (by simp) _) | (with_reducible refine Later.drewN ?_ _) | (with_reducible refine Later.drew ?_) | (with_reducible refine Later.trans ?_ (Hid.out (by assumption)))))⟩ ?_
  · exact fr_later (fr_alloc (X := w) (l := [.int .i64 x.k, .int .i64 x.l, .int .i64 x.r, .int .i64 x.a, .int .i64 x.b, .int .i64 x.c, .int .i64 x.d]) (T := 77) (Later.refl _)) ((Later.refl _).alloc (.cells #[.int .i64 0, .int .i64 0] 28))
  · have F2 := fr_alloc (X := w.alloc (.cells #[.int .i64 x.k, .int .i64 x.l, .int .i64 x.r, .int .i64 x.a, .int .i64 x.b, .int .i64 x.c, .int .i64 x.d] 77)) (l := [.int .i64 0, .int .i64 0]) (T := 28) (Later.refl _)
    rw [World.size_alloc] at F2
    exact F2
  rintro W ⟨X, R, F, hl⟩
  have HL := Lib.hid hl
  obtain ⟨x0, x1, x2, x3, x4, x5, x6, _⟩ := Fr.o7 X
  obtain ⟨r1, r2, r3, r4⟩ := Fr.o2 R
  obtain ⟨f1, f2, f3, f4⟩ := Fr.o2 F
  clear hl X
  go_region_with (first
      | (go_at_call 78; refine (i_coastingChange x _ h).mono ?_; rintro e w1 ⟨rfl, hb⟩; have H := Lib.hid hb; (first | (have F := fr_later F hb; obtain ⟨f1, f2, f3, f4⟩ := Fr.o2 F) | (have F := fr_later F (later_undrew hb); obtain ⟨f1, f2, f3, f4⟩ := Fr.o2 F) | (have F := fr_later F (later_undrewN hb); obtain ⟨f1, f2, f3, f4⟩ := Fr.o2 F)); (first | (have R := fr_later R hb; obtain ⟨r1, r2, r3, r4⟩ := Fr.o2 R) | (have R := fr_later R (later_undrew hb); obtain ⟨r1, r2, r3, r4⟩ := Fr.o2 R) | (have R := fr_later R (later_undrewN hb); obtain ⟨r1, r2, r3, r4⟩ := Fr.o2 R)); clear hb)
      | (go_at_call 77; refine (i_plus _ _ _ _ _ (by omega) (by omega) (by omega) (by omega) (by omega) (by omega) (by omega) (by omega)).mono ?_; rintro e w1 ⟨rfl, hb⟩; have H := Lib.hid hb; (first | (have F := fr_later F hb; obtain ⟨f1, f2, f3, f4⟩ := Fr.o2 F) | (have F := fr_later F (later_undrew hb); obtain ⟨f1, f2, f3, f4⟩ := Fr.o2 F) | (have F := fr_later F (later_undrewN hb); obtain ⟨f1, f2, f3, f4⟩ := Fr.o2 F)); (first | (have R := fr_later R hb; obtain ⟨r1, r2, r3, r4⟩ := Fr.o2 R) | (have R := fr_later R (later_undrew hb); obtain ⟨r1, r2, r3, r4⟩ := Fr.o2 R) | (have R := fr_later R (later_undrewN hb); obtain ⟨r1, r2, r3, r4⟩ := Fr.o2 R)); clear hb))
  all_goals
    have G : Hid (w.grownBy w1 (some g)) := Lib.hid (grown_laterC (grown_refl w (some g)) (by repeat (first | (with_reducible exact Later.refl _) | (with_reducible exact Hid.out (by assumption)) | (with_reducible refine Later.alloc ?_ _) | (with_reducible refine Later.setCell ?_ (by simp; omega) _) | (with_reducible refine Later.setCell ?_ (by simp) _) | (with_reducible refine Later.drewN ?_ _) | (with_reducible refine Later.drew ?_) | (with_reducible refine Later.trans ?_ (Hid.out (by assumption))))))
    have hne : ¬ g = w.heap.size + 1 := by omega
    have hne' : ¬ w.heap.size + 1 = g := by omega
    go_wp2_with fail
    refine bodyPost_ret (v := .agg #[.int .i64 (a + chL x), .int .i64 (b + chH x)]) (by simp [results, Try.results76, go_sem, *]) rfl ⟨rfl, ?_, ?_⟩
    · exact fr_far (fr_far (fr_set (fr_set F 0 _) 1 _) _ _ (by simp <;> omega)) _ _ (by simp <;> omega)
    · exact grown_newset (grown_newset (grown_set1 (grown_set1 G.out _ _) _ _) _ _ (by simp)) _ _ (by simp)
end Go.Proofs.Ytnmlkigpiaekjaa
namespace Go.Proofs.Ytnmlkigpiaekjaa
open Go.RowKit
set_option maxHeartbeats 2000000
set_option linter.unusedVariables false
set_option linter.unusedSimpArgs false
theorem i_IsLayout (a : Option Addr) (n cap : Nat) (L : List Sg) (w : World) (hs : Sgs w a n L) :
    Calls Try.prog 75 #[.agg #[.slice a n cap]] w fun e w' => e = .returned (.bool (layB L)) ∧ Later w w' := by
  have HS := Lib.hid hs
  have HL := Lib.hid hs.1
  clear hs
  by_cases h : 3 ≤ n ∧ n ≤ 24
  · obtain ⟨h1, h2⟩ := h
    obtain ⟨b, off, rfl, hb, hc⟩ := HS.out.at (n - 1) (by omega)
    obtain ⟨c0, c1, c2, c3, c4, c5, c6⟩ := hc
    clear c1 c2 c3 c4 c5 c6
    by_cases hk : (sx L (n - 1)).k = 4
    · have e4 : ((sx L (n - 1)).k != 4) = false := by simp [hk]
      have HK := Lib.hid hk
      clear hk
      go_enter Try.func75, Try.ntmps75
      go_wp2_with fail
      clear c0 e4 hb
      go_loopw [4, 29] (fun hh i wr => ∃ k : Nat, k ≤ n ∧ i = .int .i64 k ∧ hh = .int .i64 (upR L k) ∧ okB L k = true ∧ Later w wr) (fun _ i _ => n - (intOf i).toNat)
      case atStart => exact ⟨0, by omega, rfl, by rw [upR_0], okB_0 L, (Later.refl _).alloc _⟩
      case round =>
        obtain ⟨k, hk, rfl, rfl, hok, hlw⟩ := hrel
        have HO := Lib.hid hok; have HW := Lib.hid hlw; have HZ := Lib.hid hlw.size
        clear hok hlw
        obtain ⟨bd1, bd2, _, _⟩ := up_bd L k (by rw [HL.out]; exact hk) HO.out
        by_cases hlt : k < n
        · obtain ⟨b', off', hbb, hb', hc⟩ := (HS.out.later HW.out).at k hlt
          simp only [Option.some.injEq, Addr.mk.injEq, and_true] at hbb
          obtain ⟨rfl, rfl⟩ := hbb
          obtain ⟨c0, c1, c2, c3, c4, c5, c6⟩ := hc
          cases hv : sgB (sx L k)
          · have HV := Lib.hid (layB_bad HL.out hlt hv)
            go_wp2_with (go_at_call 97; refine (i_IsSegment (sx L k) _).mono ?_; rintro e w1 ⟨rfl, hb⟩; obtain ⟨H, hcc, hff, hzz⟩ := later_facts hb; clear hb; (try simp at hzz); (try simp only [World.heap_drewN, World.cell?_drewN, World.frozen?_drewN] at hcc hff))
            go_ret
            exact ⟨ret_b (by rw [HV.out]), (by repeat (first | exact Later.refl _ | exact Hid.out (by assumption) | refine Later.set_at ?_ ?_ _ _ | refine Later.alloc ?_ _ | refine Later.drewN ?_ _ | refine Later.drew ?_ | refine Later.trans ?_ (Hid.out (by assumption))))⟩
          · have HV := Lib.hid hv
            have hr := (sgB_iff _).1 hv
            have r1 := hr.2.2.1.1; have r2 := hr.2.2.1.2.1
            clear hr
            go_wp2_with (go_at_call 97; refine (i_IsSegment (sx L k) _).mono ?_; rintro e w1 ⟨rfl, hb⟩; obtain ⟨H, hcc, hff, hzz⟩ := later_facts hb; clear hb; (try simp at hzz); (try simp only [World.heap_drewN, World.cell?_drewN, World.frozen?_drewN] at hcc hff))
            go_roundw
            case rel => exact ⟨k + 1, by omega, by go_num, by rw [upR_succ L k (by rw [HL.out]; exact hlt)], by rw [okB_succ L k (by rw [HL.out]; exact hlt), HO.out, HV.out]; rfl, (by repeat (first | exact Later.refl _ | exact Hid.out (by assumption) | refine Later.set_at ?_ ?_ _ _ | refine Later.alloc ?_ _ | refine Later.drewN ?_ _ | refine Later.drew ?_ | refine Later.trans ?_ (Hid.out (by assumption))))⟩
            case measure => simp [intOf]; omega
        · obtain rfl : k = n := by omega
          have HF := Lib.hid (layB_fin HL.out h1 h2 HK.out HO.out)
          clear bd1 bd2
          go_wp2
          go_ret
          exact ⟨ret_b (by rw [HF.out]; first | rfl | (simp; done)), (by repeat (first | exact Later.refl _ | exact Hid.out (by assumption) | refine Later.set_at ?_ ?_ _ _ | refine Later.alloc ?_ _ | refine Later.drewN ?_ _ | refine Later.drew ?_ | refine Later.trans ?_ (Hid.out (by assumption))))⟩
    · have e4 : ((sx L (n - 1)).k != 4) = true := by simpa using hk
      have HF := Lib.hid (layB_last HL.out hk)
      clear hk
      go_enter Try.func75, Try.ntmps75
      go_wp2_with fail
      go_ret
      exact ⟨ret_b (by rw [HF.out]), (by repeat (first | exact Later.refl _ | exact Hid.out (by assumption) | refine Later.set_at ?_ ?_ _ _ | refine Later.alloc ?_ _ | refine Later.drewN ?_ _ | refine Later.drew ?_ | refine Later.trans ?_ (Hid.out (by assumption))))⟩
  · have HF := Lib.hid (layB_len HL.out h)
    have hn : n < 3 ∨ 24 < n := by omega
    clear h
    rcases hn with hn | hn
    all_goals
      go_enter Try.func75, Try.ntmps75
      go_wp2_with fail
      go_ret
      exact ⟨ret_b (by rw [HF.out]), (by repeat (first | exact Later.refl _ | exact Hid.out (by assumption) | refine Later.set_at ?_ ?_ _ _ | refine Later.alloc ?_ _ | refine Later.drewN ?_ _ | refine Later.drew ?_ | refine Later.trans ?_ (Hid.out (by assumption))))⟩
end Go.Proofs.Ytnmlkigpiaekjaa
namespace Go.Proofs.Ytnmlkigpiaekjaa
set_option maxHeartbeats 2000000
set_option linter.unusedVariables false
/-- the set s with r -/
def updB (s : Nat → Bool) (r : Nat) : Nat → Bool := fun j => if j = r then true else s j
theorem updB_at (s : Nat → Bool) (r : Nat) : updB s r r = true := by simp [updB]
theorem updB_ne (s : Nat → Bool) (r j : Nat) (h : j ≠ r) : updB s r j = s j := by simp [updB, h]
/-- the brakes among the first k segments of a run -/
def bsK (L : List Sg) (f : Nat) : Nat → Nat → Bool
  | 0 => fun _ => false
  | k + 1 => if (sx L ((f + k) % L.length)).k = 3 then updB (bsK L f k) ((f + k) % L.length) else bsK L f k
/-- the elements of a set below k -/
def lsK (s : Nat → Bool) : Nat → List Int
  | 0 => []
  | k + 1 => if s k = true then lsK s k ++ [(k : Int)] else lsK s k
theorem lsK_congr {s t : Nat → Bool} : ∀ k, (∀ j, j < k → s j = t j) → lsK s k = lsK t k
  | 0, _ => rfl
  | k + 1, h => by unfold lsK; rw [lsK_congr k (fun j hj => h j (by omega)), h k (by omega)]
theorem lsK_len (s : Nat → Bool) : ∀ k, (lsK s k).length ≤ k
  | 0 => by simp [lsK]
  | k + 1 => by
    have := lsK_len s k
    unfold lsK
    split
    · simp; omega
    · omega
theorem lsK_in (s : Nat → Bool) : ∀ k, k ≤ 1000000 → ∀ x ∈ lsK s k, InR x
  | 0, _, x, hx => by simp [lsK] at hx
  | k + 1, h, x, hx => by
    unfold lsK at hx
    split at hx
    · rcases List.mem_append.1 hx with hx | hx
      · exact lsK_in s k (by omega) x hx
      · simp at hx; subst hx; constructor <;> omega
    · exact lsK_in s k (by omega) x hx
theorem lsK_more {s : Nat → Bool} {n : Nat} (h : ∀ j, n ≤ j → s j = false) : ∀ m, n ≤ m → lsK s m = lsK s n
  | 0, hm => by obtain rfl : n = 0 := by omega
                rfl
  | m + 1, hm => by
    by_cases e : n = m + 1
    · rw [e]
    · have : lsK s (m + 1) = lsK s m := by
        show (if s m = true then lsK s m ++ [(m : Int)] else lsK s m) = _
        rw [h m (by omega)]; rfl
      rw [this, lsK_more h m (by omega)]
/-- the place of the k-th segment of a run -/
theorem idx_cases {n f k : Nat} (hf : f < n) (hk : k < n) : (f + k) % n = if f + k < n then f + k else f + k - n := by
  split
  · rw [Nat.mod_eq_of_lt (by omega)]
  · rename_i h
    rw [Nat.mod_eq_sub_mod (by omega), Nat.mod_eq_of_lt (by omega)]
theorem back_cases {n f j : Nat} (hf : f < n) (hj : j < n) : ((j : Int) - f) % (n : Int) = if f ≤ j then (j : Int) - f else (j : Int) - f + n := by
  split
  · rw [Int.emod_eq_of_lt (by omega) (by omega)]
  · rw [← Int.add_emod_right, Int.emod_eq_of_lt (by omega) (by omega)]
theorem bsK_iff (L : List Sg) (f : Nat) (hf : f < L.length) : ∀ c, c ≤ L.length → ∀ j, j < L.length → (bsK L f c j = true ↔ (sx L j).k = 3 ∧ ((j : Int) - f) % (L.length : Int) < c)
  | 0, _, j, hj => by
    have := back_cases hf hj
    constructor
    · intro h; cases h
    · rintro ⟨_, h⟩
      split at this <;> omega
  | c + 1, hc, j, hj => by
    have ih := bsK_iff L f hf c (by omega) j hj
    have e1 := back_cases hf hj
    have e2 := idx_cases hf (show c < L.length by omega)
    have key : ((j : Int) - f) % (L.length : Int) = c ↔ j = (f + c) % L.length := by
      split at e1 <;> split at e2 <;> omega
    unfold bsK
    generalize hm : ((j : Int) - f) % (L.length : Int) = m at *
    generalize hr : (f + c) % L.length = r at *
    by_cases hj2 : j = r
    · have hm : m = c := key.2 hj2
      subst hj2
      split
      · rename_i h3
        constructor
        · intro _; exact ⟨h3, by omega⟩
        · intro _; exact updB_at _ _
      · rename_i h3
        rw [ih]
        constructor
        · rintro ⟨h4, _⟩; exact absurd h4 h3
        · rintro ⟨h4, _⟩; exact absurd h4 h3
    · have hm : m ≠ c := fun e => hj2 (key.1 e)
      have e : (if (sx L r).k = 3 then updB (bsK L f c) r else bsK L f c) j = bsK L f c j := by
        split
        · exact updB_ne _ _ _ hj2
        · rfl
      rw [e, ih]
      constructor
      · rintro ⟨h1, h2⟩; exact ⟨h1, by omega⟩
      · rintro ⟨h1, h2⟩; exact ⟨h1, by omega⟩
theorem bsK_far (L : List Sg) (f : Nat) (h0 : 0 < L.length) : ∀ c j, L.length ≤ j → bsK L f c j = false
  | 0, _, _ => rfl
  | c + 1, j, hj => by
    have ih := bsK_far L f h0 c j hj
    have hr : (f + c) % L.length < L.length := Nat.mod_lt _ h0
    unfold bsK
    split
    · rw [updB_ne _ _ _ (by omega)]; exact ih
    · exact ih
/-- whether a segment is a brake of a run, by its distance from the run's beginning -/
def mdS (L : List Sg) (f c : Int) (j : Nat) : Bool := decide ((sx L j).k = 3) && decide (((j : Int) - f) % (L.length : Int) < c)
/-- the code and the brakes of BrakesIn -/
def biE (L : List Sg) (f c : Int) : Int := if sgE L f c ≠ 0 then sgE L f c else if (L.length : Int) < c then 2 else 0
def biV (L : List Sg) (f c : Int) : List Int := if biE L f c = 0 then lsK (bsK L f.toNat c.toNat) 24 else []
theorem biV_len (L : List Sg) (f c : Int) : (biV L f c).length ≤ 24 := by
  unfold biV
  split
  · exact lsK_len _ 24
  · simp
theorem biV_model (L : List Sg) (f c : Nat) (hf : f < L.length) (hc : c ≤ L.length) (h24 : L.length ≤ 24) : lsK (bsK L f c) 24 = lsK (mdS L f c) L.length := by
  rw [lsK_more (n := L.length) (fun j hj => bsK_far L f (by omega) c j hj) 24 h24]
  refine lsK_congr _ fun j hj => ?_
  rw [Bool.eq_iff_iff, bsK_iff L f hf c hc j hj]
  unfold mdS
  rw [Bool.and_eq_true, decide_eq_true_iff, decide_eq_true_iff]
end Go.Proofs.Ytnmlkigpiaekjaa
namespace Go.Proofs.Ytnmlkigpiaekjaa
open Go.RowKit
set_option maxHeartbeats 2000000
set_option linter.unusedVariables false
set_option linter.unusedSimpArgs false
/-- 'the slice value (a, n, ..) of structs that are wd cells wide reads as the numbers l' -/
def Wd (w : World) (a : Option Addr) (n wd : Nat) (l : List Int) : Prop :=
  l.length = n * wd ∧ n ≤ 9223372036854775807 ∧ (∀ j, j < n * wd → ∃ b off, a = some ⟨b, off, none⟩ ∧ w.cell? ⟨b, off + j, none⟩ = some (.int .i64 (gx l j))) ∧ ∀ x ∈ l, InR x
theorem Wd.rng {w : World} {a : Option Addr} {n wd : Nat} {l : List Int} (h : Wd w a n wd l) (j : Nat) (hj : j < n * wd) : InR (gx l j) := h.2.2.2 _ (gx_mem l j (by rw [h.1]; exact hj))
theorem Wd.later {w w' : World} {a : Option Addr} {n wd : Nat} {l : List Int} (h : Wd w a n wd l) (hb : Later w w') : Wd w' a n wd l := by
  obtain ⟨h1, h2, h3, h4⟩ := h
  refine ⟨h1, h2, fun j hj => ?_, h4⟩
  obtain ⟨b, off, rfl, hc⟩ := h3 j hj
  exact ⟨b, off, rfl, by rw [hb.cell (p := ⟨b, off + j, none⟩) (cell_lt hc)]; exact hc⟩
theorem Wd.kept {w w' : World} {a : Option Addr} {n wd : Nat} {l : List Int} {r : Option Nat} (h : Wd w a n wd l) (hg : w.grownBy w' r) (hr : ∀ x, a = some x → r ≠ some x.block) : Wd w' a n wd l := by
  obtain ⟨h1, h2, h3, h4⟩ := h
  refine ⟨h1, h2, fun j hj => ?_, h4⟩
  obtain ⟨b, off, rfl, hc⟩ := h3 j hj
  exact ⟨b, off, rfl, hg.cell hc (fun e => hr _ rfl e.symm)⟩
/-- element k of such a slice, its cells from k * 2 on -/
theorem Wd.two {w : World} {a : Option Addr} {n : Nat} {l : List Int} (h : Wd w a n 2 l) (k : Nat) (hk : k < n) :
    ∃ b off, a = some ⟨b, off, none⟩ ∧ w.cell? ⟨b, off + k * 2, none⟩ = some (.int .i64 (gx l (k * 2))) ∧ w.cell? ⟨b, off + k * 2 + 1, none⟩ = some (.int .i64 (gx l (k * 2 + 1))) := by
  obtain ⟨b, off, rfl, h0⟩ := h.2.2.1 (k * 2) (by omega)
  obtain ⟨b', off', e, h1⟩ := h.2.2.1 (k * 2 + 1) (by omega)
  cases e
  exact ⟨b, off, rfl, h0, h1⟩
/-- 'v is such a slice of the call's own, in blocks from base on' -/
def OwnW (w : World) (base : Nat) (T : TypeId) (wd : Nat) (v : Value) (n : Nat) (l : List Int) : Prop :=
  w.ownsRow base T wd v n (l.map (Value.int .i64)) ∧ ∀ x ∈ l, InR x
theorem OwnW.lt {w : World} {base wd n : Nat} {T : TypeId} {v : Value} {l : List Int} (h : OwnW w base T wd v n l) : ∀ k, v.ownBlock = some k → base ≤ k ∧ k < w.heap.size := h.1.lt
theorem OwnW.len {w : World} {base wd n : Nat} {T : TypeId} {v : Value} {l : List Int} (h : OwnW w base T wd v n l) : l.length = n * wd := by have := h.1.1; simpa using this
theorem OwnW.kept {w w' : World} {base wd n : Nat} {T : TypeId} {v : Value} {l : List Int} {row : Option Nat} (h : OwnW w base T wd v n l) (hg : w.grownBy w' row) (hr : ∀ k, v.ownBlock = some k → row ≠ some k) : OwnW w' base T wd v n l := by
  refine ⟨h.1.kept hg ?_, h.2⟩
  cases hv : v.ownBlock with
  | none => exact .inl rfl
  | some k => exact .inr (fun e => hr k hv e.symm)
theorem OwnW.later {w w' : World} {base wd n : Nat} {T : TypeId} {v : Value} {l : List Int} (h : OwnW w base T wd v n l) (k : Later w w') : OwnW w' base T wd v n l :=
  h.kept (row := none) ⟨k.os, k.tape, k.output, k.size, fun i hi _ => k.block i hi⟩ (fun _ _ e => by cases e)
theorem OwnW.mono {w : World} {base base' wd n : Nat} {T : TypeId} {v : Value} {l : List Int} (h : OwnW w base T wd v n l) (hb : base' ≤ base) : OwnW w base' T wd v n l := by
  refine ⟨⟨h.1.1, ?_⟩, h.2⟩
  rcases h.1.2 with h0 | ⟨g, cap, cur, e, hg, r⟩
  · exact .inl h0
  · exact .inr ⟨g, cap, cur, e, by omega, r⟩
theorem ownW_none (w : World) (base wd : Nat) (T : TypeId) : OwnW w base T wd (.slice none 0 0) 0 [] := ⟨⟨by simp, .inl ⟨rfl, rfl⟩⟩, fun x hx => by simp at hx⟩
theorem ownW_new (w : World) (base wd : Nat) (T : TypeId) (h : base ≤ w.heap.size) : OwnW (w.alloc (.cells #[] T)) base T wd (.slice (some ⟨w.heap.size, 0, none⟩) 0 0) 0 [] :=
  ⟨World.ownsRow_made w #[] 0 h (by unfold maxLen; omega) (by simp), fun x hx => by simp at hx⟩
theorem OwnW.wd {w : World} {base wd n : Nat} {T : TypeId} {v : Value} {l : List Int} (h : OwnW w base T wd v n l) : ∃ a cap, v = .slice a n cap ∧ n ≤ cap ∧ Wd w a n wd l ∧ (∀ x, a = some x → base ≤ x.block ∧ x.block < w.heap.size) ∧ (a = none → cap = 0) := by
  have h1 := h.1
  have hlen := h.len
  rcases h1.2 with ⟨rfl, rfl⟩ | ⟨g, cap, cur, rfl, hb, hg, hnc, hcm, _⟩
  · exact ⟨none, 0, rfl, Nat.le_refl _, ⟨hlen, by omega, fun j hj => by simp at hj, h.2⟩, fun x hx => by (cases hx), fun _ => rfl⟩
  · have hm := hcm
    unfold maxLen at hm
    refine ⟨some ⟨g, 0, none⟩, cap, rfl, hnc, ⟨hlen, by omega, fun j hj => ⟨g, 0, rfl, ?_⟩, h.2⟩, fun x hx => by cases hx; exact ⟨hb, (h1.lt g rfl).2⟩, fun e => by cases e⟩
    rw [Nat.zero_add, h1.cellAt j hj, List.getElem?_map, List.getElem?_eq_getElem (by omega), ← gx_of l j (by omega)]; rfl
/-- append(out, M...), the cells of M in a new block -/
theorem appW {ops : Array Oper} {rest : List Oper} {o : Oper} {act : Act} {Q : Exit → Act → World → Prop} (hgd : o.guard = none) (s x : Operand) (T S : TypeId) (z : Value) (wd bytes : Nat)
    (hI : (Try.prog.info? T).map (fun i => (i.zero, i.size, i.bytes)) = some (some z, wd, bytes)) (hU : Try.prog.underlying S = some (.slice T)) (hzs : z.cells.size = wd) (hwd : 0 < wd) (hby : bytes ≤ 1000)
    (ho : o.op = .call { callee := .builtin .append, args := #[s, x], argTypes := #[S, S] })
    (base : Nat) (W : World) (T' : TypeId) (v : Value) (n m : Nat) (l M : List Int) (cells : Array Value) (hcells : cells = (M.map (Value.int .i64)).toArray) (hm : M.length = m * wd) (hown : OwnW W base T wd v n l) (hs : act.eval s = v) (hx : act.eval x = .slice (some ⟨W.heap.size, 0, none⟩) m m) (hy : ∀ x ∈ M, InR x) (hl : n + m ≤ 1000000000) (hbase : base ≤ W.heap.size)
    (h : ∀ v' w', OwnW w' base T wd v' (n + m) (l ++ M) → W.grownBy w' v.ownBlock → wpList Try.prog ops Q rest (act.put o.dst v') w') : wpList Try.prog ops Q (o :: rest) act (W.alloc (.cells cells T')) := by
  subst hcells
  obtain ⟨i0, hi, hz0, hz1, hz2⟩ := info_parts hI
  have hc : ∀ j u, (M.map (Value.int .i64))[j]? = some u → (W.alloc (.cells (M.map (Value.int .i64)).toArray T')).cell? ⟨W.heap.size, j, none⟩ = some u := by
    intro j u hu
    rw [cell_of_row _ _ j _ T' (0, 0) (heap_alloc_new W _)]
    simpa using hu
  have hown' : (W.alloc (.cells (M.map (Value.int .i64)).toArray T')).ownsRow base T wd v n (l.map (Value.int .i64)) := hown.1.alloc _
  have hbb : (n + m) * bytes ≤ 1000000000 * 1000 := Nat.mul_le_mul hl hby
  refine wpList_append_own _ hgd s x _ ho base T i0 z wd bytes hU hi hz0 hz1 hz2 hzs hwd v n _ hs hown' ⟨W.heap.size, 0, none⟩ m m (M.map (Value.int .i64)) hx (by rw [List.length_map, hm]) ?_ ?_ (by unfold maxLen; omega) (by omega) (by show base ≤ (W.alloc _).heap.size; simp; omega) ?_
  · intro j u hj
    rw [Addr.add_lit, Nat.zero_add]
    exact hc j u hj
  · intro u hu
    obtain ⟨y, _, rfl⟩ := List.mem_map.1 hu
    rfl
  · intro v' w' h1 h2 _
    refine h v' w' ⟨?_, ?_⟩ (grown_trans (World.grownBy_alloc W _ _) h2)
    · rw [List.map_append]; exact h1
    · intro z hz
      rcases List.mem_append.1 hz with hz | hz
      · exact hown.2 z hz
      · exact hy z hz
/-- the numbers of a list of intervals, of which k are marked -/
def mrk2 (l : List Int) (k : Nat) : List Int := (List.range l.length).map fun j => if j < k * 2 then 1 + (j : Int) else gx l j
theorem mrk2_len (l : List Int) (k : Nat) : (mrk2 l k).length = l.length := by simp [mrk2]
theorem mrk2_get (l : List Int) (k j : Nat) (h : j < l.length) : (mrk2 l k)[j]? = some (if j < k * 2 then 1 + (j : Int) else gx l j) := by simp [mrk2, h]
theorem mrk2_gx (l : List Int) (k j : Nat) (h : j < l.length) (hj : j < k * 2) : gx (mrk2 l k) j = 1 + (j : Int) := by
  rw [gx_of _ _ (by rw [mrk2_len]; exact h)]
  simp [mrk2, hj]
theorem mrk2_0 (l : List Int) : mrk2 l 0 = l := by
  apply List.ext_getElem?
  intro j
  by_cases h : j < l.length
  · rw [mrk2_get l 0 j h, if_neg (by omega), List.getElem?_eq_getElem h, gx_of l j h]
  · rw [List.getElem?_eq_none (by rw [mrk2_len]; omega), List.getElem?_eq_none (by omega)]
theorem mrk2_set (l : List Int) (k : Nat) (hk : k * 2 + 1 < l.length) : ((mrk2 l k).set (k * 2) (1 + ((k * 2 : Nat) : Int))).set (k * 2 + 1) (1 + ((k * 2 + 1 : Nat) : Int)) = mrk2 l (k + 1) := by
  apply List.ext_getElem?
  intro j
  by_cases h : j < l.length
  · rw [List.getElem?_set, List.getElem?_set, List.length_set, mrk2_len, mrk2_get l k j h, mrk2_get l (k + 1) j h]
    by_cases e : k * 2 + 1 = j
    · subst e; rw [if_pos rfl, if_pos h, if_pos (by omega)]
    · rw [if_neg e]
      by_cases e2 : k * 2 = j
      · subst e2; rw [if_pos rfl, if_pos h, if_pos (by omega)]
      · rw [if_neg e2]
        by_cases c : j < k * 2
        · rw [if_pos c, if_pos (by omega)]
        · rw [if_neg c, if_neg (by omega)]
  · rw [List.getElem?_eq_none (by simp [mrk2]; omega), List.getElem?_eq_none (by simp [mrk2]; omega)]
theorem mrk2_in (l : List Int) (k : Nat) (hl : l.length ≤ 1000000000) (h : ∀ x ∈ l, InR x) : ∀ x ∈ mrk2 l k, InR x := by
  intro x hx
  obtain ⟨j, hj, rfl⟩ := List.mem_map.1 hx
  rw [List.mem_range] at hj
  by_cases c : j < k * 2
  · simp only [if_pos c]; exact ⟨by omega, by omega⟩
  · simp only [if_neg c]; exact h _ (gx_mem l j hj)
end Go.Proofs.Ytnmlkigpiaekjaa
namespace Go.Proofs.Ytnmlkigpiaekjaa
open Go.RowKit
set_option maxHeartbeats 4000000
set_option linter.unusedVariables false
set_option linter.unusedSimpArgs false
theorem sgs_at {w : World} {b off n : Nat} {L : List Sg} (h : Sgs w (some ⟨b, off, none⟩) n L) (k : Nat) (hk : k < n) : SgAt w b (off + k * 7) (sx L k) := by
  obtain ⟨b', off', e, _, h⟩ := h.at k hk
  cases e
  exact h
theorem i_indexAlong (a : Option Addr) (n cap : Nat) (f k r : Nat) (w : World) (h0 : 0 < n) (h24 : n ≤ 24) (hf : f ≤ 24) (hk : k ≤ 24) (hr : r = (f + k) % n) :
    Calls Try.prog 68 #[.agg #[.slice a n cap], .int .i64 f, .int .i64 k] w fun e w' => e = .returned (.int .i64 (r : Int)) ∧ Later w w' := by
  have hmod : ((f : Int) + (k : Int)).tmod (n : Int) = (r : Int) := by
    rw [Int.tmod_eq_emod_of_nonneg (by omega), hr, Int.natCast_emod, Int.natCast_add]
  have hwr : IntKind.i64.wrap ((f : Int) + (k : Int)) = (f : Int) + (k : Int) := IntWalk.i64_in _ (by omega)
  have hn0 : ¬ n = 0 := by omega
  have hrn : r < n := by rw [hr]; exact Nat.mod_lt _ h0
  clear hr h0
  go_enter Try.func68, Try.ntmps68
  go_wp2_with fail
  go_ret
  exact ⟨ret_i64 rfl, (by repeat (first | (with_reducible exact Later.refl _) | (with_reducible exact Hid.out (by assumption)) | (with_reducible refine Later.alloc ?_ _) | (with_reducible refine Later.setCell ?_ (by simp; omega) _) | (with_reducible refine Later.setCell ?_ (by simp) _) | (with_reducible refine Later.drewN ?_ _) | (with_reducible refine Later.drew ?_) | (with_reducible refine Later.trans ?_ (Hid.out (by assumption)))))⟩
end Go.Proofs.Ytnmlkigpiaekjaa
namespace Go.Proofs.Ytnmlkigpiaekjaa
open Go.RowKit
set_option maxHeartbeats 4000000
set_option linter.unusedVariables false
set_option linter.unusedSimpArgs false
/-- append(out, M...) as one step of a region that draws its order: M's cells lie where x points -/
theorem stepS {ops : Array Oper} {o : Oper} {a : Act} {W : World} {K : Act → World → Prop} {Q : Exit → Act → World → Prop} {E : Prop} (hgd : o.guard = none) (s x : Operand)
    (ho : o.op = .call { callee := .builtin .append, args := #[s, x], argTypes := #[24, 24] })
    (base : Nat) (v : Value) (L M : List Sg) (ad : Addr) (m c : Nat) (hown : OwnS W base v L) (hcell : ∀ j u, (sgVals M)[j]? = some u → W.cell? (ad.add j) = some u) (hm : M.length = m) (hy : ∀ x ∈ M, x.In) (hs : a.eval s = v) (hx : a.eval x = .slice (some ad) m c) (hl : L.length + m ≤ 1000000000) (hbase : base ≤ W.heap.size)
    (h : ∀ v' w', OwnS w' base v' (L ++ M) → W.grownBy w' v.ownBlock → K (a.put o.dst v') w') : if Region.wanted o (yielded ops a.tmps) = true then Oper.wp Try.prog o a W K Q else E := by
  have hw : Region.wanted o (yielded ops a.tmps) = true := by simp [Region.wanted, hgd]
  rw [if_pos hw]
  obtain ⟨i0, hi, hz0, hz1, hz2⟩ := info_parts info_sg
  subst hm
  obtain ⟨v', w', hrun, r1, r2, _⟩ := run_append_own (P := Try.prog) W base 24 o.type 77 i0 (.agg #[.int .i64 0, .int .i64 0, .int .i64 0, .int .i64 0, .int .i64 0, .int .i64 0, .int .i64 0]) 7 56 Try.underlying24 hi hz0 hz1 hz2 rfl (by decide) v L.length _ hown.1 ad M.length c (sgVals M) (by rw [sgVals_len]) hcell (fun u hu => by
    obtain ⟨j, hj, e⟩ := List.getElem_of_mem hu
    have hf := sgVals_flt M j (by rw [sgVals_len] at hj; exact hj)
    rw [List.getElem?_eq_getElem hj, e] at hf
    cases hf; rfl) (by unfold maxLen; omega) (by omega) hbase
  unfold Oper.wp
  simp [execOp, ho, resolve, invoke, builtin, hs, hx, hrun, Result.andThen]
  refine h v' w' ⟨by rw [sgVals_app, List.length_append]; exact r1, ?_⟩ r2
  intro z hz
  rcases List.mem_append.1 hz with hz | hz
  · exact hown.2 z hz
  · exact hy z hz
theorem cells_alloc (X : World) (l : List Value) (T : TypeId) : ∀ j u, l[j]? = some u → (X.alloc (.cells l.toArray T)).cell? ((⟨X.heap.size, 0, none⟩ : Addr).add j) = some u := by
  intro j u hu
  rw [Addr.add_lit, Nat.zero_add, cell_of_row _ _ j _ T (0, 0) (heap_alloc_new X _)]
  simpa using hu
/-- what a run leaves -/
def GivesS (w : World) (R : List Sg) (c : Int) (e : Ending) (w' : World) : Prop :=
  ∃ v, e = .returned (.tuple #[v, .int .i64 c]) ∧ OwnS w' w.heap.size v R ∧ Later w w'
set_option maxRecDepth 100000 in
theorem i_segmentsAlong (a : Option Addr) (n cap : Nat) (L : List Sg) (f c : Int) (w : World) (hs : Sgs w a n L) :
    Calls Try.prog 43 #[.agg #[.slice a n cap], .int .i64 f, .int .i64 c] w (GivesS w (sgV L f c) (sgE L f c)) := by
  have HS := Lib.hid hs
  have HL := Lib.hid hs.1
  have hn := hs.2.1
  clear hs
  cases hv : layB L
  · have E1 : Hid (sgE L f c = 1) := Lib.hid (by unfold sgE; rw [hv]; rfl)
    have E2 : Hid (sgV L f c = []) := Lib.hid (by unfold sgV; rw [E1.out]; rfl)
    go_enter Try.func43, Try.ntmps43
    go_wp2_with fail
    refine (i_IsLayout a n cap L _ (HS.out.later (by repeat (first | (with_reducible exact Later.refl _) | (with_reducible exact Hid.out (by assumption)) | (with_reducible refine Later.alloc ?_ _) | (with_reducible refine Later.setCell ?_ (by simp; omega) _) | (with_reducible refine Later.setCell ?_ (by simp) _) | (with_reducible refine Later.drewN ?_ _) | (with_reducible refine Later.drew ?_) | (with_reducible refine Later.trans ?_ (Hid.out (by assumption))))))).mono ?_
    rw [hv]
    rintro e w1 ⟨rfl, hb⟩
    have H1 := Lib.hid hb
    clear hb
    go_wp2_with fail
    go_ret2
    exact ⟨.slice none 0 0, by rw [E1.out]; rfl, by rw [E2.out]; exact ownS_none _ _, (by repeat (first | (with_reducible exact Later.refl _) | (with_reducible exact Hid.out (by assumption)) | (with_reducible refine Later.alloc ?_ _) | (with_reducible refine Later.setCell ?_ (by simp; omega) _) | (with_reducible refine Later.setCell ?_ (by simp) _) | (with_reducible refine Later.drewN ?_ _) | (with_reducible refine Later.drew ?_) | (with_reducible refine Later.trans ?_ (Hid.out (by assumption)))))⟩
  · by_cases hr : 0 ≤ f ∧ f < (n : Int) ∧ 0 ≤ c ∧ c ≤ 24
    · obtain ⟨f', rfl⟩ : ∃ f' : Nat, f = (f' : Int) := ⟨f.toNat, by omega⟩
      obtain ⟨c', rfl⟩ : ∃ c' : Nat, c = (c' : Int) := ⟨c.toNat, by omega⟩
      have E1 : Hid (sgE L (f' : Int) (c' : Int) = 0) := Lib.hid (by unfold sgE; rw [hv, if_pos rfl, HL.out, if_pos hr])
      have E2 : Hid (sgV L (f' : Int) (c' : Int) = runS L f' c') := Lib.hid (by unfold sgV; rw [E1.out]; rfl)
      obtain ⟨_, h2, _, h4⟩ := hr
      have h24 : n ≤ 24 := by have := (layB_iff L).1 hv; have := HL.out; omega
      have hf : f' < n := by omega
      have hnf : ¬ n ≤ f' := by omega
      have hc : c' ≤ 24 := by omega
      clear h4
      go_enter Try.func43, Try.ntmps43
      go_wp2_with fail
      refine (i_IsLayout a n cap L _ (HS.out.later (by repeat (first | (with_reducible exact Later.refl _) | (with_reducible exact Hid.out (by assumption)) | (with_reducible refine Later.alloc ?_ _) | (with_reducible refine Later.setCell ?_ (by simp; omega) _) | (with_reducible refine Later.setCell ?_ (by simp) _) | (with_reducible refine Later.drewN ?_ _) | (with_reducible refine Later.drew ?_) | (with_reducible refine Later.trans ?_ (Hid.out (by assumption))))))).mono ?_
      rw [hv]
      rintro e w1 ⟨rfl, hb⟩
      have H1 := Lib.hid hb
      have hc1 : w1.cell? ⟨w.heap.size, 0, none⟩ = some (.slice a n cap) := by rw [hb.cell (p := ⟨w.heap.size, 0, none⟩) (by simp)]; simp
      have hz1 : w.heap.size < w1.heap.size := sg_cell_lt hc1
      clear hb
      go_wp2_with fail
      go_loopw [8, 31] (fun v i wr => ∃ k : Nat, k ≤ c' ∧ i = .int .i64 k ∧ OwnS wr (w.heap.size + 1) v (runS L f' k) ∧ wr.cell? ⟨w.heap.size, 0, none⟩ = some (.slice a n cap) ∧ Later w wr) (fun _ i _ => c' - (intOf i).toNat)
      case atStart => exact ⟨0, by omega, rfl, by rw [runS_0]; exact ownS_none _ _, hc1, (by repeat (first | (with_reducible exact Later.refl _) | (with_reducible exact Hid.out (by assumption)) | (with_reducible refine Later.alloc ?_ _) | (with_reducible refine Later.setCell ?_ (by simp; omega) _) | (with_reducible refine Later.setCell ?_ (by simp) _) | (with_reducible refine Later.drewN ?_ _) | (with_reducible refine Later.drew ?_) | (with_reducible refine Later.trans ?_ (Hid.out (by assumption)))))⟩
      case round =>
        have hf24 : f' ≤ 24 := by omega
        have hn0 : ¬ n = 0 := by omega
        clear hc1 hz1 hf h2
        obtain ⟨k, hk, rfl, ho, hc1, hlw⟩ := hrel
        have HO := Lib.hid ho; have HW := Lib.hid hlw
        have hz1 : w.heap.size < wr.heap.size := sg_cell_lt hc1
        clear ho hlw
        by_cases hlt : k < c'
        · obtain ⟨r, hr⟩ : ∃ r, r = (f' + k) % n := ⟨_, rfl⟩
          have hrn : r < n := by rw [hr]; exact Nat.mod_lt _ (by omega)
          have HI := fun W => i_indexAlong a n cap f' k r W (by omega) h24 hf24 (by omega) hr
          have HR : Hid (runS L f' (k + 1) = runS L f' k ++ [sx L r]) := Lib.hid (by rw [runS_succ, HL.out, ← hr])
          obtain ⟨b, off, rfl, hb, hcc⟩ := (HS.out.later HW.out).at r hrn
          have hin := HS.out.in r hrn
          obtain ⟨c0, c1, c2, c3, c4, c5, c6⟩ := hcc
          clear hr
          go_wp2_with fail
          go_region_law (first
            | (refine stepS rfl (.tmp 34) (.tmp 43) rfl (w.heap.size + 1) _ (runS L f' k) [sx L r] _ 1 1 (HO.out.below (by repeat (first | (with_reducible exact Later.refl _) | (with_reducible exact Hid.out (by assumption)) | (with_reducible refine Later.alloc ?_ _) | (with_reducible refine Later.setCell ?_ (by simp; omega) _) | (with_reducible refine Later.setCell ?_ (by simp) _) | (with_reducible refine Later.drewN ?_ _) | (with_reducible refine Later.drew ?_) | (with_reducible refine Later.trans ?_ (Hid.out (by assumption)))))) (cells_alloc _ _ _) rfl (fun x hx => by simp at hx; subst hx; exact hin) (by simp [Act.eval, Act.put]) (by simp [Act.eval, Act.put]) (by rw [runS_len]; omega) (by simp; omega) ?_; intro v' w4 ho4 hg4; have O4 := Lib.hid ho4; have G4 := Lib.hid hg4; clear ho4 hg4)
            | (go_simp; go_at_call 68; refine (HI _).mono ?_; rintro e w7 ⟨rfl, hb7⟩; have H7 := Lib.hid hb7; clear hb7; obtain ⟨d0, d1, d2, d3, d4, d5, d6⟩ := sgs_at (HS.out.later (show Later w w7 from (by repeat (first | (with_reducible exact Later.refl _) | (with_reducible exact Hid.out (by assumption)) | (with_reducible refine Later.alloc ?_ _) | (with_reducible refine Later.setCell ?_ (by simp; omega) _) | (with_reducible refine Later.setCell ?_ (by simp) _) | (with_reducible refine Later.drewN ?_ _) | (with_reducible refine Later.drew ?_) | (with_reducible refine Later.trans ?_ (Hid.out (by assumption))))))) r hrn; have hc7 : w7.cell? ⟨w.heap.size, 0, none⟩ = some (.slice (some ⟨b, off, none⟩) n cap) := ((show Later wr w7 from (by repeat (first | (with_reducible exact Later.refl _) | (with_reducible exact Hid.out (by assumption)) | (with_reducible refine Later.alloc ?_ _) | (with_reducible refine Later.setCell ?_ (by simp; omega) _) | (with_reducible refine Later.setCell ?_ (by simp) _) | (with_reducible refine Later.drewN ?_ _) | (with_reducible refine Later.drew ?_) | (with_reducible refine Later.trans ?_ (Hid.out (by assumption)))))).cell (p := ⟨w.heap.size, 0, none⟩) hz1).trans hc1; have hz7 : w.heap.size < w7.heap.size := sg_cell_lt hc7))
          all_goals
            have H4 : Hid (Later w w4) := Lib.hid (Below.grown (show Later w _ from (by repeat (first | (with_reducible exact Later.refl _) | (with_reducible exact Hid.out (by assumption)) | (with_reducible refine Later.alloc ?_ _) | (with_reducible refine Later.setCell ?_ (by simp; omega) _) | (with_reducible refine Later.setCell ?_ (by simp) _) | (with_reducible refine Later.drewN ?_ _) | (with_reducible refine Later.drew ?_) | (with_reducible refine Later.trans ?_ (Hid.out (by assumption)))))) G4.out (by simp; omega) (fun j e => by have := (HO.out.lt j e).1; omega))
            have hc4 : w4.cell? ⟨w.heap.size, 0, none⟩ = some (.slice (some ⟨b, off, none⟩) n cap) := G4.out.cell (((show Later wr _ from (by repeat (first | (with_reducible exact Later.refl _) | (with_reducible exact Hid.out (by assumption)) | (with_reducible refine Later.alloc ?_ _) | (with_reducible refine Later.setCell ?_ (by simp; omega) _) | (with_reducible refine Later.setCell ?_ (by simp) _) | (with_reducible refine Later.drewN ?_ _) | (with_reducible refine Later.drew ?_) | (with_reducible refine Later.trans ?_ (Hid.out (by assumption)))))).cell (p := ⟨w.heap.size, 0, none⟩) hz1).trans hc1) (fun e => by have := (HO.out.lt _ e.symm).1; simp at this; omega)
            clear c0 c1 c2 c3 c4 c5 c6 d0 d1 d2 d3 d4 d5 d6 hc7 hz7
            go_wp2_with fail
            go_roundw
            case rel => exact ⟨k + 1, by omega, by go_num, by rw [HR.out]; exact O4.out, hc4, H4.out⟩
            case measure => simp [intOf]; omega
        · obtain rfl : k = c' := by omega
          go_wp2_with fail
          go_ret2
          exact ⟨_, by rw [E1.out]; rfl, by rw [E2.out]; exact HO.out.mono (by omega), HW.out⟩
    · have E1 : Hid (sgE L f c = 2) := Lib.hid (by unfold sgE; rw [hv, if_pos rfl, HL.out, if_neg hr])
      have E2 : Hid (sgV L f c = []) := Lib.hid (by unfold sgV; rw [E1.out]; rfl)
      have hr2 : f < 0 ∨ (0 ≤ f ∧ (n : Int) ≤ f) ∨ (0 ≤ f ∧ f < (n : Int) ∧ c < 0) ∨ (0 ≤ f ∧ f < (n : Int) ∧ 0 ≤ c ∧ 24 < c) := by omega
      clear hr
      rcases hr2 with h1 | ⟨h1, h2⟩ | ⟨h1, h2, h3⟩ | ⟨h1, h2, h3, h4⟩
      all_goals
        go_enter Try.func43, Try.ntmps43
        go_wp2_with fail
        refine (i_IsLayout a n cap L _ (HS.out.later (by repeat (first | (with_reducible exact Later.refl _) | (with_reducible exact Hid.out (by assumption)) | (with_reducible refine Later.alloc ?_ _) | (with_reducible refine Later.setCell ?_ (by simp; omega) _) | (with_reducible refine Later.setCell ?_ (by simp) _) | (with_reducible refine Later.drewN ?_ _) | (with_reducible refine Later.drew ?_) | (with_reducible refine Later.trans ?_ (Hid.out (by assumption))))))).mono ?_
        rw [hv]
        rintro e w1 ⟨rfl, hb⟩
        have H1 := Lib.hid hb
        have hc1 : w1.cell? ⟨w.heap.size, 0, none⟩ = some (.slice a n cap) := by rw [hb.cell (p := ⟨w.heap.size, 0, none⟩) (by simp)]; simp
        clear hb
        go_wp2_with fail
        go_ret2
        exact ⟨.slice none 0 0, by rw [E1.out]; rfl, by rw [E2.out]; exact ownS_none _ _, (by repeat (first | (with_reducible exact Later.refl _) | (with_reducible exact Hid.out (by assumption)) | (with_reducible refine Later.alloc ?_ _) | (with_reducible refine Later.setCell ?_ (by simp; omega) _) | (with_reducible refine Later.setCell ?_ (by simp) _) | (with_reducible refine Later.drewN ?_ _) | (with_reducible refine Later.drew ?_) | (with_reducible refine Later.trans ?_ (Hid.out (by assumption)))))⟩
end Go.Proofs.Ytnmlkigpiaekjaa
namespace Go.Proofs.Ytnmlkigpiaekjaa
open Go.RowKit
set_option maxHeartbeats 2000000
set_option linter.unusedVariables false
set_option linter.unusedSimpArgs false
theorem info_iv : (Try.prog.info? 28).map (fun i => (i.zero, i.size, i.bytes)) = some (some (.agg #[.int .i64 0, .int .i64 0]), 2, 16) := by kernel_rfl
/-- a slice of intervals of the call's own -/
def OwnI (w : World) (base : Nat) (v : Value) (n : Nat) (l : List Int) : Prop := OwnW w base 28 2 v n l
/-- append(out, e) -/
theorem appI {ops : Array Oper} {rest : List Oper} {o : Oper} {act : Act} {Q : Exit → Act → World → Prop} (hgd : o.guard = none) (s x : Operand)
    (ho : o.op = .call { callee := .builtin .append, args := #[s, x], argTypes := #[31, 31] })
    (base : Nat) (W : World) (T' : TypeId) (v : Value) (n : Nat) (l : List Int) (y z : Int) (hown : OwnI W base v n l) (hs : act.eval s = v) (hx : act.eval x = .slice (some ⟨W.heap.size, 0, none⟩) 1 1) (hy : InR y) (hz : InR z) (hl : n + 1 ≤ 1000000000) (hbase : base ≤ W.heap.size)
    (h : ∀ v' w', OwnI w' base v' (n + 1) (l ++ [y, z]) → W.grownBy w' v.ownBlock → wpList Try.prog ops Q rest (act.put o.dst v') w') : wpList Try.prog ops Q (o :: rest) act (W.alloc (.cells #[.int .i64 y, .int .i64 z] T')) :=
  appW hgd s x _ _ _ 2 16 info_iv Try.underlying31 rfl (by decide) (by decide) ho base W T' v n 1 l [y, z] _ rfl rfl hown hs hx (fun u hu => by simp at hu; rcases hu with rfl | rfl <;> assumption) hl hbase h
theorem l_eqInterval_same2 (a b : Int) (w : World) : Calls Try.prog 52 #[.agg #[.int .i64 a, .int .i64 b], .agg #[.int .i64 a, .int .i64 b]] w fun e w' => e = .returned (.bool true) ∧ Later w w' :=
  (l_eqInterval a b a b w).mono fun e w' ⟨h, k⟩ => ⟨h.trans (ret_b (by simp)), k⟩
theorem l_eqIntervalS_same (a b : Option Addr) (n cap m cap' : Nat) (l : List Int) (w : World) (hs : Wd w a n 2 l) (ht : Wd w b m 2 l) :
    Calls Try.prog 22 #[.slice a n cap, .slice b m cap'] w fun e w' => e = .returned (.bool true) ∧ Later w w' := by
  have hn := hs.1; have hm := ht.1
  obtain rfl : n = m := by omega
  have HS := Lib.hid hs; have HT := Lib.hid ht
  have hn' := hs.2.1
  clear hs ht hm hn
  have e0 : ((n : Int) != (n : Int)) = false := by simp
  go_enter Try.func22, Try.ntmps22
  go_wp2
  go_loopw [5] (fun i wr => ∃ k : Nat, k ≤ n ∧ i = .int .i64 k ∧ Later w wr) (fun i _ => n - (intOf i).toNat)
  case atStart => exact ⟨0, by omega, rfl, Later.refl _⟩
  case round =>
    obtain ⟨k, hk, rfl, hlw⟩ := hrel
    have HW := Lib.hid hlw
    clear hlw
    by_cases hlt : k < n
    · obtain ⟨b1, o1, rfl, c1, c2⟩ := (HS.out.later HW.out).two k hlt
      obtain ⟨b2, o2, rfl, d1, d2⟩ := (HT.out.later HW.out).two k hlt
      have C := Lib.hid c1; have C' := Lib.hid c2; have D := Lib.hid d1; have D' := Lib.hid d2
      have KL : Hid (∀ W', Later wr W' → W'.cell? ⟨b1, o1 + k * 2, none⟩ = some (.int .i64 (gx l (k * 2))) ∧ W'.cell? ⟨b1, o1 + k * 2 + 1, none⟩ = some (.int .i64 (gx l (k * 2 + 1))) ∧ W'.cell? ⟨b2, o2 + k * 2, none⟩ = some (.int .i64 (gx l (k * 2))) ∧ W'.cell? ⟨b2, o2 + k * 2 + 1, none⟩ = some (.int .i64 (gx l (k * 2 + 1)))) := Lib.hid (fun W' q => ⟨by rw [q.cell (p := ⟨b1, o1 + k * 2, none⟩) (cell_lt C.out)]; exact C.out, by rw [q.cell (p := ⟨b1, o1 + k * 2 + 1, none⟩) (cell_lt C.out)]; exact C'.out, by rw [q.cell (p := ⟨b2, o2 + k * 2, none⟩) (cell_lt D.out)]; exact D.out, by rw [q.cell (p := ⟨b2, o2 + k * 2 + 1, none⟩) (cell_lt D.out)]; exact D'.out⟩)
      go_wp2_with fail
      go_region_held3 (fun w' => w'.cell? ⟨b1, o1 + k * 2, none⟩ = some (.int .i64 (gx l (k * 2))) ∧ w'.cell? ⟨b1, o1 + k * 2 + 1, none⟩ = some (.int .i64 (gx l (k * 2 + 1))) ∧ w'.cell? ⟨b2, o2 + k * 2, none⟩ = some (.int .i64 (gx l (k * 2))) ∧ w'.cell? ⟨b2, o2 + k * 2 + 1, none⟩ = some (.int .i64 (gx l (k * 2 + 1)))) (exact KL.out _ (by repeat (first | (with_reducible exact Later.refl _) | (with_reducible exact Hid.out (by assumption)) | (with_reducible refine Later.alloc ?_ _) | (with_reducible refine Later.setCell ?_ (by simp; omega) _) | (with_reducible refine Later.setCell ?_ (by simp) _) | (with_reducible refine Later.drewN ?_ _) | (with_reducible refine Later.drew ?_) | (with_reducible refine Later.trans ?_ (Hid.out (by assumption))))))
        (first | (go_at_call 52; refine (l_eqInterval_same2 _ _ _).mono ?_; rintro e w1 ⟨rfl, hb1⟩; have H1 := Lib.hid hb1; clear hb1))
      all_goals
        go_wp2
        go_roundw
        case rel => exact ⟨k + 1, by omega, by go_num, (by repeat (first | (with_reducible exact Later.refl _) | (with_reducible exact Hid.out (by assumption)) | (with_reducible refine Later.alloc ?_ _) | (with_reducible refine Later.setCell ?_ (by simp; omega) _) | (with_reducible refine Later.setCell ?_ (by simp) _) | (with_reducible refine Later.drewN ?_ _) | (with_reducible refine Later.drew ?_) | (with_reducible refine Later.trans ?_ (Hid.out (by assumption)))))⟩
        case measure => simp [intOf]; omega
    · obtain rfl : k = n := by omega
      go_wp2
      go_ret
      exact ⟨rfl, HW.out⟩
theorem l_likeIntervals_same (a b : Option Addr) (n cap m cap' : Nat) (l : List Int) (w : World) (hs : Wd w a n 2 l) (ht : Wd w b m 2 l) :
    Calls Try.prog 13 #[.slice a n cap, .slice b m cap'] w fun e w' => e = .returned (.bool true) ∧ Later w w' := by
  have hn := hs.1; have hm := ht.1
  obtain rfl : n = m := by omega
  have HS := Lib.hid hs; have HT := Lib.hid ht
  have hn' := hs.2.1
  clear hs ht hm hn
  have e0 : ((n : Int) != (n : Int)) = false := by simp
  go_enter Try.func13, Try.ntmps13
  go_wp2
  go_loopw [5] (fun i wr => ∃ k : Nat, k ≤ n ∧ i = .int .i64 k ∧ Later w wr) (fun i _ => n - (intOf i).toNat)
  case atStart => exact ⟨0, by omega, rfl, Later.refl _⟩
  case round =>
    obtain ⟨k, hk, rfl, hlw⟩ := hrel
    have HW := Lib.hid hlw
    clear hlw
    by_cases hlt : k < n
    · obtain ⟨b1, o1, rfl, c1, c2⟩ := (HS.out.later HW.out).two k hlt
      obtain ⟨b2, o2, rfl, d1, d2⟩ := (HT.out.later HW.out).two k hlt
      generalize gx l (k * 2) = x at c1 d1
      generalize gx l (k * 2 + 1) = y at c2 d2
      go_wp2_with fail
      go_quiet (fail)
      go_wp2_with fail
      go_roundw
      case rel => exact ⟨k + 1, by omega, by go_num, (by repeat (first | (with_reducible exact Later.refl _) | (with_reducible exact Hid.out (by assumption)) | (with_reducible refine Later.alloc ?_ _) | (with_reducible refine Later.setCell ?_ (by simp; omega) _) | (with_reducible refine Later.setCell ?_ (by simp) _) | (with_reducible refine Later.drewN ?_ _) | (with_reducible refine Later.drew ?_) | (with_reducible refine Later.trans ?_ (Hid.out (by assumption)))))⟩
      case measure => simp [intOf]; omega
    · obtain rfl : k = n := by omega
      go_wp2
      go_ret
      exact ⟨rfl, HW.out⟩
/-- what marking leaves -/
def Marked2 (w : World) (base : Nat) (v : Value) (n : Nat) (l : List Int) (e : Ending) (w' : World) : Prop :=
  e = .returned (.int .i64 (1 + 2 * (n : Int))) ∧ OwnI w' base v n (mrk2 l n) ∧ w.grownBy w' v.ownBlock
theorem l_markIntervalS (v : Value) (base n : Nat) (l : List Int) (w : World) (ho : OwnI w base v n l) (hl : n ≤ 100000000) :
    Calls Try.prog 25 #[v, .int .i64 1] w (Marked2 w base v n l) := by
  have HI := Lib.hid ho.2
  have hlen := ho.len
  rcases ho.1.2 with ⟨rfl, h0⟩ | ⟨g, cap, cur, rfl, hb, hg, hnc, hcm, _⟩
  · subst h0
    have e : l = [] := List.length_eq_zero_iff.1 (by omega)
    subst e
    have HO := Lib.hid ho
    clear ho hlen
    go_enter Try.func25, Try.ntmps25
    go_wp2
    go_loop [1, 5] (fun m i => i = .int .i64 0 ∧ m = .int .i64 1) (fun _ _ => 0)
    case atStart => exact ⟨rfl, rfl⟩
    case round =>
      obtain ⟨rfl, rfl⟩ := hrel
      go_wp2
      go_ret
      exact ⟨rfl, HO.out, ⟨rfl, rfl, rfl, Nat.le_refl _, fun _ _ _ => rfl⟩⟩
  · have HL := Lib.hid hlen
    have O1 : Hid (w.ownsRow base 28 2 (.slice (some ⟨g, 0, none⟩) n cap) n ((mrk2 l 0).map (Value.int .i64))) := Lib.hid (by rw [mrk2_0]; exact ho.1)
    clear hg hnc hcm ho hb hlen
    go_enter Try.func25, Try.ntmps25
    go_wp2
    go_loopw [1, 5] (fun m i wr => ∃ k : Nat, k ≤ n ∧ i = .int .i64 k ∧ m = .int .i64 (1 + 2 * (k : Int)) ∧ wr.ownsRow base 28 2 (.slice (some ⟨g, 0, none⟩) n cap) n ((mrk2 l k).map (Value.int .i64)) ∧ w.grownBy wr (some g)) (fun _ i _ => n - (intOf i).toNat)
    case atStart => exact ⟨0, by omega, rfl, rfl, O1.out, ⟨rfl, rfl, rfl, Nat.le_refl _, fun _ _ _ => rfl⟩⟩
    case round =>
      obtain ⟨k, hk, rfl, rfl, ho, hg⟩ := hrel
      have HR := Lib.hid ho; have HG := Lib.hid hg
      clear ho hg
      by_cases hlt : k < n
      · obtain ⟨z, hz⟩ : ∃ z, wr.cell? ⟨g, k * 2, none⟩ = some (.int .i64 z) := ⟨_, by rw [HR.out.cellAt (k * 2) (by omega), List.getElem?_map, mrk2_get l k (k * 2) (by rw [HL.out]; omega)]; rfl⟩
        obtain ⟨z2, hz2⟩ : ∃ z, wr.cell? ⟨g, k * 2 + 1, none⟩ = some (.int .i64 z) := ⟨_, by rw [HR.out.cellAt (k * 2 + 1) (by omega), List.getElem?_map, mrk2_get l k (k * 2 + 1) (by rw [HL.out]; omega)]; rfl⟩
        have hf : wr.frozen? ⟨g, k * 2, none⟩ = false := HR.out.frozenAt _
        have hf2 : wr.frozen? ⟨g, k * 2 + 1, none⟩ = false := HR.out.frozenAt _
        have hset : Hid ((((mrk2 l k).map (Value.int .i64)).set (k * 2) (.int .i64 (1 + 2 * (k : Int)))).set (k * 2 + 1) (.int .i64 (1 + 2 * (k : Int) + 1)) = (mrk2 l (k + 1)).map (Value.int .i64)) := Lib.hid (by rw [← mrk2_set l k (by rw [HL.out]; omega), List.map_set, List.map_set, show ((k * 2 : Nat) : Int) = 2 * (k : Int) by omega, show (1 : Int) + ((k * 2 + 1 : Nat) : Int) = 1 + 2 * (k : Int) + 1 by omega])
        go_wp2
        go_roundw
        case rel => exact ⟨k + 1, by omega, by go_num, by go_num, by rw [← hset.out]; exact ((HR.out.stored _ _).1.stored _ _).1, grown_trans (grown_trans HG.out (HR.out.stored _ _).2) ((HR.out.stored _ _).1.stored _ _).2⟩
        case measure => simp [intOf]; omega
      · obtain rfl : k = n := by omega
        go_wp2
        go_ret
        exact ⟨rfl, ⟨HR.out, mrk2_in l _ (by rw [HL.out]; omega) HI.out⟩, HG.out⟩
theorem l_heldIntervalS (v : Value) (base n : Nat) (l : List Int) (w : World) (ho : OwnI w base v n (mrk2 l n)) (hl : n ≤ 100000000) :
    Calls Try.prog 26 #[v, .int .i64 1] w fun e w' => e = .returned (.int .i64 (1 + 2 * (n : Int))) ∧ w = w' := by
  obtain ⟨a, cap, rfl, _, hs, _⟩ := ho.wd
  have HS := Lib.hid hs
  have HL : Hid (l.length = n * 2) := Lib.hid (by have := ho.len; rw [mrk2_len] at this; exact this)
  clear hs ho
  go_enter Try.func26, Try.ntmps26
  go_wp2
  go_loop [1, 5] (fun m i => ∃ k : Nat, k ≤ n ∧ i = .int .i64 k ∧ m = .int .i64 (1 + 2 * (k : Int))) (fun _ i => n - (intOf i).toNat)
  case atStart => exact ⟨0, by omega, rfl, rfl⟩
  case round =>
    obtain ⟨k, hk, rfl, rfl⟩ := hrel
    by_cases hlt : k < n
    · obtain ⟨b, off, rfl, hc, hd⟩ := HS.out.two k hlt
      rw [mrk2_gx l n (k * 2) (by rw [HL.out]; omega) (by omega), show (1 : Int) + ((k * 2 : Nat) : Int) = 1 + 2 * (k : Int) by omega] at hc
      rw [mrk2_gx l n (k * 2 + 1) (by rw [HL.out]; omega) (by omega), show (1 : Int) + ((k * 2 + 1 : Nat) : Int) = 1 + 2 * (k : Int) + 1 by omega] at hd
      go_wp2
      go_round
      case rel => exact ⟨k + 1, by omega, by go_num, by go_num⟩
      case measure => simp [intOf]; omega
    · obtain rfl : k = n := by omega
      go_wp2
      go_ret
      exact ⟨rfl, rfl⟩
end Go.Proofs.Ytnmlkigpiaekjaa
namespace Go.Proofs.Ytnmlkigpiaekjaa
open Go.RowKit
set_option maxHeartbeats 4000000
set_option linter.unusedVariables false
set_option linter.unusedSimpArgs false
/-- what the energies along a run leave -/
def GivesI (w : World) (n : Nat) (l : List Int) (c : Int) (e : Ending) (w' : World) : Prop :=
  ∃ v, e = .returned (.tuple #[v, .int .i64 c]) ∧ OwnI w' w.heap.size v n l ∧ Later w w'
theorem sgs_kept {w w' : World} {a : Option Addr} {n : Nat} {L : List Sg} {row : Option Nat} (h : Sgs w a n L) (hg : w.grownBy w' row) (hne : ∀ x, a = some x → row ≠ some x.block) : Sgs w' a n L := by
  obtain ⟨h1, h2, h3, h4⟩ := h
  refine ⟨h1, h2, fun k hk => ?_, h4⟩
  obtain ⟨b, off, rfl, hc⟩ := h3 k hk
  exact ⟨b, off, rfl, fun j hj => hg.cell (hc j hj) (fun e => hne _ rfl e.symm)⟩
theorem later_kept {w a b : World} {r : Option Nat} (h : Later w a) (hg : a.grownBy b r) (hr : ∀ k, r = some k → w.heap.size ≤ k) : Later w b := Below.grown h hg h.size hr
theorem ea_bad1 {L : List Sg} {f c a b : Int} (h : enB a b = false) : eaE L f c a b = 1 ∧ eaN L f c a b = 0 ∧ eaV L f c a b = [] := by
  have e : eaE L f c a b = 1 := by unfold eaE; rw [h]; rfl
  exact ⟨e, by unfold eaN; rw [e]; rfl, by unfold eaV; rw [e]; rfl⟩
theorem ea_bad2 {L : List Sg} {f c a b : Int} (h : enB a b = true) (h2 : sgE L f c ≠ 0) : eaE L f c a b = sgE L f c ∧ eaN L f c a b = 0 ∧ eaV L f c a b = [] := by
  have e : eaE L f c a b = sgE L f c := by unfold eaE; rw [h, if_pos rfl, if_neg h2]
  exact ⟨e, by unfold eaN; rw [e, if_neg h2], by unfold eaV; rw [e, if_neg h2]⟩
theorem ea_at {L : List Sg} {f c : Nat} {a b : Int} (h : enB a b = true) (h2 : sgE L (f : Int) (c : Int) = 0) : eaE L f c a b = alE (runS L f c) a b c := by
  unfold eaE; rw [h, if_pos rfl, if_pos h2]; simp
theorem ea_stop {L : List Sg} {f c : Nat} {a b : Int} (h : enB a b = true) (h2 : sgE L (f : Int) (c : Int) = 0) (h3 : alE (runS L f c) a b c ≠ 0) : eaE L f c a b = alE (runS L f c) a b c ∧ eaN L f c a b = 0 ∧ eaV L f c a b = [] := by
  have e := ea_at h h2
  exact ⟨e, by unfold eaN; rw [e, if_neg h3], by unfold eaV; rw [e, if_neg h3]⟩
theorem ea_fin {L : List Sg} {f c : Nat} {a b : Int} (h : enB a b = true) (h2 : sgE L (f : Int) (c : Int) = 0) (h3 : alE (runS L f c) a b c = 0) : eaE L f c a b = 0 ∧ eaN L f c a b = c ∧ eaV L f c a b = flF (runS L f c) a b c := by
  have e := ea_at h h2
  rw [h3] at e
  exact ⟨e, by unfold eaN; rw [e]; rfl, by unfold eaV; rw [e]; rfl⟩
theorem i_energyBehind_ok (x y : Int) (w : World) (h : x ≤ y) (hc : codE x y = 0) :
    Calls Try.prog 45 #[.agg #[.int .i64 x, .int .i64 y]] w fun e w' => e = .returned (.tuple #[.agg #[.int .i64 x, .int .i64 y], .int .i64 0]) ∧ Later w w' := by
  have := i_energyBehind x y w h; rw [hc] at this; exact this
theorem i_energyBehind_bad (x y c : Int) (w : World) (h : x ≤ y) (hc : codE x y = c) (h0 : c ≠ 0) :
    Calls Try.prog 45 #[.agg #[.int .i64 x, .int .i64 y]] w fun e w' => e = .returned (.tuple #[.agg #[.int .i64 0, .int .i64 0], .int .i64 c]) ∧ Later w w' := by
  have := i_energyBehind x y w h
  rw [hc, show okV c x = 0 by unfold okV; rw [if_neg h0], show okV c y = 0 by unfold okV; rw [if_neg h0]] at this; exact this
theorem own_ne {v : Value} {w : World} {base g : Nat} {n : Nat} {l : List Int} (h : OwnI w base v n l) (hg : g < base) : v.ownBlock ≠ some g := fun e => by have := (h.lt g e).1; omega
theorem i_EnergyAlong (s : Option Addr) (n cap : Nat) (L : List Sg) (f c a b : Int) (w : World) (hs : Sgs w s n L) :
    Calls Try.prog 11 #[.agg #[.slice s n cap], .int .i64 f, .int .i64 c, .agg #[.int .i64 a, .int .i64 b]] w (GivesI w (eaN L f c a b) (eaV L f c a b) (eaE L f c a b)) := by
  have HS := Lib.hid hs
  have HL := Lib.hid hs.1
  clear hs
  cases he : enB a b
  · have T := Lib.hid (ea_bad1 (L := L) (f := f) (c := c) he)
    go_enter Try.func11, Try.ntmps11
    go_wp2_with (go_at_call 42; refine (i_IsEnergy _ _ _).mono ?_; rintro e w1 ⟨rfl, hb⟩; obtain ⟨H, hcc, hff, hzz⟩ := later_facts hb; clear hb; (try simp at hzz); (try simp only [World.heap_drewN, World.cell?_drewN, World.frozen?_drewN] at hcc hff); have hz0 : w.heap.size < w1.heap.size := (by omega); (try (have hz1 : w.heap.size + 1 < w1.heap.size := (by omega))); (try (have hz2 : w.heap.size + 1 + 1 < w1.heap.size := (by omega))); (try (have hz3 : w.heap.size + 1 + 1 + 1 < w1.heap.size := (by omega))); (try (have hz4 : w.heap.size + 1 + 1 + 1 + 1 < w1.heap.size := (by omega))))
    go_ret2
    exact ⟨.slice none 0 0, by rw [T.out.1]; rfl, by rw [T.out.2.1, T.out.2.2]; exact ownW_none _ _ _ _, (by repeat (first | (with_reducible exact Later.refl _) | (with_reducible exact Hid.out (by assumption)) | (with_reducible refine Later.alloc ?_ _) | (with_reducible refine Later.setCell ?_ (by simp; omega) _) | (with_reducible refine Later.setCell ?_ (by simp) _) | (with_reducible refine Later.drewN ?_ _) | (with_reducible refine Later.drew ?_) | (with_reducible refine Later.trans ?_ (Hid.out (by assumption)))))⟩
  · by_cases hz : sgE L f c = 0
    · obtain ⟨hv, f', c', rfl, rfl, hf, hc⟩ := sgE_ok hz
      obtain ⟨R, hR⟩ : ∃ R, R = runS L f' c' := ⟨_, rfl⟩
      have hRl : R.length = c' := by rw [hR, runS_len]
      have hok : okB R R.length = true := by rw [hR]; exact runS_okB L f' c' ((layB_iff L).1 hv).2.2.1 (by omega)
      have HSV : Hid (sgV L (f' : Int) (c' : Int) = R) := Lib.hid (by unfold sgV; rw [if_pos hz, hR]; simp)
      have HE := Lib.hid hz
      have HST : Hid (∀ k, k < c' → alE R a b k = 0 → cdK R a b k ≠ 0 → eaE L f' c' a b = cdK R a b k ∧ eaN L f' c' a b = 0 ∧ eaV L f' c' a b = []) := Lib.hid (fun k hk h0 h1 => by
        have e : alE R a b c' = cdK R a b k := fstB_stop _ _ _ h0 hk h1
        rw [hR] at e h1
        have := ea_stop he hz (by rw [e]; exact h1)
        rw [e] at this; rw [hR]; exact this)
      have HFI : Hid (alE R a b c' = 0 → eaE L f' c' a b = 0 ∧ eaN L f' c' a b = c' ∧ eaV L f' c' a b = flF R a b c') := Lib.hid (fun h0 => by rw [hR] at h0 ⊢; exact ea_fin he hz h0)
      have hab := (enB_iff a b).1 he
      have HRL := Lib.hid hRl; have HOK := Lib.hid hok; have HAB := Lib.hid hab
      clear hR hz hok hRl hab hv hf
      go_enter Try.func11, Try.ntmps11
      go_upto_region 1 with (fail)
      refine into (Held [(w.heap.size + 1, 0, .int .i64 a), (w.heap.size + 1, 1, .int .i64 b), (w.heap.size, 0, .slice s n cap)] w) (by first | exact (held_box (held_box (held_start w) w.heap.size [.slice s n cap] _ rfl) (w.heap.size + 1) [.int .i64 a, .int .i64 b] _ (by simp))) ?_
      intro W hW
      obtain ⟨p0, p1, p2, _⟩ := Held.s3 hW
      have HW := Lib.hid (Held.is hW)
      have hz0 := sg_cell_lt p2
      have hz1 := sg_cell_lt p0
      clear hW
      go_wp2_with (go_at_call 42; refine (i_IsEnergy _ _ _).mono ?_; rintro e w1 ⟨rfl, hb⟩; obtain ⟨H, hcc, hff, hzz⟩ := later_facts hb; clear hb; (try simp at hzz); (try simp only [World.heap_drewN, World.cell?_drewN, World.frozen?_drewN] at hcc hff))
      refine (i_segmentsAlong s n cap L f' c' _ (HS.out.later (by repeat (first | (with_reducible exact Later.refl _) | (with_reducible exact Hid.out (by assumption)) | (with_reducible refine Later.alloc ?_ _) | (with_reducible refine Later.setCell ?_ (by simp; omega) _) | (with_reducible refine Later.setCell ?_ (by simp) _) | (with_reducible refine Later.drewN ?_ _) | (with_reducible refine Later.drew ?_) | (with_reducible refine Later.trans ?_ (Hid.out (by assumption))))))).mono ?_
      rw [HE.out, HSV.out]
      rintro e w2 ⟨v, rfl, ho, hb⟩
      obtain ⟨ra, rc, rfl, hrc, hrs, hrb⟩ := ho.sgs
      have hrb2 : ∀ x, ra = some x → x.block < w2.heap.size := fun x e => by subst e; exact (ho.lt x.block rfl).2
      rw [HRL.out] at hrs
      generalize hq : R.length = q
      obtain rfl : q = c' := by rw [← hq]; exact HRL.out
      clear hq
      have RS2 := Lib.hid hrs; have RB := Lib.hid hrb2
      have hq0 : w.heap.size + 1 < w2.heap.size := by have := hb.size; omega
      have hcd : ∀ o, w2.cell? ⟨w.heap.size + 1, o, none⟩ = W.cell? ⟨w.heap.size + 1, o, none⟩ := fun o => (hb.cell (p := ⟨w.heap.size + 1, o, none⟩) (by show w.heap.size + 1 < w1.heap.size; omega)).trans (hcc _ _ hz1)
      have H2 := Lib.hid hb
      clear hb ho hrs hrb hrb2 hrc
      go_wp2_with fail
      refine (i_coasting a b _).mono ?_
      rintro e w3 ⟨g, rfl, hg, hF, hb⟩
      have H3 : Hid (Later w w3) := Lib.hid (Later.trans (by repeat (first | (with_reducible exact Later.refl _) | (with_reducible exact Hid.out (by assumption)) | (with_reducible refine Later.alloc ?_ _) | (with_reducible refine Later.setCell ?_ (by simp; omega) _) | (with_reducible refine Later.setCell ?_ (by simp) _) | (with_reducible refine Later.drewN ?_ _) | (with_reducible refine Later.drew ?_) | (with_reducible refine Later.trans ?_ (Hid.out (by assumption))))) hb)
      have F3 := Lib.hid hF
      have RS3 := Lib.hid (RS2.out.later hb)
      have NG : Hid (∀ x, ra = some x → (some g : Option Nat) ≠ some x.block) := Lib.hid (fun x e h => by have := RB.out x e; have := Option.some.inj h; omega)
      have hgw : w.heap.size ≤ g := by omega
      have HG2 := Lib.hid hg
      clear hb hF hg hcd hcc hff hzz p0 p1 p2 hz0 hz1 hq0
      unfold sumF
      go_wp2_with fail
      go_loopw [13, 35] (fun v i wr => ∃ k : Nat, k ≤ q ∧ i = .int .i64 k ∧ OwnI wr (g + 1) v k (flF R a b k) ∧ alE R a b k = 0 ∧ Fr g [.int .i64 (a + clL R k), .int .i64 (b + clH R k)] wr ∧ Sgs wr ra q R ∧ Later w wr) (fun _ i _ => q - (intOf i).toNat)
      case atStart => exact ⟨0, by omega, rfl, ownW_none _ _ _ _, rfl, by rw [clL_0, clH_0, Int.add_zero, Int.add_zero]; exact F3.out, RS3.out, H3.out⟩
      case round =>
        clear RS2 RS3 F3 H3
        obtain ⟨k, hk, rfl, ho, hal, hF, hrs, hlw⟩ := hrel
        have HO := Lib.hid ho; have HA := Lib.hid hal; have HF := Lib.hid hF; have HRS := Lib.hid hrs; have HW2 := Lib.hid hlw
        have hlt0 := hF.lt
        clear ho hal hF hrs hlw
        by_cases hlt : k < q
        · have hseg : sgB (sx R k) = true := okB_at R R.length k (Nat.le_refl _) (by rw [HRL.out]; exact hlt) HOK.out
          obtain ⟨d1, d2, d3⟩ := cl_bd R HOK.out k (by rw [HRL.out]; exact hk)
          obtain ⟨d4, d5, d6⟩ := cl_bd R HOK.out (k + 1) (by rw [HRL.out]; exact hlt)
          obtain ⟨x, hx⟩ : ∃ x, x = a + clL R (k + 1) := ⟨_, rfl⟩
          obtain ⟨y, hy⟩ : ∃ y, y = b + clH R (k + 1) := ⟨_, rfl⟩
          have q1 : a + clL R k + chL (sx R k) = x := by rw [hx, clL_succ R k (by rw [HRL.out]; exact hlt)]; omega
          have q2 : b + clH R k + chH (sx R k) = y := by rw [hy, clH_succ R k (by rw [HRL.out]; exact hlt)]; omega
          obtain ⟨ab1, ab2, ab3⟩ := HAB.out
          have hxy : x ≤ y := by omega
          have hx1 : InR x := ⟨by omega, by omega⟩
          have hy1 : InR y := ⟨by omega, by omega⟩
          have HX := Lib.hid hx; have HY := Lib.hid hy
          have HC : Hid (cdK R a b k = codE x y) := Lib.hid (by unfold cdK; rw [hx, hy])
          have b1 : -1000000000000 ≤ a + clL R k := by omega
          have b2 : a + clL R k ≤ 1000000000000 := by omega
          have b3 : -1000000000000 ≤ b + clH R k := by omega
          have b4 : b + clH R k ≤ 1000000000000 := by omega
          clear d1 d2 d3 d4 d5 d6 ab1 ab2 ab3 hx hy
          obtain ⟨bb, off, rfl, hb1, hc7⟩ := HRS.out.at k hlt
          obtain ⟨c0, c1, c2, c3, c4, c5, c6⟩ := hc7
          go_wp2_with fail
          refine (i_coasting1 (sx R k) g (a + clL R k) (b + clH R k) _ hseg (fr_later HF.out (by repeat (first | (with_reducible exact Later.refl _) | (with_reducible exact Hid.out (by assumption)) | (with_reducible refine Later.alloc ?_ _) | (with_reducible refine Later.setCell ?_ (by simp; omega) _) | (with_reducible refine Later.setCell ?_ (by simp) _) | (with_reducible refine Later.drewN ?_ _) | (with_reducible refine Later.drew ?_) | (with_reducible refine Later.trans ?_ (Hid.out (by assumption)))))) b1 b2 b3 b4).mono ?_
          rw [q1, q2]
          rintro e w5 ⟨rfl, hF5, hg5⟩
          have F5 := Lib.hid hF5
          have O5 := Lib.hid ((HO.out.later (show Later wr _ from (by repeat (first | (with_reducible exact Later.refl _) | (with_reducible exact Hid.out (by assumption)) | (with_reducible refine Later.alloc ?_ _) | (with_reducible refine Later.setCell ?_ (by simp; omega) _) | (with_reducible refine Later.setCell ?_ (by simp) _) | (with_reducible refine Later.drewN ?_ _) | (with_reducible refine Later.drew ?_) | (with_reducible refine Later.trans ?_ (Hid.out (by assumption))))))).kept hg5 (fun j hj e => own_ne HO.out (Nat.lt_succ_self _) (by rw [hj, e])))
          have S5 := Lib.hid (sgs_kept (HRS.out.later (show Later wr _ from (by repeat (first | (with_reducible exact Later.refl _) | (with_reducible exact Hid.out (by assumption)) | (with_reducible refine Later.alloc ?_ _) | (with_reducible refine Later.setCell ?_ (by simp; omega) _) | (with_reducible refine Later.setCell ?_ (by simp) _) | (with_reducible refine Later.drewN ?_ _) | (with_reducible refine Later.drew ?_) | (with_reducible refine Later.trans ?_ (Hid.out (by assumption))))))) hg5 NG.out)
          have W5 : Hid (Later w w5) := Lib.hid (later_kept (show Later w _ from (by repeat (first | (with_reducible exact Later.refl _) | (with_reducible exact Hid.out (by assumption)) | (with_reducible refine Later.alloc ?_ _) | (with_reducible refine Later.setCell ?_ (by simp; omega) _) | (with_reducible refine Later.setCell ?_ (by simp) _) | (with_reducible refine Later.drewN ?_ _) | (with_reducible refine Later.drew ?_) | (with_reducible refine Later.trans ?_ (Hid.out (by assumption)))))) hg5 (fun j e => by cases e; exact hgw))
          have hg5s := hF5.lt
          clear hF5 hg5 c0 c1 c2 c3 c4 c5 c6 q1 q2 HO HF HRS
          by_cases hcd : codE x y = 0
          · go_wp2_with fail
            refine (i_energyBehind_ok x y _ hxy hcd).mono ?_
            rintro e w6 ⟨rfl, hb6⟩
            have H6 := Lib.hid hb6
            have hz6 := hb6.size
            clear hb6
            go_wp2_with (at_builtin; go_must (refine appI rfl _ _ rfl (g + 1) _ _ _ k (flF R a b k) x y (O5.out.later (by repeat (first | (with_reducible exact Later.refl _) | (with_reducible exact Hid.out (by assumption)) | (with_reducible refine Later.alloc ?_ _) | (with_reducible refine Later.setCell ?_ (by simp; omega) _) | (with_reducible refine Later.setCell ?_ (by simp) _) | (with_reducible refine Later.drewN ?_ _) | (with_reducible refine Later.drew ?_) | (with_reducible refine Later.trans ?_ (Hid.out (by assumption)))))) rfl (by first | rfl | (rw [World.size_alloc]; rfl)) hx1 hy1 (by omega) (by simp; omega) ?_; intro v' w7 ho hg))
            have O7 := Lib.hid ho
            have F7 := Lib.hid (fr_kept (fr_later F5.out (show Later w5 _ from (by repeat (first | (with_reducible exact Later.refl _) | (with_reducible exact Hid.out (by assumption)) | (with_reducible refine Later.alloc ?_ _) | (with_reducible refine Later.setCell ?_ (by simp; omega) _) | (with_reducible refine Later.setCell ?_ (by simp) _) | (with_reducible refine Later.drewN ?_ _) | (with_reducible refine Later.drew ?_) | (with_reducible refine Later.trans ?_ (Hid.out (by assumption))))))) hg (own_ne O5.out (Nat.lt_succ_self g)))
            have S7 := Lib.hid (sgs_kept (S5.out.later (show Later w5 _ from (by repeat (first | (with_reducible exact Later.refl _) | (with_reducible exact Hid.out (by assumption)) | (with_reducible refine Later.alloc ?_ _) | (with_reducible refine Later.setCell ?_ (by simp; omega) _) | (with_reducible refine Later.setCell ?_ (by simp) _) | (with_reducible refine Later.drewN ?_ _) | (with_reducible refine Later.drew ?_) | (with_reducible refine Later.trans ?_ (Hid.out (by assumption))))))) hg (fun z e h => by have h1 := (O5.out.lt z.block h).1; have h2 := RB.out z e; have h3 := HG2.out; omega))
            have W7 : Hid (Later w w7) := Lib.hid (later_kept (show Later w _ from (by repeat (first | (with_reducible exact Later.refl _) | (with_reducible exact Hid.out (by assumption)) | (with_reducible refine Later.alloc ?_ _) | (with_reducible refine Later.setCell ?_ (by simp; omega) _) | (with_reducible refine Later.setCell ?_ (by simp) _) | (with_reducible refine Later.drewN ?_ _) | (with_reducible refine Later.drew ?_) | (with_reducible refine Later.trans ?_ (Hid.out (by assumption)))))) hg (fun j e => by have := (O5.out.lt j e).1; omega))
            have A7 : Hid (alE R a b (k + 1) = 0) := Lib.hid ((fstB_succ _ _ HA.out).trans (HC.out.trans hcd))
            clear ho hg
            go_roundw
            case rel => exact ⟨k + 1, by omega, by go_num, by rw [flF_succ, ← HX.out, ← HY.out]; exact O7.out, A7.out, by rw [← HX.out, ← HY.out]; exact F7.out, S7.out, W7.out⟩
            case measure => simp [intOf]; omega
          · have T := Lib.hid (HST.out k hlt HA.out (by rw [HC.out]; exact hcd))
            have HCB : (codE x y != 0) = true := by simpa using hcd
            go_wp2_with fail
            refine (i_energyBehind_bad x y _ _ hxy rfl hcd).mono ?_
            rintro e w6 ⟨rfl, hb6⟩
            have H6 := Lib.hid hb6
            clear hb6 hcd
            go_wp2_with fail
            go_ret2
            exact ⟨.slice none 0 0, by rw [T.out.1, HC.out]; rfl, by rw [T.out.2.1, T.out.2.2]; exact ownW_none _ _ _ _, (by repeat (first | (with_reducible exact Later.refl _) | (with_reducible exact Hid.out (by assumption)) | (with_reducible refine Later.alloc ?_ _) | (with_reducible refine Later.setCell ?_ (by simp; omega) _) | (with_reducible refine Later.setCell ?_ (by simp) _) | (with_reducible refine Later.drewN ?_ _) | (with_reducible refine Later.drew ?_) | (with_reducible refine Later.trans ?_ (Hid.out (by assumption)))))⟩
        · obtain rfl : k = q := by omega
          have T := Lib.hid (HFI.out HA.out)
          go_wp2_with fail
          go_ret2
          exact ⟨_, by rw [T.out.1]; rfl, by rw [T.out.2.1, T.out.2.2]; exact HO.out.mono (by omega), HW2.out⟩
    · have T := Lib.hid (ea_bad2 he hz)
      have HZ : (sgE L f c != 0) = true := by simpa using hz
      clear hz
      go_enter Try.func11, Try.ntmps11
      go_upto_region 1 with (fail)
      refine into (Held [(w.heap.size + 1, 0, .int .i64 a), (w.heap.size + 1, 1, .int .i64 b), (w.heap.size, 0, .slice s n cap)] w) (by first | exact (held_box (held_box (held_start w) w.heap.size [.slice s n cap] _ rfl) (w.heap.size + 1) [.int .i64 a, .int .i64 b] _ (by simp))) ?_
      intro W hW
      obtain ⟨p0, p1, p2, _⟩ := Held.s3 hW
      have HW := Lib.hid (Held.is hW)
      have hz0 := sg_cell_lt p2
      clear hW
      go_wp2_with (go_at_call 42; refine (i_IsEnergy _ _ _).mono ?_; rintro e w1 ⟨rfl, hb⟩; obtain ⟨H, hcc, hff, hzz⟩ := later_facts hb; clear hb; (try simp at hzz); (try simp only [World.heap_drewN, World.cell?_drewN, World.frozen?_drewN] at hcc hff))
      refine (i_segmentsAlong s n cap L f c _ (HS.out.later (by repeat (first | (with_reducible exact Later.refl _) | (with_reducible exact Hid.out (by assumption)) | (with_reducible refine Later.alloc ?_ _) | (with_reducible refine Later.setCell ?_ (by simp; omega) _) | (with_reducible refine Later.setCell ?_ (by simp) _) | (with_reducible refine Later.drewN ?_ _) | (with_reducible refine Later.drew ?_) | (with_reducible refine Later.trans ?_ (Hid.out (by assumption))))))).mono ?_
      rintro e w2 ⟨v, rfl, ho, hb⟩
      have H2 := Lib.hid hb
      clear hb ho
      go_wp2_with fail
      go_ret2
      exact ⟨.slice none 0 0, by rw [T.out.1]; rfl, by rw [T.out.2.1, T.out.2.2]; exact ownW_none _ _ _ _, (by repeat (first | (with_reducible exact Later.refl _) | (with_reducible exact Hid.out (by assumption)) | (with_reducible refine Later.alloc ?_ _) | (with_reducible refine Later.setCell ?_ (by simp; omega) _) | (with_reducible refine Later.setCell ?_ (by simp) _) | (with_reducible refine Later.drewN ?_ _) | (with_reducible refine Later.drew ?_) | (with_reducible refine Later.trans ?_ (Hid.out (by assumption)))))⟩
end Go.Proofs.Ytnmlkigpiaekjaa
namespace Go.Proofs.Ytnmlkigpiaekjaa
open Go.RowKit
set_option maxHeartbeats 4000000
set_option linter.unusedVariables false
set_option linter.unusedSimpArgs false
/-- the greatest of m and the first k of a list -/
def mxK (m : Int) (l : List Int) : Nat → Int
  | 0 => m
  | k + 1 => max (mxK m l k) (gx l k)
theorem i_greatest (m : Int) (a : Option Addr) (n cap : Nat) (l : List Int) (w : World) (hs : Sl w a n l) :
    Calls Try.prog 49 #[.int .i64 m, .slice a n cap] w fun e w' => e = .returned (.int .i64 (mxK m l n)) ∧ Later w w' := by
  have HS := Lib.hid hs
  have hn := hs.2.1
  clear hs
  go_enter Try.func49, Try.ntmps49
  go_wp2_with fail
  go_loop [5, 11] (fun t i => ∃ k : Nat, k ≤ n ∧ i = .int .i64 k ∧ t = .int .i64 (mxK m l k)) (fun _ i => n - (intOf i).toNat)
  case atStart => exact ⟨0, by omega, rfl, rfl⟩
  case round =>
    obtain ⟨k, hk, rfl, rfl⟩ := hrel
    by_cases hlt : k < n
    · obtain ⟨b, off, rfl, hc⟩ := HS.out.at k hlt
      have HM : Hid (mxK m l (k + 1) = max (mxK m l k) (gx l k)) := Lib.hid rfl
      go_wp2_with fail
      go_round
      case rel =>
        refine ⟨k + 1, by omega, by go_num, ?_⟩
        rw [HM.out]
        congr 1
        split <;> omega
      case measure => simp [intOf]; omega
    · obtain rfl : k = n := by omega
      go_wp2_with fail
      go_ret
      exact ⟨rfl, Later.refl _⟩
/-- what is lacked behind each of the first k segments -/
def lackL (R : List Sg) (k : Nat) : List Int := (List.range k).map fun j => -clL R (j + 1)
theorem lackL_len (R : List Sg) (k : Nat) : (lackL R k).length = k := by simp [lackL]
theorem lackL_succ (R : List Sg) (k : Nat) : lackL R (k + 1) = lackL R k ++ [-clL R (k + 1)] := by
  unfold lackL; rw [List.range_succ, List.map_append]; rfl
theorem lackL_gx (R : List Sg) (n j : Nat) (h : j < n) : gx (lackL R n) j = -clL R (j + 1) := by
  rw [gx_of _ _ (by rw [lackL_len]; exact h)]; simp [lackL]
theorem mxK_lack (R : List Sg) (n k : Nat) (h : k ≤ n) : mxK 0 (lackL R n) k = ndN R k := by
  induction k with
  | zero => rfl
  | succ k ih => rw [ndN_succ, ← ih (by omega), ← lackL_gx R n k (by omega)]; rfl
theorem own_none0 (w : World) (base : Nat) : Own w base (.slice none 0 0) [] := ⟨⟨rfl, .inl ⟨rfl, rfl⟩⟩, fun x hx => by simp at hx⟩
theorem own_lat {w w' : World} {base : Nat} {v : Value} {l : List Int} (h : Own w base v l) (k : Later w w') : Own w' base v l :=
  h.kept (row := none) ⟨k.os, k.tape, k.output, k.size, fun i hi _ => k.block i hi⟩ (fun _ e => by cases e)
set_option maxRecDepth 100000 in
theorem i_EnergyNeeded (s : Option Addr) (n cap : Nat) (L : List Sg) (f c : Int) (w : World) (hs : Sgs w s n L) :
    Calls Try.prog 17 #[.agg #[.slice s n cap], .int .i64 f, .int .i64 c] w fun e w' => e = .returned (.tuple #[.int .i64 (enV L f c), .int .i64 (enE L f c)]) ∧ Later w w' := by
  have HS := Lib.hid hs
  have HL := Lib.hid hs.1
  clear hs
  by_cases hz : sgE L f c = 0
  · obtain ⟨hv, f', c', rfl, rfl, hf, hc⟩ := sgE_ok hz
    obtain ⟨R, hR⟩ : ∃ R, R = runS L f' c' := ⟨_, rfl⟩
    have hRl : R.length = c' := by rw [hR, runS_len]
    have hok : okB R R.length = true := by rw [hR]; exact runS_okB L f' c' ((layB_iff L).1 hv).2.2.1 (by omega)
    have HSV : Hid (sgV L (f' : Int) (c' : Int) = R) := Lib.hid (by unfold sgV; rw [if_pos hz, hR]; simp)
    have HE := Lib.hid hz
    have HFE : Hid (enE L (f' : Int) (c' : Int) = if ndN R c' ≤ 10000000000 then 0 else 3) := Lib.hid (by unfold enE; rw [if_pos hz, hR]; simp)
    have HFV : Hid (enV L (f' : Int) (c' : Int) = if ndN R c' ≤ 10000000000 then ndN R c' else 0) := Lib.hid (by unfold enV; rw [HFE.out, hR]; split <;> simp)
    have HND := Lib.hid (ndN_bd R hok c' (by omega))
    have HRL := Lib.hid hRl; have HOK := Lib.hid hok
    clear hR hz hok hRl hv hf
    go_enter Try.func17, Try.ntmps17
    go_wp2_with fail
    refine (i_segmentsAlong s n cap L f' c' _ (HS.out.later (by repeat (first | (with_reducible exact Later.refl _) | (with_reducible exact Hid.out (by assumption)) | (with_reducible refine Later.alloc ?_ _) | (with_reducible refine Later.setCell ?_ (by simp; omega) _) | (with_reducible refine Later.setCell ?_ (by simp) _) | (with_reducible refine Later.drewN ?_ _) | (with_reducible refine Later.drew ?_) | (with_reducible refine Later.trans ?_ (Hid.out (by assumption))))))).mono ?_
    rw [HE.out, HSV.out]
    rintro e w2 ⟨v, rfl, ho, hb⟩
    obtain ⟨ra, rc, rfl, hrc, hrs, hrb⟩ := ho.sgs
    have hrb2 : ∀ x, ra = some x → x.block < w2.heap.size := fun x e => by subst e; exact (ho.lt x.block rfl).2
    rw [HRL.out] at hrs
    generalize hq : R.length = q
    obtain rfl : q = c' := by rw [← hq]; exact HRL.out
    clear hq
    have RS2 := Lib.hid hrs; have RB := Lib.hid hrb2
    have H2 : Hid (Later w w2) := Lib.hid (Later.trans (by repeat (first | (with_reducible exact Later.refl _) | (with_reducible exact Hid.out (by assumption)) | (with_reducible refine Later.alloc ?_ _) | (with_reducible refine Later.setCell ?_ (by simp; omega) _) | (with_reducible refine Later.setCell ?_ (by simp) _) | (with_reducible refine Later.drewN ?_ _) | (with_reducible refine Later.drew ?_) | (with_reducible refine Later.trans ?_ (Hid.out (by assumption))))) hb)
    clear hb ho hrs hrb hrb2 hrc
    go_wp2_with fail
    refine (i_coasting 0 0 _).mono ?_
    rintro e w3 ⟨g, rfl, hg, hF, hb⟩
    have H3 : Hid (Later w w3) := Lib.hid (Later.trans (by repeat (first | (with_reducible exact Later.refl _) | (with_reducible exact Hid.out (by assumption)) | (with_reducible refine Later.alloc ?_ _) | (with_reducible refine Later.setCell ?_ (by simp; omega) _) | (with_reducible refine Later.setCell ?_ (by simp) _) | (with_reducible refine Later.drewN ?_ _) | (with_reducible refine Later.drew ?_) | (with_reducible refine Later.trans ?_ (Hid.out (by assumption))))) hb)
    have F3 := Lib.hid hF
    have RS3 := Lib.hid (RS2.out.later hb)
    have NG : Hid (∀ x, ra = some x → (some g : Option Nat) ≠ some x.block) := Lib.hid (fun x e h => by have := RB.out x e; have := Option.some.inj h; omega)
    have hgw : w.heap.size ≤ g := by have := H2.out.size; omega
    have HG2 := Lib.hid hg
    clear hb hF hg
    unfold sumF
    go_wp2_with fail
    go_loopw [11, 29] (fun v i wr => ∃ k : Nat, k ≤ q ∧ i = .int .i64 k ∧ Own wr (g + 1) v (lackL R k) ∧ Fr g [.int .i64 (clL R k), .int .i64 (clH R k)] wr ∧ Sgs wr ra q R ∧ Later w wr) (fun _ i _ => q - (intOf i).toNat)
    case atStart => exact ⟨0, by omega, rfl, own_none0 _ _, by rw [clL_0, clH_0]; exact F3.out, RS3.out, H3.out⟩
    case round =>
      clear RS2 RS3 F3 H3
      obtain ⟨k, hk, rfl, ho, hF, hrs, hlw⟩ := hrel
      have HO := Lib.hid ho; have HF := Lib.hid hF; have HRS := Lib.hid hrs; have HW2 := Lib.hid hlw
      have hlt0 := hF.lt
      clear ho hF hrs hlw
      by_cases hlt : k < q
      · have hseg : sgB (sx R k) = true := okB_at R R.length k (Nat.le_refl _) (by rw [HRL.out]; exact hlt) HOK.out
        obtain ⟨d1, d2, d3⟩ := cl_bd R HOK.out k (by rw [HRL.out]; exact hk)
        obtain ⟨d4, d5, d6⟩ := cl_bd R HOK.out (k + 1) (by rw [HRL.out]; exact hlt)
        obtain ⟨x, hx⟩ : ∃ x, x = clL R (k + 1) := ⟨_, rfl⟩
        obtain ⟨y, hy⟩ : ∃ y, y = clH R (k + 1) := ⟨_, rfl⟩
        have q1 : clL R k + chL (sx R k) = x := by rw [hx, clL_succ R k (by rw [HRL.out]; exact hlt)]
        have q2 : clH R k + chH (sx R k) = y := by rw [hy, clH_succ R k (by rw [HRL.out]; exact hlt)]
        have hx0 : -300000000000 ≤ x := by omega
        have hx2 : x ≤ 300000000000 := by omega
        have HX := Lib.hid hx; have HY := Lib.hid hy
        have b1 : -1000000000000 ≤ clL R k := by omega
        have b2 : clL R k ≤ 1000000000000 := by omega
        have b3 : -1000000000000 ≤ clH R k := by omega
        have b4 : clH R k ≤ 1000000000000 := by omega
        clear d1 d2 d3 d4 d5 d6 hx hy
        obtain ⟨bb, off, rfl, hb1, hc7⟩ := HRS.out.at k hlt
        obtain ⟨c0, c1, c2, c3, c4, c5, c6⟩ := hc7
        go_wp2_with fail
        refine (i_coasting1 (sx R k) g (clL R k) (clH R k) _ hseg (fr_later HF.out (by repeat (first | (with_reducible exact Later.refl _) | (with_reducible exact Hid.out (by assumption)) | (with_reducible refine Later.alloc ?_ _) | (with_reducible refine Later.setCell ?_ (by simp; omega) _) | (with_reducible refine Later.setCell ?_ (by simp) _) | (with_reducible refine Later.drewN ?_ _) | (with_reducible refine Later.drew ?_) | (with_reducible refine Later.trans ?_ (Hid.out (by assumption)))))) b1 b2 b3 b4).mono ?_
        rw [q1, q2]
        rintro e w5 ⟨rfl, hF5, hg5⟩
        have F5 := Lib.hid hF5
        have O5 := Lib.hid ((own_lat HO.out (show Later wr _ from (by repeat (first | (with_reducible exact Later.refl _) | (with_reducible exact Hid.out (by assumption)) | (with_reducible refine Later.alloc ?_ _) | (with_reducible refine Later.setCell ?_ (by simp; omega) _) | (with_reducible refine Later.setCell ?_ (by simp) _) | (with_reducible refine Later.drewN ?_ _) | (with_reducible refine Later.drew ?_) | (with_reducible refine Later.trans ?_ (Hid.out (by assumption))))))).kept hg5 (fun j e => by cases e; omega))
        have S5 := Lib.hid (sgs_kept (HRS.out.later (show Later wr _ from (by repeat (first | (with_reducible exact Later.refl _) | (with_reducible exact Hid.out (by assumption)) | (with_reducible refine Later.alloc ?_ _) | (with_reducible refine Later.setCell ?_ (by simp; omega) _) | (with_reducible refine Later.setCell ?_ (by simp) _) | (with_reducible refine Later.drewN ?_ _) | (with_reducible refine Later.drew ?_) | (with_reducible refine Later.trans ?_ (Hid.out (by assumption))))))) hg5 NG.out)
        have W5 : Hid (Later w w5) := Lib.hid (later_kept (show Later w _ from (by repeat (first | (with_reducible exact Later.refl _) | (with_reducible exact Hid.out (by assumption)) | (with_reducible refine Later.alloc ?_ _) | (with_reducible refine Later.setCell ?_ (by simp; omega) _) | (with_reducible refine Later.setCell ?_ (by simp) _) | (with_reducible refine Later.drewN ?_ _) | (with_reducible refine Later.drew ?_) | (with_reducible refine Later.trans ?_ (Hid.out (by assumption)))))) hg5 (fun j e => by cases e; exact hgw))
        have hg5s := hF5.lt
        clear hF5 hg5 c0 c1 c2 c3 c4 c5 c6 q1 q2 HO HF HRS
        have hfd : ∀ w : World, (Instr.field 28 (.agg #[.int .i64 x, .int .i64 y]) 0).run Try.prog w = .ok (.int .i64 x) w := fun _ => by kernel_rfl
        go_wp2_with (at_builtin; go_must (refine app1 rfl _ _ rfl (g + 1) _ _ _ (lackL R k) (-x) O5.out rfl rfl ⟨by omega, by omega⟩ (by rw [lackL_len]; omega) (by omega) ?_; intro v' w7 ho hg))
        have O7 := Lib.hid ho
        have F7 := Lib.hid (fr_kept F5.out hg (fun e => by have := (O5.out.lt g e).1; omega))
        have S7 := Lib.hid (sgs_kept S5.out hg (fun z e h => by have h1 := (O5.out.lt z.block h).1; have h2 := RB.out z e; have h3 := HG2.out; omega))
        have W7 : Hid (Later w w7) := Lib.hid (later_kept W5.out hg (fun j e => by have := (O5.out.lt j e).1; omega))
        clear ho hg
        go_roundw
        case rel => exact ⟨k + 1, by omega, by go_num, by rw [lackL_succ, ← HX.out]; exact O7.out, by rw [← HX.out, ← HY.out]; exact F7.out, S7.out, W7.out⟩
        case measure => simp [intOf]; omega
      · obtain rfl : k = q := by omega
        obtain ⟨sa, sc, hv, hsl, _⟩ := HO.out.sl
        rw [lackL_len] at hv hsl
        subst hv
        have HM : Hid (mxK 0 (lackL R k) k = ndN R k) := Lib.hid (mxK_lack R k k (Nat.le_refl _))
        go_wp2_with fail
        refine (i_greatest 0 sa k sc (lackL R k) _ hsl).mono ?_
        rw [HM.out]
        rintro e w6 ⟨rfl, hb6⟩
        have W6 : Hid (Later w w6) := Lib.hid (HW2.out.trans hb6)
        clear hb6
        by_cases hbig : ndN R k ≤ 10000000000
        · have E1 : Hid (enE L (f' : Int) (k : Int) = 0) := Lib.hid (by rw [HFE.out, if_pos hbig])
          have E2 : Hid (enV L (f' : Int) (k : Int) = ndN R k) := Lib.hid (by rw [HFV.out, if_pos hbig])
          go_wp2_with fail
          go_ret2
          exact ⟨ret_2i E2.out.symm E1.out.symm, W6.out⟩
        · have E1 : Hid (enE L (f' : Int) (k : Int) = 3) := Lib.hid (by rw [HFE.out, if_neg hbig])
          have E2 : Hid (enV L (f' : Int) (k : Int) = 0) := Lib.hid (by rw [HFV.out, if_neg hbig])
          go_wp2_with fail
          go_ret2
          exact ⟨ret_2i E2.out.symm E1.out.symm, W6.out⟩
  · have E1 : Hid (enE L f c = sgE L f c) := Lib.hid (by unfold enE; rw [if_neg hz])
    have E2 : Hid (enV L f c = 0) := Lib.hid (by unfold enV; rw [E1.out, if_neg hz])
    have HZ : (sgE L f c != 0) = true := by simpa using hz
    clear hz
    go_enter Try.func17, Try.ntmps17
    go_wp2_with fail
    refine (i_segmentsAlong s n cap L f c _ (HS.out.later (by repeat (first | (with_reducible exact Later.refl _) | (with_reducible exact Hid.out (by assumption)) | (with_reducible refine Later.alloc ?_ _) | (with_reducible refine Later.setCell ?_ (by simp; omega) _) | (with_reducible refine Later.setCell ?_ (by simp) _) | (with_reducible refine Later.drewN ?_ _) | (with_reducible refine Later.drew ?_) | (with_reducible refine Later.trans ?_ (Hid.out (by assumption))))))).mono ?_
    rintro e w2 ⟨v, rfl, ho, hb⟩
    have H2 : Hid (Later w w2) := Lib.hid (Later.trans (by repeat (first | (with_reducible exact Later.refl _) | (with_reducible exact Hid.out (by assumption)) | (with_reducible refine Later.alloc ?_ _) | (with_reducible refine Later.setCell ?_ (by simp; omega) _) | (with_reducible refine Later.setCell ?_ (by simp) _) | (with_reducible refine Later.drewN ?_ _) | (with_reducible refine Later.drew ?_) | (with_reducible refine Later.trans ?_ (Hid.out (by assumption))))) hb)
    clear hb ho
    go_wp2_with fail
    go_ret2
    exact ⟨ret_2i E2.out.symm E1.out.symm, H2.out⟩
end Go.Proofs.Ytnmlkigpiaekjaa
namespace Go.Proofs.Ytnmlkigpiaekjaa
open Go.RowKit
set_option maxHeartbeats 2000000
set_option linter.unusedVariables false
set_option linter.unusedSimpArgs false
/-- a slice of integers that came in, as the shell of a proof says it -/
def IsRow (k : IntKind) (w : World) (a : Option Addr) (len cap : Nat) (zs : List Int) : Prop :=
  (a = none ∧ len = 0 ∧ cap = 0 ∧ zs = []) ∨
  ∃ x, a = some x ∧ len ≤ cap ∧ cap ≤ maxLen ∧ zs.length = cap ∧ (∀ i, i < zs.length → w.cell? (x.add i) = some (.int k (zs.getD i 0))) ∧ ∀ n ∈ zs, (Lit.int k n).wf = true
theorem isRow_sl {w : World} {a : Option Addr} {len cap : Nat} {zs : List Int} (h : IsRow .i64 w a len cap zs) : Sl w a len (zs.take len) := by
  rcases h with ⟨rfl, rfl, rfl, rfl⟩ | ⟨x, rfl, hl, hm, hz, hc, hw⟩
  · exact ⟨rfl, by omega, fun k hk => absurd hk (by omega), fun x hx => by simp at hx⟩
  · unfold maxLen at hm
    refine ⟨by rw [List.length_take]; omega, by omega, fun k hk => ?_, fun y hy => ?_⟩
    · have h0 := hc 0 (by omega)
      have hk0 := hc k (by omega)
      obtain ⟨b, off, spot⟩ := x
      have hspot : spot = none := by simpa [Addr.add] using World.cell?_spot h0
      subst hspot
      rw [Addr.add_lit] at hk0
      exact ⟨b, off, rfl, by rw [gx_take _ _ _ hk]; exact hk0⟩
    · have := hw y (List.mem_of_mem_take hy)
      simp [Lit.wf, IntKind.min, IntKind.max, IntKind.signed, IntKind.bits] at this
      exact this
theorem isRow_bytes {w : World} {a : Option Addr} {len cap : Nat} {zs : List Int} (h : IsRow .u8 w a len cap zs) : Bytes w a len := by
  rcases h with ⟨rfl, rfl, rfl, rfl⟩ | ⟨x, rfl, hl, hm, hz, hc, hw⟩
  · exact ⟨by omega, fun k hk => absurd hk (by omega)⟩
  · unfold maxLen at hm
    refine ⟨by omega, fun k hk => ?_⟩
    have h0 := hc 0 (by omega)
    have hk0 := hc k (by omega)
    obtain ⟨b, off, spot⟩ := x
    have hspot : spot = none := by simpa [Addr.add] using World.cell?_spot h0
    subst hspot
    rw [Addr.add_lit] at hk0
    have hb := hw (zs.getD k 0) (show gx zs k ∈ zs from gx_mem zs k (by omega))
    simp [Lit.wf, IntKind.min, IntKind.max, IntKind.signed, IntKind.bits] at hb
    exact ⟨b, off, zs.getD k 0, rfl, hk0, by simpa using hb.1, by simpa using hb.2⟩
end Go.Proofs.Ytnmlkigpiaekjaa
namespace Go.Proofs.Ytnmlkigpiaekjaa
open Go.RowKit
set_option maxHeartbeats 4000000
set_option linter.unusedVariables false
set_option linter.unusedSimpArgs false
theorem fstB_or (f : Nat → Int) (n : Nat) : fstB f n = 0 ∨ ∃ k, k < n ∧ fstB f n = f k := by
  induction n with
  | zero => exact .inl rfl
  | succ n ih =>
    unfold fstB
    by_cases h : fstB f n = 0
    · rw [if_pos h]; exact .inr ⟨n, by omega, rfl⟩
    · rw [if_neg h]
      rcases ih with h0 | ⟨k, hk, e⟩
      · exact absurd h0 h
      · exact .inr ⟨k, by omega, e⟩
theorem codE_cases (a b : Int) : codE a b = 0 ∨ codE a b = 3 ∨ codE a b = 5 := by
  unfold codE; split
  · exact .inr (.inr rfl)
  · split
    · exact .inl rfl
    · exact .inr (.inl rfl)
theorem codE_5 (a b : Int) : codE a b = 5 ↔ a < 0 := by
  unfold codE
  by_cases h : a < 0
  · rw [if_pos h]; simp [h]
  · rw [if_neg h]
    constructor
    · intro e; split at e <;> cases e
    · intro e; exact absurd e h
/-- with the energy that is needed a train passes or becomes too fast, with less it doesn't -/
theorem need_facts (L : List Sg) (f c : Int) (h : enE L f c = 0) :
    0 ≤ enV L f c ∧ enV L f c ≤ 10000000000 ∧ (eaE L f c (enV L f c) (enV L f c) = 0 ∨ eaE L f c (enV L f c) (enV L f c) = 3) ∧
      (enV L f c ≠ 0 → eaE L f c (enV L f c - 1) (enV L f c - 1) = 5 ∨ eaE L f c (enV L f c - 1) (enV L f c - 1) = 3) := by
  have hv : enV L f c = ndN (runS L f.toNat c.toNat) c.toNat := by unfold enV; rw [if_pos h]
  have hs : sgE L f c = 0 := by
    by_cases e : sgE L f c = 0
    · exact e
    · unfold enE at h; rw [if_neg e] at h; exact absurd h e
  have hle : ndN (runS L f.toNat c.toNat) c.toNat ≤ 10000000000 := by
    by_cases e : ndN (runS L f.toNat c.toNat) c.toNat ≤ 10000000000
    · exact e
    · unfold enE at h; rw [if_pos hs, if_neg e] at h; cases h
  obtain ⟨hl, f', c', rfl, rfl, hf, hc⟩ := sgE_ok hs
  simp only [Int.toNat_natCast] at hv hle
  have hok := runS_okB L f' c' ((layB_iff L).1 hl).2.2.1 (by omega)
  have hlen := runS_len L f' c'
  obtain ⟨R, hR⟩ : ∃ R, R = runS L f' c' := ⟨_, rfl⟩
  obtain ⟨n, hn⟩ : ∃ n, n = ndN R c' := ⟨_, rfl⟩
  rw [← hR] at hv hle hok hlen
  rw [← hn] at hv hle
  rw [hv]
  have h0 := (ndN_bd R hok c' (by omega)).1
  rw [← hn] at h0
  have ea : ∀ m : Int, enB m m = true → eaE L (f' : Int) (c' : Int) m m = alE R m m c' := fun m hm => by rw [ea_at hm hs, hR]
  refine ⟨h0, hle, ?_, fun hne => ?_⟩
  · rw [ea n (by rw [enB_iff]; omega)]
    unfold alE
    rcases fstB_or (cdK R n n) c' with e | ⟨k, hk, e⟩
    · exact .inl e
    · rw [e]
      have hg := ndN_ge R c' k hk
      rw [← hn] at hg
      rcases codE_cases (n + clL R (k + 1)) (n + clH R (k + 1)) with e | e | e
      · exact .inl e
      · exact .inr e
      · rw [codE_5] at e; omega
  · rw [ea (n - 1) (by rw [enB_iff]; omega)]
    unfold alE
    rcases fstB_or (cdK R (n - 1) (n - 1)) c' with e | ⟨k, hk, e⟩
    · exfalso
      rcases ndN_is R c' with h1 | ⟨j, hj, h1⟩
      · omega
      · have := (fstB_zero _ _).1 e j hj
        have h2 : cdK R (n - 1) (n - 1) j = 5 := (codE_5 _ _).2 (by omega)
        rw [h2] at this; cases this
    · rw [e]
      rcases codE_cases (n - 1 + clL R (k + 1)) (n - 1 + clH R (k + 1)) with e2 | e2 | e2
      · exfalso
        rcases ndN_is R c' with h1 | ⟨j, hj, h1⟩
        · omega
        · have h3 : fstB (cdK R (n - 1) (n - 1)) c' = 0 := by rw [e]; exact e2
          have := (fstB_zero _ _).1 h3 j hj
          have h2 : cdK R (n - 1) (n - 1) j = 5 := (codE_5 _ _).2 (by omega)
          rw [h2] at this; cases this
      · exact .inr e2
      · exact .inl e2
set_option maxRecDepth 100000 in
theorem walk_FnEnergyNeeded (a0 : Option Addr) (len0 cap0 : Nat) (z0 : List Int) (w : World) (w0 : IsRow .u8 w a0 len0 cap0 z0) :
    Calls Try.prog 4 #[.slice a0 len0 cap0] w fun e w' => e = .returned (.bool true) ∧ Below w.heap.size w w' := by
  have HS := Lib.hid (isRow_bytes w0)
  clear w0
  by_cases hbig : 4096 < len0
  · go_enter Try.func4, Try.ntmps4
    go_wp2_with fail
    refine (l_big _ _ _ _).mono ?_
    rintro e w' ⟨rfl, rfl⟩
    go_wp2
    go_ret
    exact ⟨rfl, Below.refl _ _⟩
  · go_enter Try.func4, Try.ntmps4
    go_wp2_with fail
    refine (l_big _ _ _ _).mono ?_
    rintro e w' ⟨rfl, rfl⟩
    go_wp2_with fail
    refine (s_DrawEnergyNeeded _ _ _ _ HS.out).mono ?_
    rintro e w1 ⟨a', n, cap', L, f, c, rfl, hl, ⟨f1, f2⟩, ⟨c1, c2⟩, hb⟩
    have B1 : Hid (Later w (w1.alloc (.cells #[.slice a' n cap'] 26))) := Lib.hid (Later.alloc hb _)
    have L1 := Lib.hid (hl.later ((Later.refl w1).alloc (.cells #[.slice a' n cap'] 26)))
    have k1 : (w1.alloc (.cells #[.slice a' n cap'] 26)).cell? ⟨w1.heap.size, 0, none⟩ = some (.slice a' n cap') := by simp
    clear hb hl
    obtain ⟨N, hN⟩ : ∃ N, N = enV L f c := ⟨_, rfl⟩
    obtain ⟨E, hE⟩ : ∃ E, E = enE L f c := ⟨_, rfl⟩
    have HN := Lib.hid hN; have HE := Lib.hid hE
    have e0 : (N != N) = false := by simp
    have e1 : (E != E) = false := by simp
    clear hN hE
    go_wp2_with fail
    refine (i_EnergyNeeded a' n cap' L f c _ L1.out).mono ?_
    rw [← HN.out, ← HE.out]
    rintro e w2 ⟨rfl, hb⟩
    have B2 := Lib.hid (B1.out.trans hb)
    have L2 := Lib.hid (L1.out.later hb)
    have k2 := (hb.cell (p := ⟨w1.heap.size, 0, none⟩) (by simp)).trans k1
    clear hb k1
    go_wp2_with fail
    refine (s_EnergyNeeded a' n cap' L f c _ L2.out).mono ?_
    rw [← HN.out, ← HE.out]
    rintro e w3 ⟨rfl, hb⟩
    have B3 := Lib.hid (B2.out.trans hb)
    have L3 := Lib.hid (L2.out.later hb)
    have k3 := (hb.cell (p := ⟨w1.heap.size, 0, none⟩) (sg_cell_lt k2)).trans k2
    clear hb k2
    by_cases h0 : E = 0
    · obtain ⟨n0, n1, n2, n3⟩ := need_facts L f c (by rw [← HE.out]; exact h0)
      rw [← HN.out] at n0 n1 n2 n3
      have h0' : (E != 0) = false := by simp [h0]
      clear h0
      obtain ⟨C, hC⟩ : ∃ C, C = eaE L f c N N := ⟨_, rfl⟩
      have HC := Lib.hid hC
      rw [← hC] at n2
      clear hC
      go_wp2_with fail
      refine (i_EnergyAlong a' n cap' L f c N N _ L3.out).mono ?_
      rw [← HC.out]
      rintro e w4 ⟨v, rfl, ho, hb⟩
      have B4 := Lib.hid (B3.out.trans hb)
      have L4 := Lib.hid (L3.out.later hb)
      have k4 := (hb.cell (p := ⟨w1.heap.size, 0, none⟩) (sg_cell_lt k3)).trans k3
      clear hb k3 ho
      by_cases hN0 : N = 0
      · have hn0 : (N == 0) = true := by simp [hN0]
        rcases n2 with rfl | rfl
        all_goals
          go_wp2_with fail
          go_ret
          exact ⟨rfl, B4.out⟩
      · have hn0 : (N == 0) = false := by simpa using hN0
        have n4 := n3 hN0
        obtain ⟨D, hD⟩ : ∃ D, D = eaE L f c (N - 1) (N - 1) := ⟨_, rfl⟩
        have HD := Lib.hid hD
        rw [← hD] at n4
        clear hD n3 hN0
        rcases n2 with rfl | rfl
        all_goals
          go_wp2_with fail
          refine (i_EnergyAlong a' n cap' L f c (N - 1) (N - 1) _ L4.out).mono ?_
          rw [← HD.out]
          rintro e w5 ⟨v2, rfl, ho, hb⟩
          have B5 := Lib.hid (B4.out.trans hb)
          clear hb ho
          rcases n4 with rfl | rfl
          all_goals
            go_wp2_with fail
            go_ret
            exact ⟨rfl, B5.out⟩
    · have h0' : (E != 0) = true := by simpa using h0
      clear h0
      go_wp2_with fail
      go_ret
      exact ⟨rfl, B3.out⟩
end Go.Proofs.Ytnmlkigpiaekjaa
