/- Contracts of the laws' own helpers on slices of segments and layouts. -/
import Derived.Test.YtnmlkigpiaekjaaSgL
import Derived.Test.YtnmlkigpiaekjaaHeld
import Derived.IntWalk
namespace Go.Proofs.Ytnmlkigpiaekjaa
open Go.RowKit
set_option maxHeartbeats 2000000
set_option linter.unusedVariables false
set_option linter.unusedSimpArgs false
theorem later_id {w w' : World} (h : Later w w') : Hid (Later w w') := Lib.hid h
theorem SgAt.later {w w' : World} {b o : Nat} {x : Sg} (h : SgAt w b o x) (k : Later w w') : SgAt w' b o x := by
  obtain ⟨h0, h1, h2, h3, h4, h5, h6⟩ := h
  have hb := sg_cell_lt h0
  refine ⟨?_, ?_, ?_, ?_, ?_, ?_, ?_⟩
  · rw [k.cell (p := ⟨b, o, none⟩) hb]; exact h0
  · rw [k.cell (p := ⟨b, o + 1, none⟩) hb]; exact h1
  · rw [k.cell (p := ⟨b, o + 2, none⟩) hb]; exact h2
  · rw [k.cell (p := ⟨b, o + 3, none⟩) hb]; exact h3
  · rw [k.cell (p := ⟨b, o + 4, none⟩) hb]; exact h4
  · rw [k.cell (p := ⟨b, o + 5, none⟩) hb]; exact h5
  · rw [k.cell (p := ⟨b, o + 6, none⟩) hb]; exact h6
theorem sg14 {w : World} {b o b' o' : Nat} {x y : Sg} (h : SgAt w b o x) (k : SgAt w b' o' y) : w.cell? ⟨b, o, none⟩ = some (.int .i64 x.k) ∧ w.cell? ⟨b, o + 1, none⟩ = some (.int .i64 x.l) ∧ w.cell? ⟨b, o + 2, none⟩ = some (.int .i64 x.r) ∧ w.cell? ⟨b, o + 3, none⟩ = some (.int .i64 x.a) ∧ w.cell? ⟨b, o + 4, none⟩ = some (.int .i64 x.b) ∧ w.cell? ⟨b, o + 5, none⟩ = some (.int .i64 x.c) ∧ w.cell? ⟨b, o + 6, none⟩ = some (.int .i64 x.d) ∧ w.cell? ⟨b', o', none⟩ = some (.int .i64 y.k) ∧ w.cell? ⟨b', o' + 1, none⟩ = some (.int .i64 y.l) ∧ w.cell? ⟨b', o' + 2, none⟩ = some (.int .i64 y.r) ∧ w.cell? ⟨b', o' + 3, none⟩ = some (.int .i64 y.a) ∧ w.cell? ⟨b', o' + 4, none⟩ = some (.int .i64 y.b) ∧ w.cell? ⟨b', o' + 5, none⟩ = some (.int .i64 y.c) ∧ w.cell? ⟨b', o' + 6, none⟩ = some (.int .i64 y.d) :=
  ⟨h.1, h.2.1, h.2.2.1, h.2.2.2.1, h.2.2.2.2.1, h.2.2.2.2.2.1, h.2.2.2.2.2.2, k⟩
/-- two lists of segments are equal -/
def eqsB (L M : List Sg) : Bool := decide (L.length = M.length) && (List.range L.length).all fun k => eqB (sx L k) (sx M k)
theorem eqsB_same (L : List Sg) : eqsB L L = true := by
  unfold eqsB
  simp [eqB_iff]
theorem l_eqSegmentS_same (a a' : Option Addr) (n cap n' cap' : Nat) (L : List Sg) (w : World) (hs : Sgs w a n L) (ht : Sgs w a' n' L) :
    Calls Try.prog 53 #[.slice a n cap, .slice a' n' cap'] w fun e w' => e = .returned (.bool true) ∧ Later w w' := by
  obtain rfl : n = n' := by rw [← hs.1, ← ht.1]
  have HS := Lib.hid hs
  have HT := Lib.hid ht
  have hn := hs.2.1
  clear hs ht
  have e0 : ((n : Int) != (n : Int)) = false := by simp
  go_enter Try.func53, Try.ntmps53
  go_wp2
  go_loopw [5] (fun i wr => ∃ k : Nat, k ≤ n ∧ i = .int .i64 k ∧ Later w wr) (fun i _ => n - (intOf i).toNat)
  case atStart => exact ⟨0, by omega, rfl, Later.refl _⟩
  case round =>
    obtain ⟨k, hk, rfl, hlw⟩ := hrel
    have HW := Lib.hid hlw
    clear hlw
    by_cases hlt : k < n
    · obtain ⟨b, off, rfl, hb, hc⟩ := (HS.out.later HW.out).at k hlt
      obtain ⟨b', off', rfl, hb', hc'⟩ := (HT.out.later HW.out).at k hlt
      have C := Lib.hid hc; have C' := Lib.hid hc'
      obtain ⟨c0, c1, c2, c3, c4, c5, c6⟩ := hc
      obtain ⟨d0, d1, d2, d3, d4, d5, d6⟩ := hc'
      go_wp2_with fail
      go_region_held3 (fun w' => w'.cell? ⟨b, off + k * 7, none⟩ = some (.int .i64 (sx L k).k) ∧ w'.cell? ⟨b, off + k * 7 + 1, none⟩ = some (.int .i64 (sx L k).l) ∧ w'.cell? ⟨b, off + k * 7 + 2, none⟩ = some (.int .i64 (sx L k).r) ∧ w'.cell? ⟨b, off + k * 7 + 3, none⟩ = some (.int .i64 (sx L k).a) ∧ w'.cell? ⟨b, off + k * 7 + 4, none⟩ = some (.int .i64 (sx L k).b) ∧ w'.cell? ⟨b, off + k * 7 + 5, none⟩ = some (.int .i64 (sx L k).c) ∧ w'.cell? ⟨b, off + k * 7 + 6, none⟩ = some (.int .i64 (sx L k).d) ∧ w'.cell? ⟨b', off' + k * 7, none⟩ = some (.int .i64 (sx L k).k) ∧ w'.cell? ⟨b', off' + k * 7 + 1, none⟩ = some (.int .i64 (sx L k).l) ∧ w'.cell? ⟨b', off' + k * 7 + 2, none⟩ = some (.int .i64 (sx L k).r) ∧ w'.cell? ⟨b', off' + k * 7 + 3, none⟩ = some (.int .i64 (sx L k).a) ∧ w'.cell? ⟨b', off' + k * 7 + 4, none⟩ = some (.int .i64 (sx L k).b) ∧ w'.cell? ⟨b', off' + k * 7 + 5, none⟩ = some (.int .i64 (sx L k).c) ∧ w'.cell? ⟨b', off' + k * 7 + 6, none⟩ = some (.int .i64 (sx L k).d)) (exact sg14 (C.out.later (by repeat (first | (with_reducible exact Later.refl _) | (with_reducible refine Later.alloc ?_ _) | (with_reducible refine Later.drewN ?_ _) | (with_reducible refine Later.drew ?_) | (with_reducible refine Later.trans ?_ (Hid.out (by assumption)))))) (C'.out.later (by repeat (first | (with_reducible exact Later.refl _) | (with_reducible refine Later.alloc ?_ _) | (with_reducible refine Later.drewN ?_ _) | (with_reducible refine Later.drew ?_) | (with_reducible refine Later.trans ?_ (Hid.out (by assumption)))))))
        (first | (go_at_call 82; refine (l_eqSegment (sx L k) (sx L k) _).mono ?_; rw [(eqB_iff _ _).2 rfl]; rintro e w1 ⟨rfl, hb1⟩; have H1 := Lib.hid hb1; clear hb1))
      all_goals
        go_wp2
        go_roundw
        case rel => exact ⟨k + 1, by omega, by go_num, (by repeat (first | (with_reducible exact Later.refl _) | (with_reducible exact Hid.out (by assumption)) | (with_reducible refine Later.alloc ?_ _) | (with_reducible refine Later.drewN ?_ _) | (with_reducible refine Later.drew ?_) | (with_reducible refine Later.trans ?_ (Hid.out (by assumption)))))⟩
        case measure => simp [intOf]; omega
    · obtain rfl : k = n := by omega
      go_wp2
      go_ret
      exact ⟨rfl, HW.out⟩
theorem l_eqLayout_same (a a' : Option Addr) (n cap n' cap' : Nat) (L : List Sg) (w : World) (hs : Sgs w a n L) (ht : Sgs w a' n' L) :
    Calls Try.prog 23 #[.agg #[.slice a n cap], .agg #[.slice a' n' cap']] w fun e w' => e = .returned (.bool true) ∧ Later w w' := by
  have HS := Lib.hid hs; have HT := Lib.hid ht
  clear hs ht
  go_enter Try.func23, Try.ntmps23
  go_wp2_with (go_at_call 53; refine (l_eqSegmentS_same a a' n cap n' cap' L _ (HS.out.later (by repeat (first | (with_reducible exact Later.refl _) | (with_reducible exact Hid.out (by assumption)) | (with_reducible refine Later.alloc ?_ _) | (with_reducible refine Later.drewN ?_ _) | (with_reducible refine Later.drew ?_) | (with_reducible refine Later.trans ?_ (Hid.out (by assumption)))))) (HT.out.later (by repeat (first | (with_reducible exact Later.refl _) | (with_reducible exact Hid.out (by assumption)) | (with_reducible refine Later.alloc ?_ _) | (with_reducible refine Later.drewN ?_ _) | (with_reducible refine Later.drew ?_) | (with_reducible refine Later.trans ?_ (Hid.out (by assumption))))))).mono ?_; rintro e w1 ⟨rfl, hb1⟩; have H1 := Lib.hid hb1; clear hb1)
  go_ret
  exact ⟨rfl, (by repeat (first | (with_reducible exact Later.refl _) | (with_reducible exact Hid.out (by assumption)) | (with_reducible refine Later.alloc ?_ _) | (with_reducible refine Later.drewN ?_ _) | (with_reducible refine Later.drew ?_) | (with_reducible refine Later.trans ?_ (Hid.out (by assumption)))))⟩
/-- what is left of a bound on the length, or -1 -/
def szI (m : Int) (n : Nat) : Int := if m - n < 0 then -1 else m - n
theorem l_szSegmentS (a : Option Addr) (n cap : Nat) (w : World) (hn : n ≤ 9223372036854775807) :
    Calls Try.prog 50 #[.slice a n cap, .int .i64 1048576] w fun e w' => e = .returned (.int .i64 (szI 1048576 n)) ∧ w = w' := by
  by_cases h : 1048576 < n
  · have e1 : Hid (szI 1048576 n = -1) := Lib.hid (by unfold szI; rw [if_pos (by omega)])
    go_enter Try.func50, Try.ntmps50
    go_wp2
    go_ret
    exact ⟨ret_i64 (by rw [e1.out]), rfl⟩
  · have e1 : Hid (szI 1048576 n = 1048576 - n) := Lib.hid (by unfold szI; rw [if_neg (by omega)])
    have h : n ≤ 1048576 := by omega
    go_enter Try.func50, Try.ntmps50
    go_wp2
    go_ret
    exact ⟨ret_i64 (by rw [e1.out]), rfl⟩
theorem l_szLayout (a : Option Addr) (n cap : Nat) (w : World) (hn : n ≤ 9223372036854775807) :
    Calls Try.prog 19 #[.agg #[.slice a n cap], .int .i64 1048576] w fun e w' => e = .returned (.int .i64 (szI 1048576 n)) ∧ Later w w' := by
  by_cases h : 1048576 < n
  · have e1 : Hid (szI 1048576 n = -1) := Lib.hid (by unfold szI; rw [if_pos (by omega)])
    go_enter Try.func19, Try.ntmps19
    go_wp2_with (go_at_call 50; refine (l_szSegmentS a n cap _ hn).mono ?_; rw [e1.out]; rintro e w' ⟨rfl, rfl⟩)
    go_ret
    exact ⟨ret_i64 (by rw [e1.out]), (by repeat (first | (with_reducible exact Later.refl _) | (with_reducible exact Hid.out (by assumption)) | (with_reducible refine Later.alloc ?_ _) | (with_reducible refine Later.drewN ?_ _) | (with_reducible refine Later.drew ?_) | (with_reducible refine Later.trans ?_ (Hid.out (by assumption)))))⟩
  · have e1 : Hid (szI 1048576 n = 1048576 - n) := Lib.hid (by unfold szI; rw [if_neg (by omega)])
    have h : n ≤ 1048576 := by omega
    go_enter Try.func19, Try.ntmps19
    go_wp2_with (go_at_call 50; refine (l_szSegmentS a n cap _ hn).mono ?_; rw [e1.out]; rintro e w' ⟨rfl, rfl⟩)
    go_ret
    exact ⟨ret_i64 (by rw [e1.out]), (by repeat (first | (with_reducible exact Later.refl _) | (with_reducible exact Hid.out (by assumption)) | (with_reducible refine Later.alloc ?_ _) | (with_reducible refine Later.drewN ?_ _) | (with_reducible refine Later.drew ?_) | (with_reducible refine Later.trans ?_ (Hid.out (by assumption)))))⟩
/-- what a copy of a slice of segments leaves: a row of its own -/
def CopiedS (w : World) (n : Nat) (L : List Sg) (e : Ending) (w' : World) : Prop :=
  ∃ g, e = .returned (.slice (some ⟨g, 0, none⟩) n n) ∧ w.heap.size ≤ g ∧ SgRow w' g n (flt L) ∧ Later w w'
theorem info_seg : (Try.prog.info? 77).map (fun i => (i.zero, i.size, i.bytes)) = some (some (.agg #[.int .i64 0, .int .i64 0, .int .i64 0, .int .i64 0, .int .i64 0, .int .i64 0, .int .i64 0]), 7, 56) := by kernel_rfl
end Go.Proofs.Ytnmlkigpiaekjaa
