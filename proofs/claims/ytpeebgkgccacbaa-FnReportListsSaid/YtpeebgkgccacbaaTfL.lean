/- Contracts of the laws' own helpers on traffic. -/
import Derived.Test.YtpeebgkgccacbaaTfM
import Derived.Test.YtpeebgkgccacbaaMemO
import Derived.Test.YtpeebgkgccacbaaLki
import Derived.Test.YtpeebgkgccacbaaMark
import Derived.Test.YtpeebgkgccacbaaTfK
namespace Go.Proofs.Ytpeebgkgccacbaa
open Go.RowKit
set_option maxHeartbeats 4000000
set_option linter.unusedVariables false
set_option linter.unusedSimpArgs false
def szT (n : Nat) : Int := if n ≤ 1048576 then 1048576 - (n : Int) else -1
theorem l_hasIntT (a : Option Addr) (n cap : Nat) (l : List Int) (x : Int) (w : World) (hs : Sl w a n l) :
    Calls Try.prog 15 #[.slice a n cap, .int .i64 x] w fun e w' => e = .returned (.bool (decide (x ∈ l))) ∧ Later w w' := by
  have HS := Lib.hid hs
  have HL := Lib.hid hs.1
  have hn := hs.2.1
  clear hs
  go_enter Try.func15, Try.ntmps15
  go_wp2_with fail
  go_loopw [5] (fun i wr => ∃ k : Nat, k ≤ n ∧ i = .int .i64 k ∧ (∀ j, j < k → gx l j ≠ x) ∧ Later w wr) (fun i _ => n - (intOf i).toNat)
  case atStart => exact ⟨0, by omega, rfl, fun j hj => by omega, Later.refl _⟩
  case round =>
    obtain ⟨k, hk, rfl, hne, hg⟩ := hrel
    have HG := Lib.hid hg; have HN := Lib.hid hne
    clear hg hne
    by_cases hlt : k < n
    · obtain ⟨b, off, rfl, hc⟩ := (sl_later HS.out HG.out).at k hlt
      cases hx : (gx l k == x)
      · go_wp2_with fail
        go_roundw
        case rel =>
          refine ⟨k + 1, by omega, by go_num, fun j hj => ?_, (by repeat (first | (with_reducible exact Later.refl _) | (with_reducible exact Hid.out (by assumption)) | (with_reducible refine Later.alloc ?_ _) | (with_reducible refine Later.setCell ?_ (by simp; omega) _) | (with_reducible refine Later.setCell ?_ (by simp) _) | (with_reducible refine Later.drewN ?_ _) | (with_reducible refine Later.drew ?_) | (with_reducible refine Later.trans ?_ (Hid.out (by assumption)))))⟩
          by_cases e : j = k
          · rw [e]; simpa using hx
          · exact HN.out j (by omega)
        case measure => simp [intOf]; omega
      · have HM : Hid (x ∈ l) := Lib.hid (by have := gx_mem l k (by rw [HL.out]; exact hlt); rw [← show gx l k = x by simpa using hx]; exact this)
        go_wp2_with fail
        go_ret
        exact ⟨ret_b (by rw [decide_eq_true HM.out]), (by repeat (first | (with_reducible exact Later.refl _) | (with_reducible exact Hid.out (by assumption)) | (with_reducible refine Later.alloc ?_ _) | (with_reducible refine Later.setCell ?_ (by simp; omega) _) | (with_reducible refine Later.setCell ?_ (by simp) _) | (with_reducible refine Later.drewN ?_ _) | (with_reducible refine Later.drew ?_) | (with_reducible refine Later.trans ?_ (Hid.out (by assumption)))))⟩
    · obtain rfl : k = n := by omega
      have HM : Hid (¬ x ∈ l) := Lib.hid (fun hx => by
        obtain ⟨j, hj, e⟩ := List.mem_iff_getElem.1 hx
        exact HN.out j (by rw [← HL.out]; exact hj) (by rw [gx_of l j hj]; exact e))
      go_wp2_with fail
      go_ret
      exact ⟨ret_b (by rw [decide_eq_false HM.out]), HG.out⟩
theorem cl_lt (w : World) (o : Obj) (b j : Nat) (h : b < w.heap.size) : (w.alloc o).cell? ⟨b, j, none⟩ = w.cell? ⟨b, j, none⟩ := ((Later.refl w).alloc o).cell (p := ⟨b, j, none⟩) h
theorem fz_lt (w : World) (o : Obj) (b j : Nat) (h : b < w.heap.size) : (w.alloc o).frozen? ⟨b, j, none⟩ = w.frozen? ⟨b, j, none⟩ := Below.frozen (p := ⟨b, j, none⟩) ((Later.refl w).alloc o) h
theorem cl_new (w : World) (cs : Array Value) (T : TypeId) (b j : Nat) (v : Value) (hb : b = w.heap.size) (h : cs[j]? = some v) : (w.alloc (.cells cs T)).cell? ⟨b, j, none⟩ = some v := by
  subst hb; simp only [World.cell?, heap_alloc_new]; simp [h]
theorem fz_new (w : World) (cs : Array Value) (T : TypeId) (b j : Nat) (hb : b = w.heap.size) : (w.alloc (.cells cs T)).frozen? ⟨b, j, none⟩ = false := by
  subst hb; simp only [World.frozen?, heap_alloc_new]; simp
/-- a copy of a traffic -/
def CpT (w : World) (B : Int) (n : Nat) (l : List Int) (e : Ending) (w' : World) : Prop :=
  ∃ g, e = .returned (.agg #[.int .i64 B, .slice (some ⟨g, 0, none⟩) n n]) ∧ w.heap.size ≤ g ∧ g < w'.heap.size ∧ Own w' w.heap.size (.slice (some ⟨g, 0, none⟩) n n) l ∧ Later w w'
end Go.Proofs.Ytpeebgkgccacbaa
