/- The model's source of drawn numbers: whatever the bytes are, it hands out numbers within their range and touches nothing but itself. -/
import Derived.Test.YtpeebgkgccacbaaSl
import Derived.Test.YtpeebgkgccacbaaGrown
import Derived.WalkSmall
namespace Go.Proofs.Ytpeebgkgccacbaa
open Go.RowKit
set_option maxHeartbeats 2000000
set_option linter.unusedVariables false
set_option linter.unusedSimpArgs false
/-- the bytes of the code, seen from a source in block B -/
def Code8 (w : World) (B : Nat) (a : Option Addr) (len : Nat) : Prop :=
  len ≤ 9223372036854775807 ∧ ∀ k, k < len → ∃ b off x, a = some ⟨b, off, none⟩ ∧ b ≠ B ∧ w.cell? ⟨b, off + k, none⟩ = some (.int .u8 x) ∧ 0 ≤ x ∧ x ≤ 255
def Src (w : World) (B : Nat) (a : Option Addr) (len cap : Nat) : Prop :=
  (∃ (p : Nat) (s : Int), p ≤ len ∧ 0 ≤ s ∧ s < 2147483647 ∧ w.heap[B]? = some (.cells #[.slice a len cap, .int .i64 p, .int .i64 s] 58 (0, 0))) ∧ Code8 w B a len
theorem Code8.kept {w w' : World} {B : Nat} {a : Option Addr} {len : Nat} (h : Code8 w B a len) (hg : w.grownBy w' (some B)) : Code8 w' B a len := by
  refine ⟨h.1, fun k hk => ?_⟩
  obtain ⟨b, off, x, rfl, hb, hc, h0, h1⟩ := h.2 k hk
  exact ⟨b, off, x, rfl, hb, hg.cell hc (by simpa using hb), h0, h1⟩
theorem set2 {w : World} {B : Nat} {c0 c1 c2 u : Value} {T : TypeId} (h : w.heap[B]? = some (.cells #[c0, c1, c2] T (0, 0))) : (w.setCell ⟨B, 2, none⟩ u).heap[B]? = some (.cells #[c0, c1, u] T (0, 0)) := by
  rw [heap_setCell_same w B 2 _ T u h]; rfl
theorem set1 {w : World} {B : Nat} {c0 c1 c2 u : Value} {T : TypeId} (h : w.heap[B]? = some (.cells #[c0, c1, c2] T (0, 0))) : (w.setCell ⟨B, 1, none⟩ u).heap[B]? = some (.cells #[c0, u, c2] T (0, 0)) := by
  rw [heap_setCell_same w B 1 _ T u h]; rfl
def Nexted (w : World) (B : Nat) (a : Option Addr) (len cap : Nat) (n : Int) (e : Ending) (w' : World) : Prop :=
  ∃ r : Int, e = .returned (.int .i64 r) ∧ 0 ≤ r ∧ (1 < n → r < n) ∧ (n ≤ 1 → r = 0) ∧ Src w' B a len cap ∧ w.grownBy w' (some B)
theorem next_fin0 {w : World} {B : Nat} {a : Option Addr} {len cap p : Nat} {s s' : Int} (q : Nat) (hb : w.heap[B]? = some (.cells #[.slice a len cap, .int .i64 p, .int .i64 s] 58 (0, 0))) (hc : Code8 w B a len) (hp : p ≤ len) (s0 : 0 ≤ s') (s1 : s' < 2147483647) :
    Src ((w.setCell ⟨B, 2, none⟩ (.int .i64 s')).drewN q) B a len cap ∧ w.grownBy ((w.setCell ⟨B, 2, none⟩ (.int .i64 s')).drewN q) (some B) := by
  have g : w.grownBy ((w.setCell ⟨B, 2, none⟩ (.int .i64 s')).drewN q) (some B) := grown_trans (grown_set _ _ _ _) (grown_drewN _ _ _)
  exact ⟨⟨⟨p, s', hp, s0, s1, set2 hb⟩, hc.kept g⟩, g⟩
theorem next_fin {w : World} {B : Nat} {a : Option Addr} {len cap p : Nat} {s s' x : Int} (q q' : Nat) (hb : w.heap[B]? = some (.cells #[.slice a len cap, .int .i64 p, .int .i64 s] 58 (0, 0))) (hc : Code8 w B a len) (hp : p + 1 ≤ len) (hx : x = ((p + 1 : Nat) : Int)) (s0 : 0 ≤ s') (s1 : s' < 2147483647) :
    Src ((((w.setCell ⟨B, 2, none⟩ (.int .i64 s')).drewN q).setCell ⟨B, 1, none⟩ (.int .i64 x)).drewN q') B a len cap ∧ w.grownBy ((((w.setCell ⟨B, 2, none⟩ (.int .i64 s')).drewN q).setCell ⟨B, 1, none⟩ (.int .i64 x)).drewN q') (some B) := by
  have g : w.grownBy ((((w.setCell ⟨B, 2, none⟩ (.int .i64 s')).drewN q).setCell ⟨B, 1, none⟩ (.int .i64 x)).drewN q') (some B) :=
    grown_trans (grown_trans (grown_trans (grown_set _ _ _ _) (grown_drewN _ _ _)) (grown_set _ _ _ _)) (grown_drewN _ _ _)
  subst hx
  exact ⟨⟨⟨p + 1, s', hp, s0, s1, set1 (show ((w.setCell ⟨B, 2, none⟩ (.int .i64 s')).drewN q).heap[B]? = _ from set2 hb)⟩, hc.kept g⟩, g⟩
theorem s_Next (B : Nat) (a : Option Addr) (len cap : Nat) (n : Int) (w : World) (hs : Src w B a len cap) (hn : -9223372036854775808 ≤ n) (hn2 : n ≤ 9223372036854775807) :
    Calls Try.prog 20 #[.pointer (some ⟨B, 0, none⟩), .int .i64 n] w (Nexted w B a len cap n) := by
  have HS := Lib.hid hs
  obtain ⟨⟨p, s, p1, s0, s1, hb⟩, hcode⟩ := hs
  have HB := Lib.hid hb
  have HC := Lib.hid hcode
  have hl := hcode.1
  clear hcode
  have c0 : w.cell? ⟨B, 0, none⟩ = some (.slice a len cap) := by simp [World.cell?, hb]
  have c1 : w.cell? ⟨B, 1, none⟩ = some (.int .i64 p) := by simp [World.cell?, hb]
  have c2 : w.cell? ⟨B, 2, none⟩ = some (.int .i64 s) := by simp [World.cell?, hb]
  have f1 : w.frozen? ⟨B, 1, none⟩ = false := by simp [World.frozen?, hb]
  have f2 : w.frozen? ⟨B, 2, none⟩ = false := by simp [World.frozen?, hb]
  clear hb
  by_cases h1 : n ≤ 1
  · go_enter Try.func20, Try.ntmps20
    go_wp2
    go_ret
    exact ⟨0, rfl, by omega, fun h => by omega, fun _ => rfl, HS.out, ⟨rfl, rfl, rfl, Nat.le_refl _, fun _ _ _ => rfl⟩⟩
  · have hm : 0 ≤ (s * 48271 + 29) % 2147483647 / 31 := by omega
    have mod_bd : ∀ x : Int, 0 ≤ x → 0 ≤ x % n ∧ x % n < n := fun x hx => ⟨Int.emod_nonneg _ (by omega), Int.emod_lt_of_pos _ (by omega)⟩
    have MB := Lib.hid mod_bd
    clear mod_bd
    by_cases h2 : p < len
    · obtain ⟨b, off, x, rfl, hne, hx, x0, x1⟩ := HC.out.2 p h2
      by_cases h3 : n ≤ 256
      · have d3 : decide (n ≤ 256) = true := by simpa using h3
        by_cases h4 : (p + 1) % 2 = 0
        · have d4 : (((p : Int) + 1) % 2 == 0) = true := by simp; omega
          go_enter Try.func20, Try.ntmps20
          go_wp2
          go_quiet (fail)
          go_wp2
          go_quiet (fail)
          go_wp2
          go_quiet (fail)
          go_wp2
          go_ret
          obtain ⟨r0, r1⟩ := MB.out x x0
          obtain ⟨f1, f2⟩ := next_fin _ _ HB.out HC.out (show p + 1 ≤ len by omega) (show (p : Int) + 1 = _ by omega) (show 0 ≤ (s * 48271 + 29) % 2147483647 by omega) (by omega)
          exact ⟨_, rfl, r0, fun _ => r1, fun h => by omega, f1, f2⟩
        · have d4 : (((p : Int) + 1) % 2 == 0) = false := by simp; omega
          have hm2 : 0 ≤ (s * 48271 + 29) % 2147483647 / 31 + x := by omega
          go_enter Try.func20, Try.ntmps20
          go_wp2
          go_quiet (fail)
          go_wp2
          go_quiet (fail)
          go_wp2
          go_ret
          obtain ⟨r0, r1⟩ := MB.out _ hm2
          obtain ⟨f1, f2⟩ := next_fin _ 0 HB.out HC.out (show p + 1 ≤ len by omega) (show (p : Int) + 1 = _ by omega) (show 0 ≤ (s * 48271 + 29) % 2147483647 by omega) (by omega)
          exact ⟨_, rfl, r0, fun _ => r1, fun h => by omega, f1, f2⟩
      · have d3 : decide (n ≤ 256) = false := by simpa using h3
        have hm2 : 0 ≤ (s * 48271 + 29) % 2147483647 / 31 + x := by omega
        go_enter Try.func20, Try.ntmps20
        go_wp2
        go_quiet (fail)
        go_wp2
        go_quiet (fail)
        go_wp2
        go_ret
        obtain ⟨r0, r1⟩ := MB.out _ hm2
        obtain ⟨f1, f2⟩ := next_fin _ 0 HB.out HC.out (show p + 1 ≤ len by omega) (show (p : Int) + 1 = _ by omega) (show 0 ≤ (s * 48271 + 29) % 2147483647 by omega) (by omega)
        exact ⟨_, rfl, r0, fun _ => r1, fun h => by omega, f1, f2⟩
    · go_enter Try.func20, Try.ntmps20
      go_wp2
      go_quiet (fail)
      go_wp2
      go_ret
      obtain ⟨r0, r1⟩ := MB.out _ hm
      obtain ⟨f1, f2⟩ := next_fin0 _ HB.out HC.out p1 (show 0 ≤ (s * 48271 + 29) % 2147483647 by omega) (by omega)
      exact ⟨_, rfl, r0, fun _ => r1, fun h => by omega, f1, f2⟩
end Go.Proofs.Ytpeebgkgccacbaa
