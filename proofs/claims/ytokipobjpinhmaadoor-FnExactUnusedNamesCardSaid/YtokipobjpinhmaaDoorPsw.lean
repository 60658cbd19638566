/- The laws' helpers on programs that came in: sizes. -/
import Derived.Test.YtokipobjpinhmaaDoorPsU
import Derived.Test.YtokipobjpinhmaaDoorPsq
namespace Go.Proofs.YtokipobjpinhmaaDoor
open Go.RowKit Go.Shelf
set_option maxHeartbeats 8000000
set_option maxRecDepth 100000
set_option linter.unusedVariables false
set_option linter.unusedSimpArgs false
/-- what szStringS tells: -1, or all texts are short -/
def SzS (n : Nat) (W : List (List UInt8)) (e : Ending) : Prop := e = .returned (.int .i64 (-1)) ∨ (∃ r : Nat, e = .returned (.int .i64 r) ∧ r ≤ 1048576 ∧ n ≤ 1048576 ∧ ∀ j, j < n → (wx W j).length ≤ 1048576)
theorem l_szStringS (a : Option Addr) (n cap : Nat) (W : List (List UInt8)) (f : Nat) (w : World) (hf : f ≤ 1048576) (hs : Sto w a n W) :
    Calls Tryd.prog 61 #[.slice a n cap, .int .i64 f] w fun e w' => SzS n W e ∧ Later w w' := by
  have HS := Lib.hid hs
  have hn := hs.2.1
  clear hs
  by_cases h : n ≤ f
  · have e1 : IntKind.i64.wrap ((f : Int) - (n : Int)) = ((f - n : Nat) : Int) := by rw [show (f : Int) - (n : Int) = ((f - n : Nat) : Int) by omega]; exact IntWalk.i64_in _ (by omega)
    obtain ⟨l0, hl0⟩ : ∃ r, r = f - n := ⟨_, rfl⟩
    rw [← hl0] at e1
    have hl1 : l0 ≤ 1048576 := by omega
    clear hl0
    go_enter Tryd.func61, Tryd.ntmps61
    go_wp2_with fail
    go_loopw [1, 5] (fun m i wr => ∃ k l : Nat, i = .int .i64 k ∧ k ≤ n ∧ m = .int .i64 l ∧ l ≤ 1048576 ∧ Later w wr ∧ Hid (∀ j, j < k → (wx W j).length ≤ 1048576)) (fun _ i _ => n - (intOf i).toNat)
    case atStart => exact ⟨0, l0, rfl, by omega, rfl, hl1, Later.refl _, Lib.hid (by intro j h; omega)⟩
    case round =>
      obtain ⟨k, l, rfl, hk, rfl, hl, hb, HI⟩ := hrel
      have B3 := Lib.hid hb
      by_cases hlt : k < n
      · obtain ⟨b, off, rfl, hc⟩ := (HS.out.later hb).at k hlt
        have hml := HS.out.len k hlt
        unfold maxLen at hml
        have hsz : (tx (wx W k)).size = (wx W k).length := rfl
        have HLE := Lib.hid (show ∀ q, q = (wx W k).length → q = (wx W k).length from fun _ h => h)
        obtain ⟨q, hq⟩ : ∃ q, q = (wx W k).length := ⟨_, rfl⟩
        have HQ := Lib.hid hq
        rw [← hq] at hml hsz
        obtain ⟨y, hy⟩ : ∃ y, y = tx (wx W k) := ⟨_, rfl⟩
        rw [← hy] at hc hsz
        clear hy hb hq HLE
        by_cases hle : q ≤ l
        · have e2 : IntKind.i64.wrap ((l : Int) - (y.size : Int)) = ((l - q : Nat) : Int) := by rw [hsz, show (l : Int) - (q : Int) = ((l - q : Nat) : Int) by omega]; exact IntWalk.i64_in _ (by omega)
          obtain ⟨r, hr⟩ : ∃ r, r = l - q := ⟨_, rfl⟩
          rw [← hr] at e2
          have hr2 : r ≤ 1048576 := by omega
          have HQ2 : Hid ((wx W k).length ≤ 1048576) := Lib.hid (by rw [← HQ.out]; omega)
          clear hml hle hr hsz
          go_wp2_with fail
          go_roundw
          case rel => exact ⟨k + 1, r, by go_num, by omega, rfl, hr2, B3.out, Lib.hid (by
            intro j hj
            rcases Nat.lt_or_ge j k with h1 | h1
            · exact HI.out j h1
            · obtain rfl : j = k := by omega
              exact HQ2.out)⟩
          case measure => simp [intOf]; omega
        · have e2 : IntKind.i64.wrap ((l : Int) - (y.size : Int)) = -((q - l : Nat) : Int) := by rw [hsz, show (l : Int) - (q : Int) = -((q - l : Nat) : Int) by omega]; exact IntWalk.i64_in _ (by omega)
          obtain ⟨r, hr⟩ : ∃ r, r = q - l := ⟨_, rfl⟩
          rw [← hr] at e2
          have hr3 : decide (-(r : Int) < 0) = true := by simp; omega
          have hr4 : -(r : Int) < 0 := by omega
          clear hml hle hr hsz
          go_wp2_with fail
          go_ret
          exact ⟨.inl rfl, B3.out⟩
      · obtain rfl : k = n := by omega
        clear hb
        go_wp2_with fail
        go_ret
        exact ⟨.inr ⟨l, rfl, hl, Nat.le_trans h hf, HI.out⟩, B3.out⟩
  · have e1 : IntKind.i64.wrap ((f : Int) - (n : Int)) = -((n - f : Nat) : Int) := by rw [show (f : Int) - (n : Int) = -((n - f : Nat) : Int) by omega]; exact IntWalk.i64_in _ (by omega)
    obtain ⟨r, hr⟩ : ∃ r, r = n - f := ⟨_, rfl⟩
    rw [← hr] at e1
    have hr3 : decide (-(r : Int) < 0) = true := by simp; omega
    have hr4 : -(r : Int) < 0 := by omega
    clear hr
    go_enter Tryd.func61, Tryd.ntmps61
    go_wp2_with fail
    go_ret
    exact ⟨.inl rfl, Later.refl _⟩
def SzL (t : List UInt8) (L : List Trm) (e : Ending) : Prop := e = .returned (.int .i64 (-1)) ∨ (∃ r : Nat, e = .returned (.int .i64 r) ∧ r ≤ 1048576 ∧ t.length ≤ 1048576 ∧ L.length ≤ 1048576 ∧ ∀ i, i < L.length → (rsx L i).length ≤ 1048576)
theorem l_szLine (t : List UInt8) (a : Option Addr) (n cap : Nat) (L : List Trm) (f : Nat) (w : World) (hf : f ≤ 1048576) (ht : t.length ≤ maxLen) (hs : Tro w a n L) :
    Calls Tryd.prog 103 #[.agg #[.string (tx t), .slice a n cap], .int .i64 f] w fun e w' => SzL t L e ∧ Later w w' := by
  have HS := Lib.hid hs
  have HLN := Lib.hid hs.1
  clear hs
  have hz : (tx t).size = t.length := rfl
  unfold maxLen at ht
  obtain ⟨q, hq⟩ : ∃ q, q = t.length := ⟨_, rfl⟩
  have HQ := Lib.hid hq
  rw [← hq] at hz ht
  obtain ⟨s, hs⟩ : ∃ s, s = tx t := ⟨_, rfl⟩
  rw [← hs] at hz ⊢
  clear hs hq
  by_cases h : q ≤ f
  · have e1 : IntKind.i64.wrap ((f : Int) - (s.size : Int)) = ((f - q : Nat) : Int) := by rw [hz, show (f : Int) - (q : Int) = ((f - q : Nat) : Int) by omega]; exact IntWalk.i64_in _ (by omega)
    obtain ⟨r, hr⟩ : ∃ r, r = f - q := ⟨_, rfl⟩
    rw [← hr] at e1
    have hr2 : r ≤ 1048576 := by omega
    have HQ2 : Hid (t.length ≤ 1048576) := Lib.hid (by rw [← HQ.out]; omega)
    have SZ := Lib.hid (fun W h => l_szTermS a n cap L r W hr2 h)
    clear hr hz
    go_enter Tryd.func103, Tryd.ntmps103
    go_wp2_with fail
    refine (SZ.out _ (HS.out.later (by repeat (first | (with_reducible exact Later.refl _) | (with_reducible exact Hid.out (by assumption)) | (with_reducible refine Later.alloc ?_ _) | (with_reducible refine Later.setCell ?_ (by simp; omega) _) | (with_reducible refine Later.setCell ?_ (by simp) _) | (with_reducible refine Later.drewN ?_ _) | (with_reducible refine Later.drew ?_) | (with_reducible refine Later.trans ?_ (Hid.out (by assumption))))))).mono ?_
    rintro e w1 ⟨rfl | ⟨r1, rfl, hr1, hn1, hsh⟩, hb⟩
    · have H1 := Lib.hid hb
      clear hb
      go_wp2_with fail
      go_ret
      exact ⟨.inl rfl, Later.trans (by repeat (first | (with_reducible exact Later.refl _) | (with_reducible exact Hid.out (by assumption)) | (with_reducible refine Later.alloc ?_ _) | (with_reducible refine Later.setCell ?_ (by simp; omega) _) | (with_reducible refine Later.setCell ?_ (by simp) _) | (with_reducible refine Later.drewN ?_ _) | (with_reducible refine Later.drew ?_) | (with_reducible refine Later.trans ?_ (Hid.out (by assumption))))) H1.out⟩
    · have H1 := Lib.hid hb
      have HSH := Lib.hid hsh
      clear hb hsh
      go_wp2_with fail
      go_ret
      exact ⟨.inr ⟨r1, rfl, hr1, HQ2.out, by rw [HLN.out]; exact hn1, by rw [HLN.out]; exact HSH.out⟩, Later.trans (by repeat (first | (with_reducible exact Later.refl _) | (with_reducible exact Hid.out (by assumption)) | (with_reducible refine Later.alloc ?_ _) | (with_reducible refine Later.setCell ?_ (by simp; omega) _) | (with_reducible refine Later.setCell ?_ (by simp) _) | (with_reducible refine Later.drewN ?_ _) | (with_reducible refine Later.drew ?_) | (with_reducible refine Later.trans ?_ (Hid.out (by assumption))))) H1.out⟩
  · have e1 : IntKind.i64.wrap ((f : Int) - (s.size : Int)) = -((q - f : Nat) : Int) := by rw [hz, show (f : Int) - (q : Int) = -((q - f : Nat) : Int) by omega]; exact IntWalk.i64_in _ (by omega)
    obtain ⟨r, hr⟩ : ∃ r, r = q - f := ⟨_, rfl⟩
    rw [← hr] at e1
    have hr3 : decide (-(r : Int) < 0) = true := by simp; omega
    have hr4 : -(r : Int) < 0 := by omega
    clear hr hz
    go_enter Tryd.func103, Tryd.ntmps103
    go_wp2_with fail
    go_ret
    exact ⟨.inl rfl, (by repeat (first | (with_reducible exact Later.refl _) | (with_reducible exact Hid.out (by assumption)) | (with_reducible refine Later.alloc ?_ _) | (with_reducible refine Later.setCell ?_ (by simp; omega) _) | (with_reducible refine Later.setCell ?_ (by simp) _) | (with_reducible refine Later.drewN ?_ _) | (with_reducible refine Later.drew ?_) | (with_reducible refine Later.trans ?_ (Hid.out (by assumption)))))⟩
def SzM (n : Nat) (M : List Lne) (e : Ending) : Prop := e = .returned (.int .i64 (-1)) ∨ (∃ r : Nat, e = .returned (.int .i64 r) ∧ r ≤ 1048576 ∧ n ≤ 1048576 ∧ ∀ j, j < n → LShort M j)
theorem l_szLineS (a : Option Addr) (n cap : Nat) (M : List Lne) (f : Nat) (w : World) (hf : f ≤ 1048576) (hs : Lno w a n M) :
    Calls Tryd.prog 62 #[.slice a n cap, .int .i64 f] w fun e w' => SzM n M e ∧ Later w w' := by
  have HS := Lib.hid hs
  have hn := hs.2.1
  clear hs
  by_cases h : n ≤ f
  · have e1 : IntKind.i64.wrap ((f : Int) - (n : Int)) = ((f - n : Nat) : Int) := by rw [show (f : Int) - (n : Int) = ((f - n : Nat) : Int) by omega]; exact IntWalk.i64_in _ (by omega)
    obtain ⟨l0, hl0⟩ : ∃ r, r = f - n := ⟨_, rfl⟩
    rw [← hl0] at e1
    have hl1 : l0 ≤ 1048576 := by omega
    clear hl0
    go_enter Tryd.func62, Tryd.ntmps62
    go_wp2_with fail
    go_loopw [1, 5] (fun m i wr => ∃ k l : Nat, i = .int .i64 k ∧ k ≤ n ∧ m = .int .i64 l ∧ l ≤ 1048576 ∧ Later w wr ∧ Hid (∀ j, j < k → LShort M j)) (fun _ i _ => n - (intOf i).toNat)
    case atStart => exact ⟨0, l0, rfl, by omega, rfl, hl1, Later.refl _, Lib.hid (by intro j h; omega)⟩
    case round =>
      obtain ⟨k, l, rfl, hk, rfl, hl, hb, HI⟩ := hrel
      have B3 := Lib.hid hb
      by_cases hlt : k < n
      · obtain ⟨b, off, ta, tc, rfl, hc, hd, hT⟩ := (HS.out.later hb).2.2.1 k hlt
        have hml := HS.out.2.2.2 _ (lx_mem M k (by rw [HS.out.1]; exact hlt))
        have SZ := Lib.hid (fun W h => l_szLine (ltx M k) ta (lrx M k).length tc (lrx M k) l W hl hml h)
        have HT := Lib.hid hT
        have HK : Hid (∀ t L, t = ltx M k → L = lrx M k → (t.length ≤ 1048576 ∧ L.length ≤ 1048576 ∧ ∀ i, i < L.length → (rsx L i).length ≤ 1048576) → LShort M k) := Lib.hid (by rintro t L rfl rfl h; exact h)
        have HK := Lib.hid (HK.out _ _ rfl rfl)
        obtain ⟨y, hy⟩ : ∃ y, y = tx (ltx M k) := ⟨_, rfl⟩
        obtain ⟨q, hq⟩ : ∃ q, q = (lrx M k).length := ⟨_, rfl⟩
        rw [← hy] at hc SZ
        rw [← hq] at hd SZ HT
        clear hy hq hb hml hT
        go_wp2_with (go_at_call 103; refine (SZ.out _ (HT.out.later (by repeat (first | (with_reducible exact Later.refl _) | (with_reducible exact Hid.out (by assumption)) | (with_reducible refine Later.alloc ?_ _) | (with_reducible refine Later.setCell ?_ (by simp; omega) _) | (with_reducible refine Later.setCell ?_ (by simp) _) | (with_reducible refine Later.drewN ?_ _) | (with_reducible refine Later.drew ?_) | (with_reducible refine Later.trans ?_ (Hid.out (by assumption))))))).mono ?_)
        rintro e w4 ⟨rfl | ⟨r, rfl, hr, h1, h2, h3⟩, hb⟩
        · have H4 := Lib.hid hb
          clear hb
          go_wp2_with fail
          go_ret
          exact ⟨.inl rfl, Later.trans (by repeat (first | (with_reducible exact Later.refl _) | (with_reducible exact Hid.out (by assumption)) | (with_reducible refine Later.alloc ?_ _) | (with_reducible refine Later.setCell ?_ (by simp; omega) _) | (with_reducible refine Later.setCell ?_ (by simp) _) | (with_reducible refine Later.drewN ?_ _) | (with_reducible refine Later.drew ?_) | (with_reducible refine Later.trans ?_ (Hid.out (by assumption))))) H4.out⟩
        · have H4 := Lib.hid hb
          have HK2 := Lib.hid (HK.out ⟨h1, h2, h3⟩)
          clear hb h1 h2 h3
          go_wp2_with fail
          go_roundw
          case rel => exact ⟨k + 1, r, by go_num, by omega, rfl, hr, Later.trans (by repeat (first | (with_reducible exact Later.refl _) | (with_reducible exact Hid.out (by assumption)) | (with_reducible refine Later.alloc ?_ _) | (with_reducible refine Later.setCell ?_ (by simp; omega) _) | (with_reducible refine Later.setCell ?_ (by simp) _) | (with_reducible refine Later.drewN ?_ _) | (with_reducible refine Later.drew ?_) | (with_reducible refine Later.trans ?_ (Hid.out (by assumption))))) H4.out, Lib.hid (by
            intro j hj
            rcases Nat.lt_or_ge j k with h1 | h1
            · exact HI.out j h1
            · obtain rfl : j = k := by omega
              exact HK2.out)⟩
          case measure => simp [intOf]; omega
      · obtain rfl : k = n := by omega
        clear hb
        go_wp2_with fail
        go_ret
        exact ⟨.inr ⟨l, rfl, hl, Nat.le_trans h hf, HI.out⟩, B3.out⟩
  · have e1 : IntKind.i64.wrap ((f : Int) - (n : Int)) = -((n - f : Nat) : Int) := by rw [show (f : Int) - (n : Int) = -((n - f : Nat) : Int) by omega]; exact IntWalk.i64_in _ (by omega)
    obtain ⟨r, hr⟩ : ∃ r, r = n - f := ⟨_, rfl⟩
    rw [← hr] at e1
    have hr3 : decide (-(r : Int) < 0) = true := by simp; omega
    have hr4 : -(r : Int) < 0 := by omega
    clear hr
    go_enter Tryd.func62, Tryd.ntmps62
    go_wp2_with fail
    go_ret
    exact ⟨.inl rfl, Later.refl _⟩
end Go.Proofs.YtokipobjpinhmaaDoor
