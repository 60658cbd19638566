/- The parser's steps, of the program. -/
import Derived.Test.YtggnhdeldmkdmaaGreatDoorPsP
import Derived.Test.YtggnhdeldmkdmaaGreatDoorPsH
import Derived.Test.YtggnhdeldmkdmaaGreatDoorTkB
import Derived.Laws.EntriesVeiled
import Derived.WalkLawsBesides
namespace Go.Proofs.YtggnhdeldmkdmaaGreatDoor
open Go.RowKit Go.Shelf
set_option maxHeartbeats 4000000
set_option maxRecDepth 100000
set_option linter.unusedVariables false
set_option linter.unusedSimpArgs false
/-- the panic of a wrong token -/
def Bad : Ending := .panicked [{ v := .iface 3 (.int .i64 6), recovered := false }]
/-- 'the parser in block g has the tokens with the texts T before it' -/
def PSt (w : World) (g : Nat) (T : TT) : Prop :=
  ∃ a n cap L, w.cell? ⟨g, 0, none⟩ = some (.slice a n cap) ∧ w.frozen? ⟨g, 0, none⟩ = false ∧ n ≤ cap ∧ Tks w a n L ∧ (∀ x, a = some x → x.block < g) ∧ L.map (·.2) = T ∧ ∀ x ∈ T, kdB x ≠ 0
theorem PSt.valid {w : World} {g : Nat} {T : TT} (h : PSt w g T) : ∀ x ∈ T, kdB x ≠ 0 := by
  obtain ⟨_, _, _, _, _, _, _, _, _, _, h⟩ := h; exact h
theorem PSt.lt {w : World} {g : Nat} {T : TT} (h : PSt w g T) : g < w.heap.size := by
  obtain ⟨_, _, _, _, h, _⟩ := h; exact cell_lt h
theorem PSt.later {w w' : World} {g : Nat} {T : TT} (h : PSt w g T) (k : Later w w') : PSt w' g T := by
  have hg := h.lt
  obtain ⟨a, n, cap, L, h1, h2, h3, h4, h5, h6, h7⟩ := h
  exact ⟨a, n, cap, L, by rw [k.cell (p := ⟨g, 0, none⟩) hg]; exact h1, by rw [Below.frozen (p := ⟨g, 0, none⟩) k hg]; exact h2, h3, h4.later k, h5, h6, h7⟩
theorem PSt.grown {w w' : World} {g : Nat} {T : TT} {r : Option Nat} (h : PSt w g T) (hg : w.grownBy w' r) (hr : ∀ k, r = some k → g < k) : PSt w' g T := by
  have hgl := h.lt
  obtain ⟨a, n, cap, L, h1, h2, h3, h4, h5, h6, h7⟩ := h
  have hne : some g ≠ r := fun e => Nat.lt_irrefl _ (hr g e.symm)
  refine ⟨a, n, cap, L, hg.cell h1 hne, ?_, h3, h4.kept hg (fun x e e2 => by have := hr _ e2; have := h5 x e; omega), h5, h6, h7⟩
  rw [World.frozen?_of_block (hg.block g hgl hne)]; exact h2
theorem grP_refl (w : World) (r : Option Nat) : w.grownBy w r := ⟨rfl, rfl, rfl, Nat.le_refl _, fun _ _ _ => rfl⟩
theorem grP_set {a b : World} {g j : Nat} (h : a.grownBy b (some g)) (u : Value) : a.grownBy (b.setCell ⟨g, j, none⟩ u) (some g) :=
  ⟨h.os, h.tape, h.output, by rw [World.size_setCell]; exact h.size, fun i hi hr => (Below.heap_setCell b ⟨g, j, none⟩ u i (fun e => hr (by first | rw [e] | simp [e]))).trans (h.block i hi hr)⟩
theorem grP_later {a b c : World} {r : Option Nat} (h : a.grownBy b r) (k : Later b c) : a.grownBy c r :=
  ⟨k.os.trans h.os, k.tape.trans h.tape, k.output.trans h.output, Nat.le_trans h.size k.size, fun i hi hr => (k.block i (Nat.lt_of_lt_of_le hi h.size)).trans (h.block i hi hr)⟩
theorem grP_own {a b c : World} {g : Nat} {r : Option Nat} (h : a.grownBy b (some g)) (k : b.grownBy c r) (hr : ∀ q, r = some q → a.heap.size ≤ q) : a.grownBy c (some g) :=
  ⟨k.os.trans h.os, k.tape.trans h.tape, k.output.trans h.output, Nat.le_trans h.size k.size, fun i hi hn => (k.block i (Nat.lt_of_lt_of_le hi h.size) (fun e => by have := hr i e.symm; omega)).trans (h.block i hi hn)⟩
theorem grP_trans {a b c : World} {r : Option Nat} (h : a.grownBy b r) (k : b.grownBy c r) : a.grownBy c r :=
  ⟨k.os.trans h.os, k.tape.trans h.tape, k.output.trans h.output, Nat.le_trans h.size k.size, fun i hi hn => (k.block i (Nat.lt_of_lt_of_le hi h.size) hn).trans (h.block i hi hn)⟩
/-- the rest of a list of tokens -/
theorem Tks.tl {w : World} {b off : Nat} {n : Nat} {x : Tkn} {L : List Tkn} (h : Tks w (some ⟨b, off, none⟩) n (x :: L)) : Tks w (some ⟨b, off + 2, none⟩) (n - 1) L := by
  obtain ⟨h1, h2, h3, h4⟩ := h
  simp only [List.length_cons] at h1
  refine ⟨by omega, by omega, fun j hj => ?_, fun y hy => h4 y (by simp [hy])⟩
  obtain ⟨b', off', e, hc, hd⟩ := h3 (j + 1) (by omega)
  cases e
  refine ⟨b, off + 2, rfl, ?_, ?_⟩
  · rw [show off + 2 + j * 2 = off + (j + 1) * 2 by omega]; exact hc
  · rw [show off + 2 + j * 2 + 1 = off + (j + 1) * 2 + 1 by omega]; exact hd
theorem tks_nil (w : World) (a : Option Addr) : Tks w a 0 [] := ⟨rfl, by omega, fun j hj => by omega, fun x hx => by simp at hx⟩
theorem Tks.set {w : World} {a : Option Addr} {n g j : Nat} {L : List Tkn} (h : Tks w a n L) (ha : ∀ x, a = some x → x.block ≠ g) (u : Value) : Tks (w.setCell ⟨g, j, none⟩ u) a n L := by
  obtain ⟨h1, h2, h3, h4⟩ := h
  refine ⟨h1, h2, fun j hj => ?_, h4⟩
  obtain ⟨b, off, rfl, hc, hd⟩ := h3 j hj
  have hn : b ≠ g := ha _ rfl
  exact ⟨b, off, rfl, by rw [World.cell?_setCell_far _ _ _ _ hn.symm]; exact hc, by rw [World.cell?_setCell_far _ _ _ _ hn.symm]; exact hd⟩
/-- what is there when a token is there -/
theorem PSt.cons {w : World} {g : Nat} {x : List UInt8} {r : TT} (h : PSt w g (x :: r)) : ∃ b off n cap, w.cell? ⟨g, 0, none⟩ = some (.slice (some ⟨b, off, none⟩) (n + 1) (cap + 1)) ∧ w.frozen? ⟨g, 0, none⟩ = false ∧ n ≤ cap ∧ n ≤ 9223372036854775806 ∧ b ≠ g ∧ w.cell? ⟨b, off + 1, none⟩ = some (.string (tx x)) ∧ b < w.heap.size ∧ x.length ≤ 12 ∧ kdB x ≠ 0 ∧
    ∀ off', (off' = off + 2 ∨ n = 0) → PSt (w.setCell ⟨g, 0, none⟩ (.slice (some ⟨b, off', none⟩) n cap)) g r := by
  obtain ⟨a, n, cap, L, h1, h2, h3, h4, h5, h6, h7⟩ := h
  match L, h6 with
  | t :: L, h6 =>
    simp only [List.map_cons, List.cons.injEq] at h6
    obtain ⟨rfl, rfl⟩ := h6
    have hn := h4.1
    simp only [List.length_cons] at hn
    obtain ⟨b, off, rfl, hc, hd⟩ := h4.2.2.1 0 (by omega)
    have hd : w.cell? ⟨b, off + 1, none⟩ = some (.string (tx t.2)) := by have := hd; simpa [tsx] using this
    have hbl : b < g := h5 _ rfl
    have hb : b ≠ g := Nat.ne_of_lt hbl
    have hk := h7 t.2 (by simp)
    have hm := h4.2.1
    subst hn
    refine ⟨b, off, L.length, cap - 1, by rw [h1]; congr 2; omega, h2, by omega, by omega, hb, hd, cell_lt hd, (kd_len hk).2, hk, fun off' ho => ?_⟩
    refine ⟨some ⟨b, off', none⟩, L.length, cap - 1, L, World.cell?_setCell_same _ _ _ (by first | exact h1 | (rw [h1]; rfl)), by rw [World.frozen?_setCell]; exact h2, by omega, ?_, fun x e => by cases e; exact hbl, rfl, fun y hy => h7 y (by simp [hy])⟩
    refine Tks.set ?_ (fun x e => by cases e; exact hb) _
    have ht := h4.tl
    rcases ho with rfl | h0
    · simpa using ht
    · have : L = [] := List.length_eq_zero_iff.1 h0
      subst this
      exact tks_nil _ _
theorem PSt.nil {w : World} {g : Nat} (h : PSt w g []) : ∃ a cap, w.cell? ⟨g, 0, none⟩ = some (.slice a 0 cap) := by
  obtain ⟨a, n, cap, L, h1, h2, h3, h4, h5, h6, h7⟩ := h
  have : L = [] := by simpa using h6
  subst this
  have := h4.1
  simp at this
  subst this
  exact ⟨a, cap, h1⟩
theorem i_take_nil (g : Nat) (w : World) (h : PSt w g []) : Calls Tryz.prog 133 #[.pointer (some ⟨g, 0, none⟩)] w fun e w' => e = Bad ∧ w = w' := by
  obtain ⟨a, cap, h1⟩ := h.nil
  clear h
  go_enter Tryz.func133, Tryz.ntmps133
  go_wp2_with fail
  all_goals exact ⟨rfl, rfl, rfl⟩
theorem i_take_cons (g : Nat) (x : List UInt8) (r : TT) (w : World) (h : PSt w g (x :: r)) : Calls Tryz.prog 133 #[.pointer (some ⟨g, 0, none⟩)] w fun e w' => e = .returned (.string (tx x)) ∧ PSt w' g r ∧ w.grownBy w' (some g) := by
  obtain ⟨b, off, n, cap, h1, h2, h3, h4, h5, h6, h7, h8, h9, h10⟩ := h.cons
  have HP := Lib.hid h10
  have hgl := h.lt
  obtain ⟨s, hs⟩ : ∃ s, s = tx x := ⟨_, rfl⟩
  rw [← hs] at h6 ⊢
  clear h h10 hs h8 h9
  have hgb : ¬ g = b := fun e => h5 e.symm
  by_cases hc : cap = 0
  · subst hc
    obtain rfl : n = 0 := by omega
    go_enter Tryz.func133, Tryz.ntmps133
    go_wp2_with fail
    go_ret
    exact ⟨rfl, HP.out _ (by simp), grP_set (grP_refl _ _) _⟩
  · have hc2 : 0 < cap := by omega
    go_enter Tryz.func133, Tryz.ntmps133
    go_wp2_with fail
    go_ret
    exact ⟨rfl, HP.out _ (.inl rfl), grP_set (grP_refl _ _) _⟩
theorem eq_tx (x s : List UInt8) : ((tx x).toList == (tx s).toList) = decide (x = s) := by
  rw [Lib.toList_data, Lib.toList_data]
  show (x == s) = _
  by_cases h : x = s <;> simp [h]
theorem tx_data (x : List UInt8) : (tx x).data.toList = x := rfl
theorem i_skip_yes (g : Nat) (x : List UInt8) (r : TT) (w : World) (h : PSt w g (x :: r)) : Calls Tryz.prog 100 #[.pointer (some ⟨g, 0, none⟩), .string (tx x)] w fun e w' => e = .returned (.bool true) ∧ PSt w' g r ∧ w.grownBy w' (some g) := by
  obtain ⟨b, off, n, cap, h1, h2, h3, h4, h5, h6, h7, h8, h9, h10⟩ := h.cons
  have HP := Lib.hid h10
  have hgl := h.lt
  obtain ⟨s, hs⟩ : ∃ s, s = tx x := ⟨_, rfl⟩
  rw [← hs] at h6 ⊢
  have e1 : (s.toList == s.toList) = true := by simp
  have e2 : (s.toList != s.toList) = false := by simp
  clear h h10 hs h8 h9
  have hgb : ¬ g = b := fun e => h5 e.symm
  by_cases hc : cap = 0
  · subst hc
    obtain rfl : n = 0 := by omega
    go_enter Tryz.func100, Tryz.ntmps100
    go_wp2_with fail
    go_ret
    exact ⟨rfl, HP.out _ (by simp), grP_set (grP_refl _ _) _⟩
  · have hc2 : 0 < cap := by omega
    go_enter Tryz.func100, Tryz.ntmps100
    go_wp2_with fail
    go_ret
    exact ⟨rfl, HP.out _ (by simp), grP_set (grP_refl _ _) _⟩
theorem i_skip_no (g : Nat) (s : List UInt8) (T : TT) (w : World) (h : PSt w g T) (hs : T.headD [] ≠ s) (hs0 : s ≠ []) : Calls Tryz.prog 100 #[.pointer (some ⟨g, 0, none⟩), .string (tx s)] w fun e w' => e = .returned (.bool false) ∧ w = w' := by
  cases T with
  | nil =>
    obtain ⟨a, cap, h1⟩ := h.nil
    clear h
    obtain ⟨y, hy⟩ : ∃ y, y = tx s := ⟨_, rfl⟩
    rw [← hy]
    clear hs hy
    go_enter Tryz.func100, Tryz.ntmps100
    go_wp2_with fail
    all_goals
      go_ret
      exact ⟨rfl, rfl⟩
  | cons x r =>
    obtain ⟨b, off, n, cap, h1, h2, h3, h4, h5, h6, h7, h8, h9, h10⟩ := h.cons
    have hne : x ≠ s := by simpa using hs
    have e1 := eq_tx x s
    rw [decide_eq_false hne] at e1
    obtain ⟨y, hy⟩ : ∃ y, y = tx s := ⟨_, rfl⟩
    obtain ⟨z, hz⟩ : ∃ y, y = tx x := ⟨_, rfl⟩
    rw [← hz] at h6 e1
    rw [← hy] at e1 ⊢
    have e2 : (z.toList != y.toList) = true := by simp only [bne, e1]; rfl
    clear h h10 hs hy hz h8 h9 hne
    have hgb : ¬ g = b := fun e => h5 e.symm
    go_enter Tryz.func100, Tryz.ntmps100
    go_wp2_with fail
    all_goals
      go_ret
      exact ⟨rfl, rfl⟩
theorem i_need_yes (g : Nat) (x : List UInt8) (r : TT) (w : World) (h : PSt w g (x :: r)) : Calls Tryz.prog 97 #[.pointer (some ⟨g, 0, none⟩), .string (tx x)] w fun e w' => e = .returned (.tuple #[]) ∧ PSt w' g r ∧ w.grownBy w' (some g) := by
  have IT := Lib.hid (i_take_cons g x r w h)
  obtain ⟨s, hs⟩ : ∃ s, s = tx x := ⟨_, rfl⟩
  rw [← hs] at IT ⊢
  have e1 : (s.toList == s.toList) = true := by simp
  have e2 : (s.toList != s.toList) = false := by simp
  clear h hs
  go_enter Tryz.func97, Tryz.ntmps97
  go_wp2_with fail
  refine IT.out.mono ?_
  rintro e w1 ⟨rfl, hp, hg⟩
  have HP := Lib.hid hp; have HG := Lib.hid hg
  clear hp hg
  go_wp2_with fail
  first
  | go_end0
  | skip
  exact ⟨rfl, HP.out, HG.out⟩
theorem i_need_no (g : Nat) (s : List UInt8) (T : TT) (w : World) (h : PSt w g T) (hs : nd s T = .bad) : Calls Tryz.prog 97 #[.pointer (some ⟨g, 0, none⟩), .string (tx s)] w fun e w' => e = Bad ∧ w.grownBy w' (some g) := by
  cases T with
  | nil =>
    have IT := Lib.hid (i_take_nil g w h)
    obtain ⟨y, hy⟩ : ∃ y, y = tx s := ⟨_, rfl⟩
    rw [← hy]
    clear h hy
    go_enter Tryz.func97, Tryz.ntmps97
    go_wp2_with fail
    refine IT.out.mono ?_
    rintro e w1 ⟨rfl, rfl⟩
    unfold Bad
    go_wp2_with fail
    all_goals exact ⟨rfl, rfl, grP_refl _ _⟩
  | cons x r =>
    have IT := Lib.hid (i_take_cons g x r w h)
    have hne : x ≠ s := by
      intro e
      unfold nd at hs
      simp [e] at hs
    have e1 := eq_tx x s
    rw [decide_eq_false hne] at e1
    obtain ⟨y, hy⟩ : ∃ y, y = tx s := ⟨_, rfl⟩
    obtain ⟨z, hz⟩ : ∃ y, y = tx x := ⟨_, rfl⟩
    rw [← hz] at IT e1
    rw [← hy] at e1 ⊢
    have e2 : (z.toList != y.toList) = true := by simp only [bne, e1]; rfl
    clear h hs hy hz hne
    go_enter Tryz.func97, Tryz.ntmps97
    go_wp2_with fail
    refine IT.out.mono ?_
    rintro e w1 ⟨rfl, hp, hg⟩
    have HG := Lib.hid hg
    clear hp hg
    go_wp2_with fail
    all_goals exact ⟨rfl, rfl, HG.out⟩
theorem i_asName_yes (x : List UInt8) (w : World) (hx : x.length ≤ 1048576) (h : nmB x = true) : Calls Tryz.prog 134 #[.string (tx x)] w fun e w' => e = .returned (.string (tx x)) ∧ Later w w' := by
  have IN : Hid (∀ W, Calls Tryz.prog 56 #[.string (tx x)] W fun e w' => e = .returned (.bool true) ∧ Later W w') := Lib.hid (fun W => by have := i_isName (tx x) W hx; rwa [tx_data, h] at this)
  obtain ⟨s, hs⟩ : ∃ s, s = tx x := ⟨_, rfl⟩
  rw [← hs] at IN ⊢
  clear hs
  go_enter Tryz.func134, Tryz.ntmps134
  go_wp2_with (go_at_call 56; refine (IN.out _).mono ?_; rintro e w1 ⟨rfl, hb⟩; have H1 := Lib.hid hb; clear hb)
  go_ret
  exact ⟨rfl, (by repeat (first | (with_reducible exact Later.refl _) | (with_reducible exact Hid.out (by assumption)) | (with_reducible refine Later.alloc ?_ _) | (with_reducible refine Later.setCell ?_ (by simp; omega) _) | (with_reducible refine Later.setCell ?_ (by simp) _) | (with_reducible refine Later.drewN ?_ _) | (with_reducible refine Later.drew ?_) | (with_reducible refine Later.trans ?_ (Hid.out (by assumption)))))⟩
theorem i_asName_no (x : List UInt8) (w : World) (hx : x.length ≤ 1048576) (h : nmB x = false) : Calls Tryz.prog 134 #[.string (tx x)] w fun e w' => e = Bad ∧ Later w w' := by
  have IN : Hid (∀ W, Calls Tryz.prog 56 #[.string (tx x)] W fun e w' => e = .returned (.bool false) ∧ Later W w') := Lib.hid (fun W => by have := i_isName (tx x) W hx; rwa [tx_data, h] at this)
  obtain ⟨s, hs⟩ : ∃ s, s = tx x := ⟨_, rfl⟩
  rw [← hs] at IN ⊢
  clear hs
  go_enter Tryz.func134, Tryz.ntmps134
  go_wp2_with (go_at_call 56; refine (IN.out _).mono ?_; rintro e w1 ⟨rfl, hb⟩; have H1 := Lib.hid hb; clear hb)
  all_goals exact ⟨rfl, rfl, (by repeat (first | (with_reducible exact Later.refl _) | (with_reducible exact Hid.out (by assumption)) | (with_reducible refine Later.alloc ?_ _) | (with_reducible refine Later.setCell ?_ (by simp; omega) _) | (with_reducible refine Later.setCell ?_ (by simp) _) | (with_reducible refine Later.drewN ?_ _) | (with_reducible refine Later.drew ?_) | (with_reducible refine Later.trans ?_ (Hid.out (by assumption)))))⟩
end Go.Proofs.YtggnhdeldmkdmaaGreatDoor
