/- The parser's steps, of the model. -/
import Derived.Test.YtggnhdeldmkdmaaGreatDoorPpU
import Derived.Test.YtggnhdeldmkdmaaGreatDoorTkR
import Derived.Test.YtggnhdeldmkdmaaGreatDoorPsT
namespace Go.Proofs.YtggnhdeldmkdmaaGreatDoor
open Go.RowKit Go.Shelf
set_option maxHeartbeats 4000000
set_option maxRecDepth 100000
set_option linter.unusedVariables false
set_option linter.unusedSimpArgs false
variable {N : Nat}
/-- 'the model's parser in block g has the tokens with the texts T before it; b: one was wrong' -/
def SSt (N : Nat) (w : World) (g : Nat) (T : TT) (b : Bool) : Prop :=
  ∃ a n cap L k, w.cell? ⟨g, 0, none⟩ = some (.slice a n cap) ∧ w.cell? ⟨g, 1, none⟩ = some (.int .i64 (k : Nat)) ∧ w.cell? ⟨g, 2, none⟩ = some (.bool b) ∧ w.frozen? ⟨g, 1, none⟩ = false ∧ w.frozen? ⟨g, 2, none⟩ = false ∧ Tks w a n L ∧ k ≤ n ∧ (n = N ∧ n ≤ 100000) ∧ (∀ x, a = some x → x.block < g) ∧ (L.drop k).map (·.2) = T ∧ ∀ x ∈ T, kdB x ≠ 0
theorem SSt.valid {w : World} {g : Nat} {T : TT} {b : Bool} (h : SSt N w g T b) : ∀ x ∈ T, kdB x ≠ 0 := by
  obtain ⟨_, _, _, _, _, _, _, _, _, _, _, _, _, _, _, h⟩ := h; exact h
theorem SSt.lt {w : World} {g : Nat} {T : TT} {b : Bool} (h : SSt N w g T b) : g < w.heap.size := by
  obtain ⟨_, _, _, _, _, h, _⟩ := h; exact cell_lt h
theorem SSt.len {w : World} {g : Nat} {T : TT} {b : Bool} (h : SSt N w g T b) : T.length ≤ 100000 := by
  obtain ⟨a, n, cap, L, k, _, _, _, _, _, h1, h2, h3, _, h4, _⟩ := h
  rw [← h4, List.length_map, List.length_drop, h1.1]; omega
theorem SSt.later {w w' : World} {g : Nat} {T : TT} {b : Bool} (h : SSt N w g T b) (k : Later w w') : SSt N w' g T b := by
  have hg := h.lt
  obtain ⟨a, n, cap, L, i, c0, c1, c2, f1, f2, h4, h5, h6, h7, h8, h9⟩ := h
  exact ⟨a, n, cap, L, i, by rw [k.cell (p := ⟨g, 0, none⟩) hg]; exact c0, by rw [k.cell (p := ⟨g, 1, none⟩) hg]; exact c1, by rw [k.cell (p := ⟨g, 2, none⟩) hg]; exact c2, by rw [Below.frozen (p := ⟨g, 1, none⟩) k hg]; exact f1, by rw [Below.frozen (p := ⟨g, 2, none⟩) k hg]; exact f2, h4.later k, h5, h6, h7, h8, h9⟩
theorem SSt.grown {w w' : World} {g : Nat} {T : TT} {b : Bool} {r : Option Nat} (h : SSt N w g T b) (hg : w.grownBy w' r) (hr : ∀ k, r = some k → g < k) : SSt N w' g T b := by
  have hgl := h.lt
  obtain ⟨a, n, cap, L, i, c0, c1, c2, f1, f2, h4, h5, h6, h7, h8, h9⟩ := h
  have hne : some g ≠ r := fun e => Nat.lt_irrefl _ (hr g e.symm)
  refine ⟨a, n, cap, L, i, hg.cell c0 hne, hg.cell c1 hne, hg.cell c2 hne, ?_, ?_, h4.kept hg (fun x e e2 => by have := hr _ e2; have := h7 x e; omega), h5, h6, h7, h8, h9⟩
  · rw [World.frozen?_of_block (hg.block g hgl hne)]; exact f1
  · rw [World.frozen?_of_block (hg.block g hgl hne)]; exact f2
/-- a token was wrong -/
theorem SSt.bad {w : World} {g : Nat} {T : TT} {b : Bool} (h : SSt N w g T b) : SSt N (w.setCell ⟨g, 2, none⟩ (.bool true)) g T true := by
  obtain ⟨a, n, cap, L, i, c0, c1, c2, f1, f2, h4, h5, h6, h7, h8, h9⟩ := h
  exact ⟨a, n, cap, L, i, by rw [World.cell?_setCell_other _ _ _ _ (fun e => by cases e)]; exact c0, by rw [World.cell?_setCell_other _ _ _ _ (fun e => by cases e)]; exact c1, World.cell?_setCell_same _ _ _ c2, by rw [World.frozen?_setCell]; exact f1, by rw [World.frozen?_setCell]; exact f2, h4.set (fun x e => Nat.ne_of_lt (h7 x e)) _, h5, h6, h7, h8, h9⟩
/-- what is there when a token is there -/
theorem SSt.cons {w : World} {g : Nat} {x : List UInt8} {r : TT} {b : Bool} (h : SSt N w g (x :: r) b) : ∃ p off n cap k, w.cell? ⟨g, 0, none⟩ = some (.slice (some ⟨p, off, none⟩) n cap) ∧ w.cell? ⟨g, 1, none⟩ = some (.int .i64 (k : Nat)) ∧ w.cell? ⟨g, 2, none⟩ = some (.bool b) ∧ w.frozen? ⟨g, 1, none⟩ = false ∧ w.frozen? ⟨g, 2, none⟩ = false ∧ k < n ∧ n ≤ 100000 ∧ p < g ∧ w.cell? ⟨p, off + k * 2 + 1, none⟩ = some (.string (tx x)) ∧ p < w.heap.size ∧ SSt N (w.setCell ⟨g, 1, none⟩ (.int .i64 ((k : Int) + 1))) g r b := by
  obtain ⟨a, n, cap, L, k, c0, c1, c2, f1, f2, h4, h5, h6, h7, h8, h9⟩ := h
  have hkl : k < L.length := by
    have := congrArg List.length h8
    simp at this; omega
  have hkn : k < n := by rw [← h4.1]; exact hkl
  obtain ⟨p, off, rfl, d0, d1⟩ := h4.2.2.1 k hkn
  have hd : L.drop k = L[k] :: L.drop (k + 1) := List.drop_eq_getElem_cons hkl
  rw [hd, List.map_cons, List.cons.injEq] at h8
  have ht : tsx L k = x := by
    have := kx_at L k hkl
    rw [← h8.1, this]
  rw [ht] at d1
  refine ⟨p, off, n, cap, k, c0, c1, c2, f1, f2, hkn, h6.2, h7 _ rfl, d1, cell_lt d1, ?_⟩
  exact ⟨_, n, cap, L, k + 1, by rw [World.cell?_setCell_other _ _ _ _ (fun e => by cases e)]; exact c0, by rw [World.cell?_setCell_same _ _ _ c1]; rfl, by rw [World.cell?_setCell_other _ _ _ _ (fun e => by cases e)]; exact c2, by rw [World.frozen?_setCell]; exact f1, by rw [World.frozen?_setCell]; exact f2, h4.set (fun x e => Nat.ne_of_lt (h7 x e)) _, hkn, h6, h7, h8.2, fun y hy => h9 y (by simp [hy])⟩
theorem SSt.nil {w : World} {g : Nat} {b : Bool} (h : SSt N w g [] b) : ∃ a n cap, w.cell? ⟨g, 0, none⟩ = some (.slice a n cap) ∧ w.cell? ⟨g, 1, none⟩ = some (.int .i64 (n : Nat)) ∧ n ≤ 100000 := by
  obtain ⟨a, n, cap, L, k, c0, c1, c2, f1, f2, h4, h5, h6, h7, h8, h9⟩ := h
  have : (L.drop k).length = 0 := by have := congrArg List.length h8; simpa using this
  rw [List.length_drop, h4.1] at this
  obtain rfl : k = n := by omega
  exact ⟨a, k, cap, c0, c1, h6.2⟩
theorem SSt.at_nil {w : World} {g : Nat} {b : Bool} (h : SSt N w g [] b) : w.cell? ⟨g, 1, none⟩ = some (.int .i64 (N : Nat)) := by
  obtain ⟨a, n, cap, L, k, c0, c1, c2, f1, f2, h4, h5, h6, h7, h8, h9⟩ := h
  have : (L.drop k).length = 0 := by have := congrArg List.length h8; simpa using this
  rw [List.length_drop, h4.1] at this
  rw [c1]; congr 3; omega
theorem SSt.at_cons {w : World} {g : Nat} {x : List UInt8} {r : TT} {b : Bool} (h : SSt N w g (x :: r) b) : ∃ k : Nat, w.cell? ⟨g, 1, none⟩ = some (.int .i64 k) ∧ k < N := by
  obtain ⟨a, n, cap, L, k, c0, c1, c2, f1, f2, h4, h5, h6, h7, h8, h9⟩ := h
  have := congrArg List.length h8
  rw [List.length_map, List.length_drop, h4.1] at this
  simp only [List.length_cons] at this
  exact ⟨k, c1, by omega⟩
theorem SSt.flag {w : World} {g : Nat} {T : TT} {b : Bool} (h : SSt N w g T b) : w.cell? ⟨g, 2, none⟩ = some (.bool b) ∧ w.frozen? ⟨g, 2, none⟩ = false := by
  obtain ⟨a, n, cap, L, i, c0, c1, c2, f1, f2, _⟩ := h; exact ⟨c2, f2⟩
theorem s_peek (g : Nat) (T : TT) (b : Bool) (w : World) (h : SSt N w g T b) : Calls Tryz.prog 106 #[.pointer (some ⟨g, 0, none⟩)] w fun e w' => e = .returned (.string (tx (T.headD []))) ∧ Later w w' := by
  cases T with
  | nil =>
    obtain ⟨a, n, cap, c0, c1, hn⟩ := h.nil
    have hgl := h.lt
    clear h
    go_enter Tryz.func106, Tryz.ntmps106
    go_wp2_with fail
    go_region_held3 (fun w' => w'.cell? ⟨g, 0, none⟩ = some (.slice a n cap) ∧ w'.cell? ⟨g, 1, none⟩ = some (.int .i64 (n : Nat))) (exact ⟨c0, c1⟩) (fail)
    all_goals
      go_wp2_with fail
      go_ret
      exact ⟨rfl, (by repeat (first | (with_reducible exact Later.refl _) | (with_reducible exact Hid.out (by assumption)) | (with_reducible refine Later.alloc ?_ _) | (with_reducible refine Later.setCell ?_ (by simp; omega) _) | (with_reducible refine Later.setCell ?_ (by simp) _) | (with_reducible refine Later.drewN ?_ _) | (with_reducible refine Later.drew ?_) | (with_reducible refine Later.trans ?_ (Hid.out (by assumption)))))⟩
  | cons x r =>
    obtain ⟨p, off, n, cap, k, c0, c1, c2, f1, f2, hkn, hn, hpg, d1, hpl, _⟩ := h.cons
    have hgl := h.lt
    simp only [List.headD_cons]
    obtain ⟨s, hs⟩ : ∃ s, s = tx x := ⟨_, rfl⟩
    rw [← hs] at d1 ⊢
    clear h hs
    go_enter Tryz.func106, Tryz.ntmps106
    go_wp2_with fail
    go_region_held3 (fun w' => w'.cell? ⟨g, 0, none⟩ = some (.slice (some ⟨p, off, none⟩) n cap) ∧ w'.cell? ⟨g, 1, none⟩ = some (.int .i64 (k : Nat)) ∧ w'.cell? ⟨p, off + k * 2 + 1, none⟩ = some (.string s)) (exact ⟨c0, c1, d1⟩) (fail)
    all_goals
      go_wp2_with fail
      go_region_held3 (fun w' => w'.cell? ⟨g, 0, none⟩ = some (.slice (some ⟨p, off, none⟩) n cap) ∧ w'.cell? ⟨g, 1, none⟩ = some (.int .i64 (k : Nat)) ∧ w'.cell? ⟨p, off + k * 2 + 1, none⟩ = some (.string s)) (exact ⟨c0, c1, d1⟩) (fail)
      all_goals
        go_wp2_with fail
        go_ret
        exact ⟨rfl, (by repeat (first | (with_reducible exact Later.refl _) | (with_reducible exact Hid.out (by assumption)) | (with_reducible refine Later.alloc ?_ _) | (with_reducible refine Later.setCell ?_ (by simp; omega) _) | (with_reducible refine Later.setCell ?_ (by simp) _) | (with_reducible refine Later.drewN ?_ _) | (with_reducible refine Later.drew ?_) | (with_reducible refine Later.trans ?_ (Hid.out (by assumption)))))⟩
theorem s_want_yes (g : Nat) (x : List UInt8) (r : TT) (b : Bool) (w : World) (h : SSt N w g (x :: r) b) : Calls Tryz.prog 103 #[.pointer (some ⟨g, 0, none⟩), .string (tx x)] w fun e w' => e = .returned (.tuple #[]) ∧ SSt N w' g r b ∧ w.grownBy w' (some g) := by
  have PK := Lib.hid (s_peek g (x :: r) b w h)
  simp only [List.headD_cons] at PK
  have HS := Lib.hid h
  obtain ⟨s, hs⟩ : ∃ s, s = tx x := ⟨_, rfl⟩
  rw [← hs] at PK ⊢
  have e1 : (s.toList == s.toList) = true := by simp
  have e2 : (s.toList != s.toList) = false := by simp
  clear h hs
  go_enter Tryz.func103, Tryz.ntmps103
  go_wp2_with fail
  refine PK.out.mono ?_
  rintro e w1 ⟨rfl, hb⟩
  have HG := Lib.hid (grP_later (grP_refl w (some g)) hb)
  obtain ⟨p, off, n, cap, k, c0, c1, c2, f1, f2, hkn, hn, hpg, d1, hpl, hss⟩ := (HS.out.later hb).cons
  have HSS := Lib.hid hss
  have hw1 : IntKind.i64.wrap ((k : Int) + 1) = (k : Int) + 1 := IntWalk.i64_in _ (by omega)
  clear hb hss d1
  go_wp2_with fail
  first
  | go_end0
  | skip
  exact ⟨rfl, HSS.out, grP_set HG.out _⟩
theorem s_want_no (g : Nat) (s : List UInt8) (T : TT) (b : Bool) (w : World) (h : SSt N w g T b) (hs : T.headD [] ≠ s) : Calls Tryz.prog 103 #[.pointer (some ⟨g, 0, none⟩), .string (tx s)] w fun e w' => e = .returned (.tuple #[]) ∧ SSt N w' g T true ∧ w.grownBy w' (some g) := by
  have PK := Lib.hid (s_peek g T b w h)
  have HS := Lib.hid h
  have e1 := eq_tx (T.headD []) s
  rw [decide_eq_false hs] at e1
  obtain ⟨z, hz⟩ : ∃ s, s = tx (T.headD []) := ⟨_, rfl⟩
  obtain ⟨y, hy⟩ : ∃ y, y = tx s := ⟨_, rfl⟩
  rw [← hz] at PK e1; rw [← hy] at e1 ⊢
  have e2 : (z.toList != y.toList) = true := by simp only [bne, e1]; rfl
  clear h hs hz hy
  go_enter Tryz.func103, Tryz.ntmps103
  go_wp2_with fail
  refine PK.out.mono ?_
  rintro e w1 ⟨rfl, hb⟩
  have HG := Lib.hid (grP_later (grP_refl w (some g)) hb)
  have HSS := Lib.hid (HS.out.later hb).bad
  obtain ⟨c2, f2⟩ := (HS.out.later hb).flag
  clear hb
  go_wp2_with fail
  first
  | go_end0
  | (refine bodyPost_ret (results_none rfl _ _ _) rfl ?_)
  | skip
  exact ⟨rfl, HSS.out, grP_set HG.out _⟩
theorem s_wantName_yes (g : Nat) (x : List UInt8) (r : TT) (b : Bool) (w : World) (h : SSt N w g (x :: r) b) (hn : nmB x = true) : Calls Tryz.prog 104 #[.pointer (some ⟨g, 0, none⟩)] w fun e w' => e = .returned (.string (tx x)) ∧ SSt N w' g r b ∧ w.grownBy w' (some g) := by
  have PK := Lib.hid (s_peek g (x :: r) b w h)
  simp only [List.headD_cons] at PK
  have HS := Lib.hid h
  have NM : Hid (∀ W, Calls Tryz.prog 87 #[.string (tx x)] W fun e w' => e = .returned (.bool true) ∧ Later W w') := Lib.hid (fun W => by have := s_Name (tx x) W (by rw [tx_size]; have := nm_len hn; omega); rwa [tx_data, hn] at this)
  obtain ⟨s, hs⟩ : ∃ s, s = tx x := ⟨_, rfl⟩
  rw [← hs] at PK NM ⊢
  clear h hs
  go_enter Tryz.func104, Tryz.ntmps104
  go_wp2_with fail
  refine PK.out.mono ?_
  rintro e w1 ⟨rfl, hb⟩
  have H1 := Lib.hid hb
  clear hb
  go_wp2_with fail
  refine (NM.out _).mono ?_
  rintro e w2 ⟨rfl, hb⟩
  have H2 := Lib.hid (Later.trans H1.out hb)
  have HG := Lib.hid (grP_later (grP_refl w (some g)) H2.out)
  obtain ⟨p, off, n, cap, k, c0, c1, c2, f1, f2, hkn, hn, hpg, d1, hpl, hss⟩ := (HS.out.later H2.out).cons
  have HSS := Lib.hid hss
  have hw1 : IntKind.i64.wrap ((k : Int) + 1) = (k : Int) + 1 := IntWalk.i64_in _ (by omega)
  clear hb hss d1
  go_wp2_with fail
  go_ret
  exact ⟨rfl, HSS.out, grP_set HG.out _⟩
theorem s_wantName_no (g : Nat) (T : TT) (b : Bool) (w : World) (h : SSt N w g T b) (hn : nmB (T.headD []) = false) : Calls Tryz.prog 104 #[.pointer (some ⟨g, 0, none⟩)] w fun e w' => e = .returned (.string (tx [])) ∧ SSt N w' g T true ∧ w.grownBy w' (some g) := by
  have PK := Lib.hid (s_peek g T b w h)
  have HS := Lib.hid h
  have hl : (T.headD []).length ≤ 12 := by
    cases T with
    | nil => simp
    | cons x r => exact (kd_len (h.valid x (by simp))).2
  have NM : Hid (∀ W, Calls Tryz.prog 87 #[.string (tx (T.headD []))] W fun e w' => e = .returned (.bool false) ∧ Later W w') := Lib.hid (fun W => by have := s_Name (tx (T.headD [])) W (by rw [tx_size]; omega); rwa [tx_data, hn] at this)
  obtain ⟨s, hs⟩ : ∃ s, s = tx (T.headD []) := ⟨_, rfl⟩
  rw [← hs] at PK NM
  clear h hs hn hl
  go_enter Tryz.func104, Tryz.ntmps104
  go_wp2_with fail
  refine PK.out.mono ?_
  rintro e w1 ⟨rfl, hb⟩
  have H1 := Lib.hid hb
  clear hb
  go_wp2_with fail
  refine (NM.out _).mono ?_
  rintro e w2 ⟨rfl, hb⟩
  have H2 := Lib.hid (Later.trans H1.out hb)
  have HG := Lib.hid (grP_later (grP_refl w (some g)) H2.out)
  have HSS := Lib.hid (HS.out.later H2.out).bad
  obtain ⟨c2, f2⟩ := (HS.out.later H2.out).flag
  clear hb
  go_wp2_with fail
  go_ret
  exact ⟨rfl, HSS.out, grP_set HG.out _⟩
end Go.Proofs.YtggnhdeldmkdmaaGreatDoor
