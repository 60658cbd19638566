/- Tokens drawn: words and tokens. -/
import Derived.Test.YtpeebgkgccacbaaDoorTks
import Derived.Test.YtpeebgkgccacbaaDoorDraw
import Derived.Test.YtpeebgkgccacbaaDoorDraw0
import Derived.Test.YtpeebgkgccacbaaDoorFrom
import Derived.Test.YtpeebgkgccacbaaDoorGrown
import Derived.Test.YtpeebgkgccacbaaDoorLater
import Derived.Test.YtpeebgkgccacbaaDoorTkK
namespace Go.Proofs.YtpeebgkgccacbaaDoor
open Go.RowKit Go.Shelf
set_option maxHeartbeats 4000000
set_option maxRecDepth 100000
set_option linter.unusedVariables false
set_option linter.unusedSimpArgs false
theorem grownA_new {a b : World} {r : Option Nat} (h : a.grownBy b r) {p : Addr} (hp : a.heap.size ≤ p.block) (u : Value) : a.grownBy (b.setCell p u) r :=
  ⟨h.os, h.tape, h.output, by have := h.size; simpa using this, fun i hi hr => by rw [Below.heap_setCell _ _ _ _ (by omega)]; exact h.block i hi hr⟩
theorem grownA_alloc {a b : World} {r : Option Nat} (h : a.grownBy b r) (o : Obj) : a.grownBy (b.alloc o) r := grown_trans h (World.grownBy_alloc b o r)
theorem grownA_later {a b c : World} {r : Option Nat} (h : a.grownBy b r) (k : Later b c) : a.grownBy c r := grown_trans h ⟨k.os, k.tape, k.output, k.size, fun i hi _ => k.block i hi⟩
/-- the source outlives stores into blocks that are newer than it -/
theorem srcA_new {W : World} {B b j : Nat} {a : Option Addr} {len cap : Nat} (hab : 0 < len → ∀ x, a = some x → x.block < B) (h : Src W B a len cap) (hp : B < b) (u : Value) : Src (W.setCell ⟨b, j, none⟩ u) B a len cap :=
  h.kept2 hab (grown_set W b j u) (fun k hk => by have := Option.some.inj hk; omega)
theorem srcA_later {W W' : World} {B : Nat} {a : Option Addr} {len cap : Nat} (hab : 0 < len → ∀ x, a = some x → x.block < B) (h : Src W B a len cap) (k : Later W W') : Src W' B a len cap :=
  h.kept2 hab (row := none) ⟨k.os, k.tape, k.output, k.size, fun i hi _ => k.block i hi⟩ (fun k hk => by cases hk)
/-- a literal row of texts -/
def litV (ws : List (List UInt8)) : Array Value := (ws.map fun l => Value.string ⟨l.toArray⟩).toArray
theorem lit_cell (W : World) (ws : List (List UInt8)) (T : TypeId) (m : Nat) (hm : ∀ l ∈ ws, l.length ≤ m) (j : Nat) (hj : j < ws.length) : ∃ t : List UInt8, (W.alloc (.cells (litV ws) T)).cell? ⟨W.heap.size, j, none⟩ = some (.string (tx t)) ∧ t.length ≤ m := by
  refine ⟨ws[j], ?_, hm _ (List.getElem_mem _)⟩
  rw [cell_of_row _ _ j _ T (0, 0) (heap_alloc_new W _)]
  simp [litV, hj, tx]
/-- a token's box of zeros -/
def Bz (w : World) (b : Nat) : Prop := w.heap[b]? = some (.cells #[.int .i64 0, .string ⟨#[]⟩] 33 (0, 0))
theorem Bz.c0 {w : World} {b : Nat} (h : Bz w b) : w.cell? ⟨b, 0, none⟩ = some (.int .i64 0) := by rw [cell_of_row _ _ 0 _ _ (0, 0) h]; rfl
theorem Bz.c1 {w : World} {b : Nat} (h : Bz w b) : w.cell? ⟨b, 1, none⟩ = some (.string ⟨#[]⟩) := by rw [cell_of_row _ _ 1 _ _ (0, 0) h]; rfl
theorem Bz.fr {w : World} {b : Nat} (h : Bz w b) (j : Nat) : w.frozen? ⟨b, j, none⟩ = false := by
  unfold Bz at h
  simp [World.frozen?, h]
theorem Bz.lt {w : World} {b : Nat} (h : Bz w b) : b < w.heap.size := by
  by_cases hb : b < w.heap.size
  · exact hb
  · have h1 : w.heap[b]? = none := by simp; omega
    unfold Bz at h; rw [h1] at h; cases h
theorem Bz.kept {w w' : World} {b : Nat} {r : Option Nat} (h : Bz w b) (hg : w.grownBy w' r) (hr : some b ≠ r) : Bz w' b := (hg.block b h.lt hr).trans h
theorem Bz.alloc {w : World} {b : Nat} (h : Bz w b) (o : Obj) : Bz (w.alloc o) b := h.kept (World.grownBy_alloc w o none) (by simp)
/-- a word drawn -/
def DrWd (B : Nat) (a : Option Addr) (len cap m : Nat) (w : World) (e : Ending) (w' : World) : Prop :=
  ∃ t : List UInt8, e = .returned (.string (tx t)) ∧ t.length ≤ m ∧ Src w' B a len cap ∧ w.grownBy w' (some B)
def DrTk (B : Nat) (a : Option Addr) (len cap : Nat) (w : World) (e : Ending) (w' : World) : Prop :=
  ∃ (k : Int) (t : List UInt8), e = .returned (.agg #[.int .i64 k, .string (tx t)]) ∧ InR k ∧ t.length ≤ 13 ∧ Src w' B a len cap ∧ w.grownBy w' (some B)
theorem s_DrawWord12 (B : Nat) (a : Option Addr) (len cap : Nat) (w : World) (hs : Src w B a len cap) : Calls Tryd.prog 46 #[.pointer (some ⟨B, 0, none⟩)] w (DrWd B a len cap 13 w) := by
  have HS := Lib.hid hs
  have hB := hs.lt
  have LT := Lib.hid (lit_cell w [[97], [98], [120, 49], [107, 101, 121, 95, 50], [103, 97, 116, 101], [111, 110], [110, 111, 116], [108, 97, 116, 99, 104], [112, 114, 111, 103, 114, 97, 109], [101, 110, 100], [122], [116, 119, 101, 108, 118, 101, 95, 98, 121, 116, 101, 115]] 9 13 (by decide))
  clear hs
  go_enter Tryd.func46, Tryd.ntmps46
  go_wp2_with fail
  refine (s_Next B a len cap 12 _ (HS.out.alloc _) (by omega) (by omega)).mono ?_
  rintro e w1 ⟨r, rfl, r0, r1, r2, src, gr⟩
  obtain ⟨j, rfl⟩ := Int.eq_ofNat_of_zero_le r0
  have hj : j < 12 := by have := r1 (by omega); omega
  obtain ⟨t, hc0, ht⟩ := LT.out j hj
  have hc : w1.cell? ⟨w.heap.size, j, none⟩ = some (.string (tx t)) := gr.cell hc0 (by simp; omega)
  have G := Lib.hid (grown_trans (World.grownBy_alloc w _ (some B)) gr); have S := Lib.hid src
  clear src gr r0 r1 r2 hc0
  go_wp2_with fail
  go_ret
  exact ⟨_, rfl, ht, S.out, G.out⟩
theorem row_later {b c : World} (k : Later b c) : b.grownBy c none := ⟨k.os, k.tape, k.output, k.size, fun i hi _ => k.block i hi⟩
theorem sl_two (w : World) (x y : Int) (hx : InR x) (hy : InR y) : Sl (w.alloc (.cells #[.int .i64 x, .int .i64 y] 2)) (some ⟨w.heap.size, 0, none⟩) 2 [x, y] := sl_new w [x, y] _ (by simp) (by intro z hz; simp at hz; rcases hz with rfl | rfl <;> assumption)
theorem s_DrawToken12 (B : Nat) (a : Option Addr) (len cap : Nat) (w : World) (hs : Src w B a len cap) (hab : 0 < len → ∀ x, a = some x → x.block < B) : Calls Tryd.prog 49 #[.pointer (some ⟨B, 0, none⟩)] w (DrTk B a len cap w) := by
  have HS := Lib.hid hs
  have HAB := Lib.hid hab
  have hB := hs.lt
  clear hs hab
  have X0 : Hid (Bz (w.alloc (.cells #[.int .i64 0, .string ⟨#[]⟩] 33)) w.heap.size) := Lib.hid (heap_alloc_new w _)
  go_enter Tryd.func49, Tryd.ntmps49
  go_wp2_with fail
  refine (s_Next B a len cap 40 _ (HS.out.alloc _) (by omega) (by omega)).mono ?_
  rintro e w1 ⟨q, rfl, q0, q1, q2, src, gr⟩
  have S1 := Lib.hid src
  have G1 := Lib.hid (grown_trans (World.grownBy_alloc w _ (some B)) gr)
  have X1 := Lib.hid (X0.out.kept gr (by simp; omega))
  have z1 := X1.out.lt
  have hq := q1 (by omega)
  clear src gr q1 q2
  rcases (show q = 0 ∨ q = 1 ∨ q = 2 ∨ q = 3 ∨ 3 < q by omega) with rfl | rfl | rfl | rfl | hq3
  · go_wp2_with fail
    refine (s_Pick B a len cap ⟨w1.heap.size, 0, none⟩ 2 2 [0, 4] _ (S1.out.alloc _) (sl_two w1 0 4 ⟨by omega, by omega⟩ ⟨by omega, by omega⟩) (by have := S1.out.lt; simp; omega) (by omega)).mono ?_
    rintro e w7 ⟨r, rfl, hr, src, gr⟩
    have hr2 : r = 0 ∨ r = 4 := by simpa using hr
    have G7 := Lib.hid (grown_trans (grownA_alloc G1.out _) gr); have S7 := Lib.hid src
    have X7 := Lib.hid ((X1.out.alloc _).kept gr (by simp; omega))
    have x0 := X7.out.c0; have x1 := X7.out.c1; have f0 := X7.out.fr 0; have f1 := X7.out.fr 1
    have z7 := G7.out.size
    clear src gr hr
    go_wp2_with fail
    refine bodyPost_ret (v := .agg #[.int .i64 r, .string (tx [97])]) (by simp [results, Tryd.results49, go_sem, *] <;> first | rfl | omega) rfl ⟨r, [97], rfl, ⟨by omega, by omega⟩, by decide, (by repeat (first | exact S7.out | refine srcA_new HAB.out ?_ (by first | omega | (simp; omega)) _)), (by repeat (first | exact G7.out | refine grownA_new ?_ (by first | exact Nat.le_refl _ | omega | (simp; omega)) _))⟩
  · skip
    have LT := Lib.hid (lit_cell w1 [[], [65], [49, 97], [116, 104, 105, 114, 116, 101, 101, 110, 95, 98, 121, 116, 101], [95, 97]] 9 13 (by decide))
    go_wp2_with fail
    refine (s_Next B a len cap 5 _ (S1.out.alloc _) (by omega) (by omega)).mono ?_
    rintro e w7 ⟨r, rfl, r0, r1, r2, src, gr⟩
    obtain ⟨j, rfl⟩ := Int.eq_ofNat_of_zero_le r0
    have hj : j < 5 := by have := r1 (by omega); omega
    obtain ⟨t, hc0, ht⟩ := LT.out j hj
    have hc : w7.cell? ⟨w1.heap.size, j, none⟩ = some (.string (tx t)) := gr.cell hc0 (by simp; omega)
    have G7 := Lib.hid (grown_trans (grownA_alloc G1.out _) gr); have S7 := Lib.hid src
    have X7 := Lib.hid ((X1.out.alloc _).kept gr (by simp; omega))
    have x0 := X7.out.c0; have x1 := X7.out.c1; have f0 := X7.out.fr 0; have f1 := X7.out.fr 1
    have z7 := G7.out.size
    clear src gr r0 r1 r2 hc0
    go_wp2_with fail
    refine bodyPost_ret (v := .agg #[.int .i64 1, .string (tx t)]) (by simp [results, Tryd.results49, go_sem, *] <;> first | rfl | omega) rfl ⟨1, t, rfl, ⟨by omega, by omega⟩, ht, (by repeat (first | exact S7.out | refine srcA_new HAB.out ?_ (by first | omega | (simp; omega)) _)), (by repeat (first | exact G7.out | refine grownA_new ?_ (by first | exact Nat.le_refl _ | omega | (simp; omega)) _))⟩
  · skip
    have LT := Lib.hid (lit_cell w1 [[48, 49], [49, 48, 48, 48, 48], [57, 57, 57, 57], []] 9 13 (by decide))
    go_wp2_with fail
    refine (s_Next B a len cap 4 _ (S1.out.alloc _) (by omega) (by omega)).mono ?_
    rintro e w7 ⟨r, rfl, r0, r1, r2, src, gr⟩
    obtain ⟨j, rfl⟩ := Int.eq_ofNat_of_zero_le r0
    have hj : j < 4 := by have := r1 (by omega); omega
    obtain ⟨t, hc0, ht⟩ := LT.out j hj
    have hc : w7.cell? ⟨w1.heap.size, j, none⟩ = some (.string (tx t)) := gr.cell hc0 (by simp; omega)
    have G7 := Lib.hid (grown_trans (grownA_alloc G1.out _) gr); have S7 := Lib.hid src
    have X7 := Lib.hid ((X1.out.alloc _).kept gr (by simp; omega))
    have x0 := X7.out.c0; have x1 := X7.out.c1; have f0 := X7.out.fr 0; have f1 := X7.out.fr 1
    have z7 := G7.out.size
    clear src gr r0 r1 r2 hc0
    go_wp2_with fail
    refine bodyPost_ret (v := .agg #[.int .i64 2, .string (tx t)]) (by simp [results, Tryd.results49, go_sem, *] <;> first | rfl | omega) rfl ⟨2, t, rfl, ⟨by omega, by omega⟩, ht, (by repeat (first | exact S7.out | refine srcA_new HAB.out ?_ (by first | omega | (simp; omega)) _)), (by repeat (first | exact G7.out | refine grownA_new ?_ (by first | exact Nat.le_refl _ | omega | (simp; omega)) _))⟩
  · skip
    have LT := Lib.hid (lit_cell w1 [[61, 61], [58], []] 9 13 (by decide))
    go_wp2_with fail
    refine (s_Next B a len cap 3 _ (S1.out.alloc _) (by omega) (by omega)).mono ?_
    rintro e w7 ⟨r, rfl, r0, r1, r2, src, gr⟩
    obtain ⟨j, rfl⟩ := Int.eq_ofNat_of_zero_le r0
    have hj : j < 3 := by have := r1 (by omega); omega
    obtain ⟨t, hc0, ht⟩ := LT.out j hj
    have hc : w7.cell? ⟨w1.heap.size, j, none⟩ = some (.string (tx t)) := gr.cell hc0 (by simp; omega)
    have G7 := Lib.hid (grown_trans (grownA_alloc G1.out _) gr); have S7 := Lib.hid src
    have X7 := Lib.hid ((X1.out.alloc _).kept gr (by simp; omega))
    have x0 := X7.out.c0; have x1 := X7.out.c1; have f0 := X7.out.fr 0; have f1 := X7.out.fr 1
    have z7 := G7.out.size
    clear src gr r0 r1 r2 hc0
    go_wp2_with fail
    refine bodyPost_ret (v := .agg #[.int .i64 3, .string (tx t)]) (by simp [results, Tryd.results49, go_sem, *] <;> first | rfl | omega) rfl ⟨3, t, rfl, ⟨by omega, by omega⟩, ht, (by repeat (first | exact S7.out | refine srcA_new HAB.out ?_ (by first | omega | (simp; omega)) _)), (by repeat (first | exact G7.out | refine grownA_new ?_ (by first | exact Nat.le_refl _ | omega | (simp; omega)) _))⟩
  · have e0 : (q == 0) = false := by simp; omega
    have e1 : (q == 1) = false := by simp; omega
    have e2 : (q == 2) = false := by simp; omega
    have e3 : (q == 3) = false := by simp; omega
    go_wp2_with fail
    refine (s_Next B a len cap 5 _ S1.out (by omega) (by omega)).mono ?_
    rintro e w2 ⟨p, rfl, p0, p1, p2, src, gr⟩
    have S2 := Lib.hid src
    have G2 := Lib.hid (grown_trans G1.out gr)
    have X2 := Lib.hid (X1.out.kept gr (by simp; omega))
    have z2 := X2.out.lt
    clear src gr p2
    rcases (show p = 0 ∨ (p = 1 ∨ p = 2) ∨ 2 < p by omega) with rfl | hp | hp
    · go_wp2_with fail
      refine (s_Next B a len cap 30 _ S2.out (by omega) (by omega)).mono ?_
      rintro e w3 ⟨r, rfl, r0, r1, r2, src, gr⟩
      have hr30 := r1 (by omega)
      have S3 := Lib.hid src
      have G3 := Lib.hid (grown_trans G2.out gr)
      have X3 := Lib.hid (X2.out.kept gr (by simp; omega))
      clear src gr r1 r2
      go_wp2_with fail
      refine (s_Dec 100 r _ r0 (by omega) (by omega)).mono ?_
      rintro e w7 ⟨rfl, hb⟩
      have ht := dec_len1 2 r.toNat (by omega)
      obtain ⟨t, htt⟩ : ∃ t, t = Lib.decDigits r.toNat := ⟨_, rfl⟩
      rw [← htt] at ht ⊢
      have ht13 : t.length ≤ 13 := by omega
      have S7 := Lib.hid (srcA_later HAB.out S3.out hb)
      have G7 := Lib.hid (grownA_later G3.out hb)
      have X7 := Lib.hid (X3.out.kept (row_later hb) (by simp))
      have x0 := X7.out.c0; have x1 := X7.out.c1; have f0 := X7.out.fr 0; have f1 := X7.out.fr 1
      have z7 := G7.out.size
      clear hb htt
      go_wp2_with fail
      refine bodyPost_ret (v := .agg #[.int .i64 2, .string (tx t)]) (by simp [results, Tryd.results49, go_sem, *] <;> first | rfl | omega) rfl ⟨2, t, rfl, ⟨by omega, by omega⟩, ht13, (by repeat (first | exact S7.out | refine srcA_new HAB.out ?_ (by first | omega | (simp; omega)) _)), (by repeat (first | exact G7.out | refine grownA_new ?_ (by first | exact Nat.le_refl _ | omega | (simp; omega)) _))⟩
    · have d0 : (p == 0) = false := by simp; omega
      rcases hp with rfl | rfl
      · skip
        have LT := Lib.hid (lit_cell w2 [[61], [40], [41], [44], [59]] 9 13 (by decide))
        go_wp2_with fail
        refine (s_Next B a len cap 5 _ (S2.out.alloc _) (by omega) (by omega)).mono ?_
        rintro e w7 ⟨r, rfl, r0, r1, r2, src, gr⟩
        obtain ⟨j, rfl⟩ := Int.eq_ofNat_of_zero_le r0
        have hj : j < 5 := by have := r1 (by omega); omega
        obtain ⟨t, hc0, ht⟩ := LT.out j hj
        have hc : w7.cell? ⟨w2.heap.size, j, none⟩ = some (.string (tx t)) := gr.cell hc0 (by simp; omega)
        have G7 := Lib.hid (grown_trans (grownA_alloc G2.out _) gr); have S7 := Lib.hid src
        have X7 := Lib.hid ((X2.out.alloc _).kept gr (by simp; omega))
        have x0 := X7.out.c0; have x1 := X7.out.c1; have f0 := X7.out.fr 0; have f1 := X7.out.fr 1
        have z7 := G7.out.size
        clear src gr r0 r1 r2 hc0
        go_wp2_with fail
        refine bodyPost_ret (v := .agg #[.int .i64 3, .string (tx t)]) (by simp [results, Tryd.results49, go_sem, *] <;> first | rfl | omega) rfl ⟨3, t, rfl, ⟨by omega, by omega⟩, ht, (by repeat (first | exact S7.out | refine srcA_new HAB.out ?_ (by first | omega | (simp; omega)) _)), (by repeat (first | exact G7.out | refine grownA_new ?_ (by first | exact Nat.le_refl _ | omega | (simp; omega)) _))⟩
      · skip
        have LT := Lib.hid (lit_cell w2 [[61], [40], [41], [44], [59]] 9 13 (by decide))
        go_wp2_with fail
        refine (s_Next B a len cap 5 _ (S2.out.alloc _) (by omega) (by omega)).mono ?_
        rintro e w7 ⟨r, rfl, r0, r1, r2, src, gr⟩
        obtain ⟨j, rfl⟩ := Int.eq_ofNat_of_zero_le r0
        have hj : j < 5 := by have := r1 (by omega); omega
        obtain ⟨t, hc0, ht⟩ := LT.out j hj
        have hc : w7.cell? ⟨w2.heap.size, j, none⟩ = some (.string (tx t)) := gr.cell hc0 (by simp; omega)
        have G7 := Lib.hid (grown_trans (grownA_alloc G2.out _) gr); have S7 := Lib.hid src
        have X7 := Lib.hid ((X2.out.alloc _).kept gr (by simp; omega))
        have x0 := X7.out.c0; have x1 := X7.out.c1; have f0 := X7.out.fr 0; have f1 := X7.out.fr 1
        have z7 := G7.out.size
        clear src gr r0 r1 r2 hc0
        go_wp2_with fail
        refine bodyPost_ret (v := .agg #[.int .i64 3, .string (tx t)]) (by simp [results, Tryd.results49, go_sem, *] <;> first | rfl | omega) rfl ⟨3, t, rfl, ⟨by omega, by omega⟩, ht, (by repeat (first | exact S7.out | refine srcA_new HAB.out ?_ (by first | omega | (simp; omega)) _)), (by repeat (first | exact G7.out | refine grownA_new ?_ (by first | exact Nat.le_refl _ | omega | (simp; omega)) _))⟩
    · have d0 : (p == 0) = false := by simp; omega
      have d1 : (p == 1) = false := by simp; omega
      have d2 : (p == 2) = false := by simp; omega
      go_wp2_with fail
      refine (s_DrawWord12 B a len cap _ S2.out).mono ?_
      rintro e w7 ⟨t, rfl, ht, src, gr⟩
      have G7 := Lib.hid (grown_trans G2.out gr); have S7 := Lib.hid src
      have X7 := Lib.hid (X2.out.kept gr (by simp; omega))
      have x0 := X7.out.c0; have x1 := X7.out.c1; have f0 := X7.out.fr 0; have f1 := X7.out.fr 1
      have z7 := G7.out.size
      clear src gr
      go_wp2_with fail
      refine bodyPost_ret (v := .agg #[.int .i64 1, .string (tx t)]) (by simp [results, Tryd.results49, go_sem, *] <;> first | rfl | omega) rfl ⟨1, t, rfl, ⟨by omega, by omega⟩, ht, (by repeat (first | exact S7.out | refine srcA_new HAB.out ?_ (by first | omega | (simp; omega)) _)), (by repeat (first | exact G7.out | refine grownA_new ?_ (by first | exact Nat.le_refl _ | omega | (simp; omega)) _))⟩
end Go.Proofs.YtpeebgkgccacbaaDoor
