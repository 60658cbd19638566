/- A layout and blocks of it are drawn. -/
import Derived.Test.YtdhoiiejcmnmbaaBkV
import Derived.Test.YtdhoiiejcmnmbaaBkU
import Derived.Test.YtdhoiiejcmnmbaaApp
import Derived.Test.YtdhoiiejcmnmbaaSgH
import Derived.Deep.Cut
import Derived.Deep.CutRange
namespace Go.Proofs.Ytdhoiiejcmnmbaa
open Go.RowKit
set_option maxHeartbeats 4000000
set_option linter.unusedVariables false
set_option linter.unusedSimpArgs false
/-- the state of the draw: two boxes, the row of segments; the source is in order -/
def Bs (B : Nat) (a : Option Addr) (len cap : Nat) (w : World) (bx : Nat) (a' : Option Addr) (n cap' : Nat) (L : List Sg) (W : World) : Prop :=
  St [(bx, 0, .slice a' n cap'), (w.heap.size, 0, .slice none 0 0)] B a len cap w W ∧ w.heap.size < bx ∧ bx < W.heap.size ∧ Wrt W a' n L ∧ L.length = n ∧ n ≤ cap' ∧ n ≤ 26 ∧ (∀ x ∈ L, x.In ∧ SmW x) ∧ (∀ x, a' = some x → 0 < n → w.heap.size < x.block ∧ x.block < bx)
def BsE (B : Nat) (a : Option Addr) (len cap : Nat) (w : World) (bx : Nat) (a' : Option Addr) (n cap' : Nat) (v : Value) (W : World) : Prop :=
  ∃ L F, Bs B a len cap w bx a' n cap' L W ∧ Own W (bx + 1) v F ∧ F.length ≤ 9
theorem Bs.src {B : Nat} {a : Option Addr} {len cap : Nat} {w : World} {bx : Nat} {a' : Option Addr} {n cap' : Nat} {L : List Sg} {W : World} (h : Bs B a len cap w bx a' n cap' L W) : Src W B a len cap := h.1.src
theorem Bs.lts {B : Nat} {a : Option Addr} {len cap : Nat} {w : World} {bx : Nat} {a' : Option Addr} {n cap' : Nat} {L : List Sg} {W : World} (h : Bs B a len cap w bx a' n cap' L W) : bx + 1 ≤ W.heap.size := h.2.2.1
theorem Bs.call {B : Nat} {a : Option Addr} {len cap : Nat} {w : World} {bx : Nat} {a' : Option Addr} {n cap' : Nat} {L : List Sg} {W W1 : World} (h : Bs B a len cap w bx a' n cap' L W) (src : Src W1 B a len cap) (gr : W.grownBy W1 (some B)) : Bs B a len cap w bx a' n cap' L W1 := by
  obtain ⟨h1, h2, h3, h4, h5, h6, h7, h8, h9⟩ := h
  have hB := h1.lt
  refine ⟨h1.call src gr, h2, Nat.lt_of_lt_of_le h3 gr.size, fun hn => ?_, h5, h6, h7, h8, h9⟩
  obtain ⟨g, e, hr⟩ := h4 hn
  exact ⟨g, e, hr.grown gr (by have := (h9 _ e hn).1; simp at this; omega)⟩
theorem Bs.later {B : Nat} {a : Option Addr} {len cap : Nat} {w : World} {bx : Nat} {a' : Option Addr} {n cap' : Nat} {L : List Sg} {W W1 : World} (h : Bs B a len cap w bx a' n cap' L W) (k : Later W W1) : Bs B a len cap w bx a' n cap' L W1 := by
  obtain ⟨h1, h2, h3, h4, h5, h6, h7, h8, h9⟩ := h
  refine ⟨h1.later k, h2, Nat.lt_of_lt_of_le h3 k.size, fun hn => ?_, h5, h6, h7, h8, h9⟩
  obtain ⟨g, e, hr⟩ := h4 hn
  exact ⟨g, e, hr.later k⟩
theorem Bs.grow {B : Nat} {a : Option Addr} {len cap : Nat} {w : World} {bx : Nat} {a' : Option Addr} {n cap' : Nat} {L : List Sg} {W W1 : World} {row : Option Nat} (h : Bs B a len cap w bx a' n cap' L W) (hg : W.grownBy W1 row) (hr : ∀ k, row = some k → bx < k) : Bs B a len cap w bx a' n cap' L W1 := by
  obtain ⟨h1, h2, h3, h4, h5, h6, h7, h8, h9⟩ := h
  refine ⟨h1.grow hg (fun k e => ?_), h2, Nat.lt_of_lt_of_le h3 hg.size, fun hn => ?_, h5, h6, h7, h8, h9⟩
  · have := hr k e
    refine ⟨by omega, fun x hx => ?_⟩
    simp at hx
    rcases hx with rfl | rfl <;> simp <;> omega
  · obtain ⟨g, e, hq⟩ := h4 hn
    have hlt := (h9 _ e hn).2
    have hne : row ≠ some g := fun e' => by have := hr g e'; simp at hlt; omega
    exact ⟨g, e, Nat.lt_of_lt_of_le hq.1 hg.size, fun j hj => ⟨hg.cell (hq.2 j hj).1 (fun e' => hne e'.symm), by rw [World.frozen?_of_block (w := W) (hg.block g hq.1 (fun e' => hne e'.symm))]; exact (hq.2 j hj).2⟩⟩
theorem Bs.sgs {B : Nat} {a : Option Addr} {len cap : Nat} {w : World} {bx : Nat} {a' : Option Addr} {n cap' : Nat} {L : List Sg} {W : World} (h : Bs B a len cap w bx a' n cap' L W) : Sgs W a' n L := by
  obtain ⟨h1, h2, h3, h4, h5, h6, h7, h8, h9⟩ := h
  by_cases hn : 0 < n
  · obtain ⟨g, rfl, hr⟩ := h4 hn
    exact hr.sgs h5 (by omega) (fun x hx => (h8 x hx).1)
  · obtain rfl : n = 0 := by omega
    obtain rfl : L = [] := List.eq_nil_of_length_eq_zero h5
    exact Sgs.nil _ _
theorem Bs.box {B : Nat} {a : Option Addr} {len cap : Nat} {w : World} {bx : Nat} {a' : Option Addr} {n cap' : Nat} {L : List Sg} {W : World} (h : Bs B a len cap w bx a' n cap' L W) : W.cell? ⟨bx, 0, none⟩ = some (.slice a' n cap') := (h.1.at bx 0 _ (by simp)).1
theorem Own.keptB {w w' : World} {base : Nat} {v : Value} {l : List Int} {B : Nat} (h : Own w base v l) (hg : w.grownBy w' (some B)) (hb : B < base) : Own w' base v l := h.kept hg (fun k e => by cases e; exact hb)
theorem dflV_le (L : List Sg) : (dflV L).length ≤ 9 := by
  by_cases h : dflE L = 0
  · obtain ⟨hb, _⟩ := dfl_blocks h
    have := (bkC_iff L _).1 (bkB_lay hb).2
    omega
  · unfold dflV; rw [if_neg h]; simp
theorem one_set {w : World} {q : Nat} {x y : Sg} (h : SgRow w q 1 (flt [x])) (o : Nat) (v : Int) (e : ∀ j, j < 7 → flt [y] j = if j = o then v else flt [x] j) : SgRow (w.setCell ⟨q, o, none⟩ (.int .i64 v)) q 1 (flt [y]) :=
  (h.set1 o v).congr (fun j hj => (e j (by omega)).symm)
theorem seven_cases {j : Nat} (h : j < 7) : j = 0 ∨ j = 1 ∨ j = 2 ∨ j = 3 ∨ j = 4 ∨ j = 5 ∨ j = 6 := by omega
/-- the box of a segment and what lies around it -/
def Bq (B : Nat) (a : Option Addr) (len cap : Nat) (w : World) (bx q g n cap' : Nat) (L : List Sg) (x : Sg) (W : World) : Prop :=
  St [(bx, 0, .slice (some ⟨g, 0, none⟩) n cap'), (w.heap.size, 0, .slice none 0 0)] B a len cap w W ∧ SgRow W g n (flt L) ∧ SgRow W q 1 (flt [x])
theorem Bq.put {B : Nat} {a : Option Addr} {len cap : Nat} {w : World} {bx q g n cap' : Nat} {L : List Sg} {x y : Sg} {W : World} (h : Bq B a len cap w bx q g n cap' L x W) (hb : w.heap.size < bx) (hbq : bx < q) (hg : g < bx) (o : Nat) (v : Int) (e : ∀ j, j < 7 → flt [y] j = if j = o then v else flt [x] j) : Bq B a len cap w bx q g n cap' L y (W.setCell ⟨q, o, none⟩ (.int .i64 v)) := by
  obtain ⟨h1, h2, h3⟩ := h
  refine ⟨h1.set q o _ (by omega) (fun x hx => ?_), h2.far (p := ⟨q, o, none⟩) (by show q ≠ g; omega) _, one_set h3 o v e⟩
  simp at hx
  rcases hx with rfl | rfl <;> simp <;> omega
theorem Bq.later {B : Nat} {a : Option Addr} {len cap : Nat} {w : World} {bx q g n cap' : Nat} {L : List Sg} {x : Sg} {W W1 : World} (h : Bq B a len cap w bx q g n cap' L x W) (k : Later W W1) : Bq B a len cap w bx q g n cap' L x W1 :=
  ⟨h.1.later k, h.2.1.later k, h.2.2.later k⟩
/-- what a draw of a layout and of blocks leaves -/
def DrawnBk (w : World) (B : Nat) (a : Option Addr) (len cap : Nat) (e : Ending) (w' : World) : Prop :=
  ∃ (a' : Option Addr) (n cap' : Nat) (L : List Sg) (A : Option Addr) (m capF : Nat) (F : List Int), e = .returned (.tuple #[.agg #[.slice a' n cap'], .slice A m capF]) ∧ Sgs w' a' n L ∧ n ≤ cap' ∧ n ≤ 26 ∧ (∀ x ∈ L, SmW x) ∧ (∀ x, a' = some x → 0 < n → w.heap.size ≤ x.block) ∧ Sl w' A m F ∧ m ≤ capF ∧ m ≤ 10 ∧ (∀ x, A = some x → w.heap.size ≤ x.block) ∧ Src w' B a len cap ∧ w.grownBy w' (some B)
theorem sl_farB {w : World} {A : Option Addr} {m g : Nat} {F : List Int} (h : Sl w A m F) (u : Value) (hne : ∀ x, A = some x → x.block ≠ g) : Sl (w.setCell ⟨g, 0, none⟩ u) A m F := by
  obtain ⟨h1, h2, h3, h4⟩ := h
  refine ⟨h1, h2, fun k hk => ?_, h4⟩
  obtain ⟨b, off, e, hcl⟩ := h3 k hk
  have hne := hne _ e
  refine ⟨b, off, e, ?_⟩
  rw [World.cell?_setCell_far _ _ _ _ (Ne.symm hne)]
  exact hcl
theorem Bs.done {B : Nat} {a : Option Addr} {len cap : Nat} {w : World} {bx : Nat} {a' : Option Addr} {n cap' : Nat} {L : List Sg} {W : World} (h : Bs B a len cap w bx a' n cap' L W) {A : Option Addr} {m capF : Nat} {F : List Int} (hs : Sl W A m F) (hm : m ≤ capF) (h10 : m ≤ 10) (hb : ∀ x, A = some x → bx + 1 ≤ x.block) (u : Value) : DrawnBk w B a len cap (.returned (.tuple #[.agg #[.slice a' n cap'], .slice A m capF])) (W.setCell ⟨w.heap.size, 0, none⟩ u) := by
  have hsg := h.sgs
  obtain ⟨h1, h2, h3, h4, h5, h6, h7, h8, h9⟩ := h
  have hq := h1.bare.set w.heap.size 0 u (Nat.le_refl _) (by simp)
  refine ⟨a', n, cap', L, A, m, capF, F, rfl, ?_, h6, h7, fun x hx => (h8 x hx).2, fun x hx hn => by have := (h9 x hx hn).1; omega, sl_farB hs u (fun x hx => by have := hb x hx; omega), hm, h10, fun x hx => by have := hb x hx; omega, hq.src, hq.grown⟩
  by_cases hn : 0 < n
  · exact sgs_far hsg u (fun x hx => by have := (h9 x hx hn).1; omega)
  · obtain rfl : n = 0 := by omega
    obtain rfl : L = [] := List.eq_nil_of_length_eq_zero h5
    exact Sgs.nil _ _
theorem Own.sl3 {w : World} {base : Nat} {a : Option Addr} {m cap : Nat} {l : List Int} (h : Own w base (.slice a m cap) l) (hm : l.length = m) : Sl w a m l ∧ ∀ x, a = some x → base ≤ x.block := by
  obtain ⟨a2, c2, e, h1, h2⟩ := h.sl
  cases e
  rw [hm] at h1
  exact ⟨h1, h2⟩
set_option maxRecDepth 100000 in
theorem s_l04Draw (B : Nat) (a : Option Addr) (len cap : Nat) (w : World) (hs : Src w B a len cap) :
    Calls Try.prog 114 #[.pointer (some ⟨B, 0, none⟩)] w (DrawnBk w B a len cap) := by
  have HS := Lib.hid hs
  have hB := hs.lt
  clear hs
  go_enter Try.func114, Try.ntmps114
  go_wp2_with fail
  have T0 := Lib.hid ((St.begin HS.out).box1 (.slice none 0 0) 47)
  refine (s_DrawR B a len cap _ T0.out.src).mono ?_
  rintro e w1 ⟨a', n, cap', L, rfl, hl, hcap, h26, hsm, hbl, src, gr, hwr⟩
  have T1 := Lib.hid (T0.out.call src gr)
  have L1 := Lib.hid hl; have SM := Lib.hid hsm; have WR := Lib.hid hwr
  have HBL := Lib.hid hbl
  have HL := Lib.hid hl.1
  clear hl src gr hbl hsm hwr
  go_wp2_with fail
  have T2 := Lib.hid (T1.out.box1 (.slice a' n cap') 47)
  have hw1 : w.heap.size + 1 ≤ w1.heap.size := by have := T1.out.szl w.heap.size 0 (.slice none 0 0) (by simp); omega
  have LB : Hid (∀ x, a' = some x → 0 < n → w.heap.size < x.block ∧ x.block < w1.heap.size) := Lib.hid (fun x hx hn => by
    have h1 := HBL.out x hx
    rw [World.size_alloc] at h1
    obtain ⟨b, off, e, hb, _⟩ := L1.out.at 0 hn
    rw [hx] at e; cases e
    exact ⟨by omega, hb⟩)
  refine (s_DefaultBlocks a' n cap' L _ (L1.out.later ((Later.refl _).alloc _))).mono ?_
  rintro e w3 ⟨v, rfl, ho, hb⟩
  have T3 := Lib.hid (T2.out.later hb)
  have R3 : Hid (Wrt w3 a' n L) := Lib.hid (fun hn => by obtain ⟨g, e, hr⟩ := WR.out hn; exact ⟨g, e, hr.later (((Later.refl _).alloc _).trans hb)⟩)
  have O3 : Hid (Own w3 (w1.heap.size + 1) v (dflV L)) := Lib.hid (by have h := ho; rw [World.size_alloc] at h; exact h)
  have z3 : w1.heap.size < w3.heap.size := by have := hb.size; rw [World.size_alloc] at this; omega
  clear hb ho
  obtain ⟨bx, hbx⟩ : ∃ bx, w1.heap.size = bx := ⟨_, rfl⟩
  rw [hbx] at T3 LB O3 z3 hw1 ⊢
  have B3 : Hid (Bs B a len cap w bx a' n cap' L w3) := Lib.hid ⟨T3.out, hw1, z3, R3.out, HL.out, hcap, h26, fun x hx => ⟨smS_in (SM.out x hx), (SM.out x hx).w⟩, LB.out⟩
  clear hbx T2 T1 T0 T3 R3 LB z3 L1 WR HBL
  go_upto_region 3 with (fail)
  go_cut [34] from 16 (fun b W => ∃ bb : Bool, b = .bool bb ∧ (bb = true → 2 < n ∧ n < 12) ∧ Bs B a len cap w bx a' n cap' L W ∧ Own W (bx + 1) v (dflV L))
  case first =>
    have F0 : Hid (∀ W, Bs B a len cap w bx a' n cap' L W → Own W (bx + 1) v (dflV L) → ∃ bb : Bool, Value.bool false = .bool bb ∧ (bb = true → 2 < n ∧ n < 12) ∧ Bs B a len cap w bx a' n cap' L W ∧ Own W (bx + 1) v (dflV L)) := Lib.hid (fun W h1 h2 => ⟨false, rfl, fun h => (by cases h), h1, h2⟩)
    by_cases e0 : dflE L = 0
    · have e1 : (dflE L != 0) = false := by simpa using e0
      go_wp2_with fail
      go_meet
      exact F0.out _ B3.out O3.out
    · have e1 : (dflE L != 0) = true := by simpa using e0
      clear e0
      go_wp2_with fail
      refine (s_Next B a len cap _ _ B3.out.src (by omega) (by omega)).mono ?_
      rintro e w4 ⟨q, rfl, y0, y1, y2, src, gr⟩
      have B4 := Lib.hid (B3.out.call src gr)
      have O4 := Lib.hid (O3.out.keptB gr (by omega))
      have c4 := B4.out.box
      clear y1 y2 src gr B3 O3
      by_cases hq : 0 < q
      · by_cases h2 : 2 < n
        · by_cases h12 : n < 12
          · have g2 : (2 : Int) < (n : Int) := by omega
            have g12 : (n : Int) < 12 := by omega
            go_wp2_with fail
            go_meet
            exact ⟨_, rfl, fun _ => ⟨h2, h12⟩, B4.out, O4.out⟩
          · have g2 : (2 : Int) < (n : Int) := by omega
            have g12 : ¬ (n : Int) < 12 := by omega
            go_wp2_with fail
            go_meet
            exact ⟨_, rfl, fun h => ⟨h2, by have h := of_decide_eq_true h; omega⟩, B4.out, O4.out⟩
        · have g2 : ¬ (2 : Int) < (n : Int) := by omega
          go_wp2_with fail
          go_meet
          exact F0.out _ B4.out O4.out
      · go_wp2_with fail
        go_meet
        exact F0.out _ B4.out O4.out
  case rest =>
    obtain ⟨bb, rfl, hbb, hB4, hO4⟩ := hcut
    have B4 := Lib.hid hB4; have O4 := Lib.hid hO4
    clear B3 O3 hB4 hO4
    go_upto_if 34 with (fail)
    go_cut [5] from 16 (fun v W => BsE B a len cap w bx a' n cap' v W)
    case first =>
      cases bb
      · go_wp2_with fail
        go_meet
        exact ⟨L, _, B4.out, O4.out, dflV_le L⟩
      · obtain ⟨h2, h12⟩ := hbb rfl
        clear hbb O4
        obtain ⟨g, rfl, hr⟩ := B4.out.2.2.2.1 (by omega)
        have hg := B4.out.2.2.2.2.2.2.2.2 _ rfl (by omega)
        obtain ⟨hg1, hg2⟩ := hg
        simp only at hg1 hg2
        have R4 := Lib.hid hr
        clear hr
        go_wp2_with fail
        refine (s_DrawSegment B a len cap _ _ B4.out.src (by omega) (by omega)).mono ?_
        rintro e w5 ⟨sk, sl, sr, sa, sb, sc, sd, rfl, hk', hl', hr', ha', hb', hc', hd', src, gr⟩
        have B5 := Lib.hid (B4.out.call src gr)
        have R5 := Lib.hid (R4.out.grown gr (by omega))
        have SX := Lib.hid (show SmS ⟨sk, sl, sr, sa, sb, sc, sd⟩ from ⟨hk', hl', hr'.sb, ha', hb', hc', hd'⟩)
        clear gr src hk' hl' hr' ha' hb' hc' hd' R4 B4
        have T6 := Lib.hid (B5.out.1.box7 (.int .i64 sk) (.int .i64 sl) (.int .i64 sr) (.int .i64 sa) (.int .i64 sb) (.int .i64 sc) (.int .i64 sd) 27)
        have R6 := Lib.hid (R5.out.later ((Later.refl _).alloc (.cells #[.int .i64 sk, .int .i64 sl, .int .i64 sr, .int .i64 sa, .int .i64 sb, .int .i64 sc, .int .i64 sd] 27)))
        have z5 := B5.out.lts
        obtain ⟨q, hq⟩ : ∃ q, w5.heap.size = q := ⟨_, rfl⟩
        go_upto_region 5 with (fail)
        rw [hq] at T6 z5
        have Q6 : Hid (SgRow (w5.alloc (.cells #[.int .i64 sk, .int .i64 sl, .int .i64 sr, .int .i64 sa, .int .i64 sb, .int .i64 sc, .int .i64 sd] 27)) q 1 (flt [⟨sk, sl, sr, sa, sb, sc, sd⟩])) := Lib.hid ⟨by rw [← hq]; simp, fun j hj => by
          rcases seven_cases (show j < 7 by omega) with rfl | rfl | rfl | rfl | rfl | rfl | rfl
          · exact T6.out.at q 0 (.int .i64 sk) (by simp)
          · exact T6.out.at q 1 (.int .i64 sl) (by simp)
          · exact T6.out.at q 2 (.int .i64 sr) (by simp)
          · exact T6.out.at q 3 (.int .i64 sa) (by simp)
          · exact T6.out.at q 4 (.int .i64 sb) (by simp)
          · exact T6.out.at q 5 (.int .i64 sc) (by simp)
          · exact T6.out.at q 6 (.int .i64 sd) (by simp)⟩
        refine into (Bq B a len cap w bx q g n cap' L ⟨sk, sl, sr, sa, sb, sc, sd⟩) ⟨T6.out.fewer.fewer.fewer.fewer.fewer.fewer.fewer, R6.out, Q6.out⟩ ?_
        intro W hW
        have T := Lib.hid hW
        clear hW T6 R6 B5 R5 hq Q6
        have cb := (T.out.1.at bx 0 (.slice (some ⟨g, 0, none⟩) n cap') (by simp)).1
        obtain ⟨a2, f2⟩ := T.out.2.2.2 2 (by omega)
        have r2 := (T.out.2.1.2 2 (by omega)).1
        have hr0 : flt L 2 = (sx L 0).r := rfl
        rw [hr0] at r2
        obtain ⟨rr, hrr⟩ : ∃ rr, (sx L 0).r = rr := ⟨_, rfl⟩
        have SR : Hid (Sb rr) := Lib.hid (by rw [← hrr]; exact (SM.out _ (sx_mem L 0 (by rw [HL.out]; omega))).2.2.1)
        rw [hrr] at r2
        have sr1 := SR.out.1; have sr2 := SR.out.2
        obtain ⟨ab1, ab2⟩ := absI_bd rr 10000000 sr1 sr2
        clear hrr hr0
        go_upto_region 6 with (fail)
        refine into (Bq B a len cap w bx q g n cap' L ⟨sk, sl, rr, sa, sb, sc, sd⟩) (T.out.put (by omega) (by omega) (by omega) 2 rr (fun j hj => by rcases seven_cases hj with rfl | rfl | rfl | rfl | rfl | rfl | rfl <;> rfl)) ?_
        clear a2 f2 r2 cb T
        intro W7 hW
        have T := Lib.hid hW
        clear hW
        have PUT : Hid (∀ W8, Later W7 W8 → ∀ ml : Int, (-10500000 ≤ ml ∧ ml ≤ 10500000) → ∀ W9, Later (W8.setCell ⟨q, 1, none⟩ (.int .i64 ml)) W9 → ∃ ml', (-10500000 ≤ ml' ∧ ml' ≤ 10500000) ∧ Bq B a len cap w bx q g n cap' L ⟨sk, ml', rr, sa, sb, sc, sd⟩ W9) := Lib.hid (fun W8 hl ml hml W9 hl9 => ⟨ml, hml, ((T.out.later hl).put (by omega) (by omega) (by omega) 1 ml (fun j hj => by rcases seven_cases hj with rfl | rfl | rfl | rfl | rfl | rfl | rfl <;> rfl)).later hl9⟩)
        obtain ⟨a2, f2⟩ := T.out.2.2.2 2 (by omega)
        have a1 : W7.cell? ⟨q, 1, none⟩ = some (.int .i64 sl) := (T.out.2.2.2 1 (by omega)).1
        have f1 := (T.out.2.2.2 1 (by omega)).2
        have a2 : W7.cell? ⟨q, 2, none⟩ = some (.int .i64 rr) := a2
        have sl1 := SX.out.2.1.1; have sl2 := SX.out.2.1.2
        simp only at sl1 sl2
        go_cut [] from 43 to 49 (fun W => ∃ ml, (-10500000 ≤ ml ∧ ml ≤ 10500000) ∧ Bq B a len cap w bx q g n cap' L ⟨sk, ml, rr, sa, sb, sc, sd⟩ W)
        case first =>
          rename_i J K' hJ hK
          go_region_with (go_at_call 106; refine (s_Abs' rr _ (by omega) (by omega)).mono ?_; rintro e w' ⟨rfl, rfl⟩)
          all_goals
            refine hK _ _ (Met.intro (hJ _ _ ?_))
            (repeat apply Exists.intro)
            refine ⟨?_, rfl⟩
            first
              | refine PUT.out W7 (Later.refl _) _ ?_ _ (Later.refl _).drew
              | refine PUT.out W7 (Later.refl _) _ ?_ _ (Later.refl _)
              | refine PUT.out W7.drew (Later.refl _).drew _ ?_ _ (Later.refl _)
              | refine PUT.out W7.drew (Later.refl _).drew _ ?_ _ (Later.refl _).drew
            split <;> omega
        case rest =>
          obtain ⟨ml, hml, hT⟩ := hcut
          have T8 := Lib.hid hT
          obtain ⟨ml1, ml2⟩ := hml
          clear hT T PUT a1 a2 f1 f2
          have cb := (T8.out.1.at bx 0 (.slice (some ⟨g, 0, none⟩) n cap') (by simp)).1
          obtain ⟨x0, x1, x2, x3, x4, x5, x6⟩ : wc.cell? ⟨q, 0, none⟩ = some (.int .i64 sk) ∧ wc.cell? ⟨q, 1, none⟩ = some (.int .i64 ml) ∧ wc.cell? ⟨q, 2, none⟩ = some (.int .i64 rr) ∧ wc.cell? ⟨q, 3, none⟩ = some (.int .i64 sa) ∧ wc.cell? ⟨q, 4, none⟩ = some (.int .i64 sb) ∧ wc.cell? ⟨q, 5, none⟩ = some (.int .i64 sc) ∧ wc.cell? ⟨q, 6, none⟩ = some (.int .i64 sd) := ⟨(T8.out.2.2.2 0 (by omega)).1, (T8.out.2.2.2 1 (by omega)).1, (T8.out.2.2.2 2 (by omega)).1, (T8.out.2.2.2 3 (by omega)).1, (T8.out.2.2.2 4 (by omega)).1, (T8.out.2.2.2 5 (by omega)).1, (T8.out.2.2.2 6 (by omega)).1⟩
          obtain ⟨u0, u1, u2, u3', u4, u5', u6, k0, k1, k2, k3, k4, k5, k6, g0, g1, g2, g3, g4, g5, g6⟩ := T8.out.2.1.seven' 0 (by omega)
          simp only [Nat.zero_mul, Nat.zero_add] at k0 k1 k2 k3 k4 k5 k6 g0 g1 g2 g3 g4 g5 g6
          have RS : Hid (SgRow (((((((wc.setCell ⟨g, 0, none⟩ (.int .i64 sk)).setCell ⟨g, 1, none⟩ (.int .i64 ml)).setCell ⟨g, 2, none⟩ (.int .i64 rr)).setCell ⟨g, 3, none⟩ (.int .i64 sa)).setCell ⟨g, 4, none⟩ (.int .i64 sb)).setCell ⟨g, 5, none⟩ (.int .i64 sc)).setCell ⟨g, 6, none⟩ (.int .i64 sd)) g n (flt (L.set 0 ⟨sk, ml, rr, sa, sb, sc, sd⟩))) := Lib.hid (T8.out.2.1.putSet HL.out (by omega : 0 < n) ⟨sk, ml, rr, sa, sb, sc, sd⟩)
          have TS : Hid (St [(bx, 0, .slice (some ⟨g, 0, none⟩) n cap'), (w.heap.size, 0, .slice none 0 0)] B a len cap w (((((((wc.setCell ⟨g, 0, none⟩ (.int .i64 sk)).setCell ⟨g, 1, none⟩ (.int .i64 ml)).setCell ⟨g, 2, none⟩ (.int .i64 rr)).setCell ⟨g, 3, none⟩ (.int .i64 sa)).setCell ⟨g, 4, none⟩ (.int .i64 sb)).setCell ⟨g, 5, none⟩ (.int .i64 sc)).setCell ⟨g, 6, none⟩ (.int .i64 sd))) := by
            have hne : ∀ x ∈ [(bx, 0, Value.slice (some ⟨g, 0, none⟩) n cap'), (w.heap.size, 0, Value.slice none 0 0)], x.1 ≠ g := by
              intro x hx
              simp at hx
              rcases hx with rfl | rfl <;> simp <;> omega
            exact Lib.hid (((((((T8.out.1.set g _ _ (by omega) hne).set g _ _ (by omega) hne).set g _ _ (by omega) hne).set g _ _ (by omega) hne).set g _ _ (by omega) hne).set g _ _ (by omega) hne).set g _ _ (by omega) hne)
          have SY : Hid (SmS ⟨sk, sl, rr, sa, sb, sc, sd⟩) := Lib.hid ⟨SX.out.1, SX.out.2.1, SR.out, SX.out.2.2.2⟩
          have nq : q ≠ g := by omega
          have nb : bx ≠ g := by omega
          go_upto_region 8 with (fail)
          refine into (fun W => St [(bx, 0, .slice (some ⟨g, 0, none⟩) n cap'), (w.heap.size, 0, .slice none 0 0)] B a len cap w W ∧ SgRow W g n (flt (L.set 0 ⟨sk, ml, rr, sa, sb, sc, sd⟩))) ⟨TS.out, RS.out⟩ ?_
          clear TS RS T8 k0 k1 k2 k3 k4 k5 k6 g0 g1 g2 g3 g4 g5 g6 x0 x1 x2 x3 x4 x5 x6 cb
          rintro W9 ⟨hT, hR⟩
          have B9 : Hid (bx < W9.heap.size → Bs B a len cap w bx (some ⟨g, 0, none⟩) n cap' (L.set 0 ⟨sk, ml, rr, sa, sb, sc, sd⟩) W9) := Lib.hid (fun hz => ⟨hT, by omega, hz, fun _ => ⟨g, rfl, hR⟩, by rw [List.length_set]; exact HL.out, by omega, by omega, fun x hx => (List.mem_or_eq_of_mem_set hx).elim (fun h => ⟨smS_in (SM.out x h), (SM.out x h).w⟩) (fun e => by
            rw [e]
            have hin := smS_in SY.out
            refine ⟨fun j => ?_, ⟨ml1, ml2⟩⟩
            by_cases hj1 : j = 1
            · subst hj1; exact ⟨by show _ ≤ ml; omega, by show ml ≤ _; omega⟩
            · have hj := hin j
              unfold Sg.at at hj ⊢
              split <;> first | (exact hj) | (exact absurd rfl hj1) | (simp at hj ⊢; omega)), fun x hx _ => by cases hx; exact ⟨hg1, hg2⟩⟩)
          have cb := (hT.at bx 0 (.slice (some ⟨g, 0, none⟩) n cap') (by simp)).1
          have zb := (hT.szl bx 0 (.slice (some ⟨g, 0, none⟩) n cap') (by simp)).2
          have BB := Lib.hid (B9.out zb)
          clear hT hR B9
          go_wp2_with fail
          refine (s_DefaultBlocks (some ⟨g, 0, none⟩) n cap' _ _ BB.out.sgs).mono ?_
          rintro e w10 ⟨v', rfl, ho, hb⟩
          have BC := Lib.hid (BB.out.later hb)
          have OC := Lib.hid (ho.mono BB.out.lts)
          clear hb ho BB cb
          go_wp2_with fail
          go_meet
          exact ⟨_, _, BC.out, OC.out, dflV_le _⟩
    case rest =>
      obtain ⟨L5, F, hB5, hO5, h9⟩ := hcut
      have B5 := Lib.hid hB5
      obtain ⟨A, kf, rfl, hkf, hsl⟩ := hO5.slc
      have O5 := Lib.hid hO5; have S5 := Lib.hid hsl
      obtain ⟨m, hm⟩ : ∃ m, F.length = m := ⟨_, rfl⟩
      have HM := Lib.hid hm
      rw [hm] at O5 S5 hkf h9 ⊢
      clear hB5 hO5 hsl B4 O4 hbb hm SM HL
      go_upto_region 9 with (fail)
      go_cut [66] from 16 (fun b W => ∃ bb : Bool, b = .bool bb ∧ (bb = true → 2 < m) ∧ Bs B a len cap w bx a' n cap' L5 W ∧ Own W (bx + 1) (.slice A m kf) F)
      case first =>
        by_cases h2 : 2 < m
        · have g2 : (2 : Int) < (m : Int) := by omega
          go_wp2_with fail
          refine (s_Next B a len cap _ _ B5.out.src (by omega) (by omega)).mono ?_
          rintro e w6 ⟨q, rfl, y0, y1, y2, src, gr⟩
          have B6 := Lib.hid (B5.out.call src gr)
          have O6 := Lib.hid (O5.out.keptB gr (by omega))
          clear y0 y1 y2 src gr B5 O5
          go_wp2_with fail
          go_meet
          exact ⟨_, rfl, fun _ => h2, B6.out, O6.out⟩
        · have g2 : ¬ (2 : Int) < (m : Int) := by omega
          go_wp2_with fail
          go_meet
          exact ⟨false, rfl, fun h => (by cases h), B5.out, O5.out⟩
      case rest =>
        obtain ⟨bc, rfl, hbc, hB6, hO6⟩ := hcut
        have B6 := Lib.hid hB6; have O6 := Lib.hid hO6
        clear B5 O5 S5 hB6 hO6
        go_upto_if 66 with (fail)
        go_cut [5] from 16 (fun v W => BsE B a len cap w bx a' n cap' v W)
        case first =>
          cases bc
          · go_wp2_with fail
            go_meet
            exact ⟨L5, F, B6.out, O6.out, by rw [HM.out]; exact h9⟩
          · have h2 := hbc rfl
            clear hbc
            go_wp2_with fail
            refine (s_Next B a len cap _ _ B6.out.src (by omega) (by omega)).mono ?_
            rintro e w7 ⟨y, rfl, y0, y1, y2, src, gr⟩
            have B7 := Lib.hid (B6.out.call src gr)
            have O7 := Lib.hid (O6.out.keptB gr (by omega))
            have hy := y1 (by omega)
            obtain ⟨j, rfl⟩ := Int.eq_ofNat_of_zero_le y0
            clear y0 y1 y2 src gr B6 O6
            obtain ⟨s7, _⟩ := O7.out.sl3 HM.out
            obtain ⟨bF, oF, rfl, _⟩ := s7.at 0 (by omega)
            obtain ⟨t1, ht1⟩ : ∃ t : Nat, t = 1 + j := ⟨_, rfl⟩
            obtain ⟨t, ht⟩ : ∃ t : Nat, t = t1 + 1 := ⟨_, rfl⟩
            have SL1 : Hid (∀ W, Later w7 W → Sl W (some ⟨bF, oF, none⟩) t1 (F.take t1)) := Lib.hid (fun W h => sl_take (s7.later h) t1 (by omega))
            have SL2 : Hid (t < m → ∀ W, Later w7 W → Sl W (some ⟨bF, oF + t, none⟩) (m - t) (F.drop t)) := Lib.hid (fun ht W h => sl_drop (s7.later h) t ht)
            have HLT : Hid ((F.take t1).length = t1) := Lib.hid (by have := HM.out; simp; omega)
            have hwr0 : IntKind.i64.wrap (1 + (j : Int)) = (t1 : Int) := (IntWalk.i64_in _ (by omega)).trans (by omega)
            have hwr : IntKind.i64.wrap ((t1 : Int) + 1) = (t : Int) := (IntWalk.i64_in _ (by omega)).trans (by omega)
            have hk1 : (0 : Int) ≤ (t1 : Int) := by omega
            have hk2 : (t1 : Int) ≤ (m : Int) := by omega
            have hk2' : (t1 : Int) ≤ (kf : Int) := by omega
            have hk3 : (0 : Int) ≤ (t : Int) := by omega
            have hk4 : (t : Int) ≤ (m : Int) := by omega
            have hk5 : (t : Int) ≤ (kf : Int) := by omega
            have hz7 := B7.out.lts
            clear s7
            go_upto_region 11 with (fail)
            have ej : (1 : Int) + (j : Int) = (t1 : Int) := by omega
            rw [ej]
            clear ej hwr0
            have HML := HM.out
            have LEN : (F.take t1 ++ F.drop t).length ≤ 9 := by rw [List.length_append, List.length_take, List.length_drop]; omega
            by_cases hl3 : t < m
            · have hc2 : ¬ kf = t := by omega
              clear ht ht1
              go_region_law (first
                | (refine stepAll rfl (.tmp 76) (.tmp 80) rfl w7.heap.size _ (F.take t1) (F.drop t) ⟨bF, oF + t, none⟩ (m - t) (kf - t) O3.out (SL2.out hl3 _ H3.out) (by simp [Act.eval, Act.put]) (by simp [Act.eval, Act.put]) (by rw [HLT.out]; omega) hz3 ?_; intro v' w4 ho4 hg4; have B4 := Lib.hid ((B7.out.later H3.out).grow hg4 (fun k e => by have := (O3.out.lt k e).1; omega)); have O4 := Lib.hid (ho4.mono hz7); clear ho4 hg4)
                | (go_simp; go_at_call 129; refine (s_Own _ t1 kf _ _ (SL1.out _ (show Later w7 _ from (by repeat (first | (with_reducible exact Later.refl _) | (with_reducible exact Hid.out (by assumption)) | (with_reducible refine Later.alloc ?_ _) | (with_reducible refine Later.setCell ?_ (by simp; omega) _) | (with_reducible refine Later.setCell ?_ (by simp) _) | (with_reducible refine Later.drewN ?_ _) | (with_reducible refine Later.drew ?_) | (with_reducible refine Later.trans ?_ (Hid.out (by assumption))))))) (by omega) (fun h => by cases h)).mono ?_; rintro e w3 ⟨v, rfl, ho, hb3⟩; have H3 : Hid (Later w7 w3) := Lib.hid (Later.trans (by repeat (first | (with_reducible exact Later.refl _) | (with_reducible exact Hid.out (by assumption)) | (with_reducible refine Later.alloc ?_ _) | (with_reducible refine Later.setCell ?_ (by simp; omega) _) | (with_reducible refine Later.setCell ?_ (by simp) _) | (with_reducible refine Later.drewN ?_ _) | (with_reducible refine Later.drew ?_) | (with_reducible refine Later.trans ?_ (Hid.out (by assumption))))) hb3); have O3 := Lib.hid (ho.mono (show w7.heap.size ≤ _ from Nat.le_of_eq (by simp))); have hz3 := H3.out.size; clear hb3 ho))
              all_goals
                go_wp2_with fail
                go_meet
                exact ⟨L5, _, B4.out, O4.out, by first | exact LEN | (simp; omega)⟩
            · by_cases hct : kf = t
              · subst hct
                clear ht ht1
                go_region_law (first
                  | (refine stepAll rfl (.tmp 76) (.tmp 80) rfl w7.heap.size _ (F.take t1) [] ⟨bF, oF, none⟩ 0 0 O3.out (sl_zero _ _) (by simp [Act.eval, Act.put]) (by simp [Act.eval, Act.put]) (by rw [HLT.out]; omega) hz3 ?_; intro v' w4 ho4 hg4; have B4 := Lib.hid ((B7.out.later H3.out).grow hg4 (fun k e => by have := (O3.out.lt k e).1; omega)); have O4 := Lib.hid (ho4.mono hz7); clear ho4 hg4)
                  | (go_simp; go_at_call 129; refine (s_Own _ t1 kf _ _ (SL1.out _ (show Later w7 _ from (by repeat (first | (with_reducible exact Later.refl _) | (with_reducible exact Hid.out (by assumption)) | (with_reducible refine Later.alloc ?_ _) | (with_reducible refine Later.setCell ?_ (by simp; omega) _) | (with_reducible refine Later.setCell ?_ (by simp) _) | (with_reducible refine Later.drewN ?_ _) | (with_reducible refine Later.drew ?_) | (with_reducible refine Later.trans ?_ (Hid.out (by assumption))))))) (by omega) (fun h => by cases h)).mono ?_; rintro e w3 ⟨v, rfl, ho, hb3⟩; have H3 : Hid (Later w7 w3) := Lib.hid (Later.trans (by repeat (first | (with_reducible exact Later.refl _) | (with_reducible exact Hid.out (by assumption)) | (with_reducible refine Later.alloc ?_ _) | (with_reducible refine Later.setCell ?_ (by simp; omega) _) | (with_reducible refine Later.setCell ?_ (by simp) _) | (with_reducible refine Later.drewN ?_ _) | (with_reducible refine Later.drew ?_) | (with_reducible refine Later.trans ?_ (Hid.out (by assumption))))) hb3); have O3 := Lib.hid (ho.mono (show w7.heap.size ≤ _ from Nat.le_of_eq (by simp))); have hz3 := H3.out.size; clear hb3 ho))
                all_goals
                  go_wp2_with fail
                  go_meet
                  exact ⟨L5, _, B4.out, O4.out, by first | exact LEN | (simp; omega)⟩
              · have hc2 : ¬ kf = t := hct
                clear ht ht1
                go_region_law (first
                  | (refine stepAll rfl (.tmp 76) (.tmp 80) rfl w7.heap.size _ (F.take t1) [] ⟨bF, oF + t, none⟩ (m - t) (kf - t) O3.out (by rw [show m - t = 0 by omega]; exact sl_zero _ _) (by simp [Act.eval, Act.put]) (by simp [Act.eval, Act.put]) (by rw [HLT.out]; omega) hz3 ?_; intro v' w4 ho4 hg4; have B4 := Lib.hid ((B7.out.later H3.out).grow hg4 (fun k e => by have := (O3.out.lt k e).1; omega)); have O4 := Lib.hid (ho4.mono hz7); clear ho4 hg4)
                  | (go_simp; go_at_call 129; refine (s_Own _ t1 kf _ _ (SL1.out _ (show Later w7 _ from (by repeat (first | (with_reducible exact Later.refl _) | (with_reducible exact Hid.out (by assumption)) | (with_reducible refine Later.alloc ?_ _) | (with_reducible refine Later.setCell ?_ (by simp; omega) _) | (with_reducible refine Later.setCell ?_ (by simp) _) | (with_reducible refine Later.drewN ?_ _) | (with_reducible refine Later.drew ?_) | (with_reducible refine Later.trans ?_ (Hid.out (by assumption))))))) (by omega) (fun h => by cases h)).mono ?_; rintro e w3 ⟨v, rfl, ho, hb3⟩; have H3 : Hid (Later w7 w3) := Lib.hid (Later.trans (by repeat (first | (with_reducible exact Later.refl _) | (with_reducible exact Hid.out (by assumption)) | (with_reducible refine Later.alloc ?_ _) | (with_reducible refine Later.setCell ?_ (by simp; omega) _) | (with_reducible refine Later.setCell ?_ (by simp) _) | (with_reducible refine Later.drewN ?_ _) | (with_reducible refine Later.drew ?_) | (with_reducible refine Later.trans ?_ (Hid.out (by assumption))))) hb3); have O3 := Lib.hid (ho.mono (show w7.heap.size ≤ _ from Nat.le_of_eq (by simp))); have hz3 := H3.out.size; clear hb3 ho))
                all_goals
                  go_wp2_with fail
                  go_meet
                  exact ⟨L5, _, B4.out, O4.out, by first | exact LEN | (simp; omega)⟩
        case rest =>
          obtain ⟨L7, F7, hB7, hO7, h97⟩ := hcut
          have B7 := Lib.hid hB7
          obtain ⟨A7, k7, rfl, hk7, hsl⟩ := hO7.slc
          have O7 := Lib.hid hO7; have S7 := Lib.hid hsl
          obtain ⟨m7, hm⟩ : ∃ m, F7.length = m := ⟨_, rfl⟩
          have HM7 := Lib.hid hm
          rw [hm] at O7 S7 hk7 h97 ⊢
          clear hB7 hO7 hsl B6 O6 hbc hm HM hkf h9
          go_wp2_with fail
          refine (s_Next B a len cap _ _ B7.out.src (by omega) (by omega)).mono ?_
          rintro e w8 ⟨c, rfl, y0, y1, y2, src, gr⟩
          have B8 := Lib.hid (B7.out.call src gr)
          have O8 := Lib.hid (O7.out.keptB gr (by omega))
          have c8 := B8.out.box
          have c9 := (B8.out.1.at w.heap.size 0 (.slice none 0 0) (by simp)).1
          have f9 := (B8.out.1.at w.heap.size 0 (.slice none 0 0) (by simp)).2
          clear y0 y1 y2 src gr B7 O7 S7
          by_cases c0 : c = 0
          · subst c0
            clear c8 c9 f9
            go_wp2_with fail
            refine (s_Next B a len cap _ _ B8.out.src (by omega) (by omega)).mono ?_
            rintro e w9 ⟨y, rfl, y0, y1, y2, src, gr⟩
            have B9 := Lib.hid (B8.out.call src gr)
            have O9 := Lib.hid (O8.out.keptB gr (by omega))
            have hy := y1 (by omega)
            have z9 := B9.out.lts
            clear y1 y2 src gr B8 O8
            go_wp2_with (at_builtin; go_must (refine app1 rfl _ _ rfl (bx + 1) _ _ _ _ _ O9.out rfl rfl ⟨by omega, by omega⟩ (by rw [HM7.out]; omega) (by omega) ?_; intro v' w10 ho hg; have O10 := Lib.hid ho; have B10 := Lib.hid (B9.out.grow hg (fun k e => by have := (O9.out.lt k e).1; omega)); have c8 := B10.out.box; have c9 := (B10.out.1.at w.heap.size 0 (.slice none 0 0) (by simp)).1; have f9 := (B10.out.1.at w.heap.size 0 (.slice none 0 0) (by simp)).2; clear ho hg O9 B9))
            obtain ⟨A9, k9, rfl, hk9, s9⟩ := O10.out.slc
            refine bodyPost_ret (v := .tuple #[.agg #[.slice a' n cap'], .slice A9 (F7 ++ [y]).length k9]) (by simp [results, Try.results114, go_sem, *]) rfl (B10.out.done s9 hk9 (by rw [List.length_append, HM7.out]; simp; omega) (O10.out.sl3 rfl).2 _)
          have e0 : (c == 0) = false := by simpa using c0
          by_cases c1 : c = 1
          · subst c1
            obtain ⟨h, hh⟩ : ∃ h : Nat, h = m7 / 2 := ⟨_, rfl⟩
            have hdv : (m7 : Int).tdiv 2 = (h : Int) := by rw [Int.tdiv_eq_ediv_of_nonneg (by omega)]; omega
            have hq1 : (0 : Int) ≤ (h : Int) := by omega
            have hq2 : (h : Int) ≤ (k7 : Int) := by omega
            have hq3 : (h : Int) ≤ (m7 : Int) := by omega
            obtain ⟨s8, n8⟩ := O8.out.sl3 HM7.out
            have S8 := Lib.hid s8; have N8 := Lib.hid n8
            clear s8 n8
            go_wp2_with fail
            have S9 : Sl w8 A7 (m7 / 2) (F7.take (m7 / 2)) := by
              have s8 := S8.out
              rcases Nat.eq_zero_or_pos m7 with h | h
              · have e : F7 = [] := List.eq_nil_of_length_eq_zero (by rw [HM7.out]; exact h)
                rw [h, e] at s8 ⊢
                exact s8
              · obtain ⟨b, off, e, _⟩ := s8.at 0 h
                rw [e] at s8 ⊢
                exact sl_take s8 (m7 / 2) (by omega)
            exact bodyPost_ret (v := .tuple #[.agg #[.slice a' n cap'], .slice A7 (m7 / 2) k7]) (by simp [results, Try.results114, go_sem, *]) rfl (B8.out.done S9 (by omega) (by omega) N8.out _)
          have e1 : (c == 1) = false := by simpa using c1
          by_cases c2 : c = 2
          · subst c2
            clear c8 c9 f9
            go_wp2_with fail
            refine (s_Next B a len cap _ _ B8.out.src (by omega) (by omega)).mono ?_
            rintro e w9 ⟨y, rfl, y0, y1, y2, src, gr⟩
            have B9 := Lib.hid (B8.out.call src gr)
            have hy := y1 (by omega)
            clear y1 y2 src gr B8 O8
            have hsl := sl_new w9 [0, 1 + y] 2 (by simp) (by intro x hx; simp at hx; unfold InR; omega)
            have B10 : Hid (Bs B a len cap w bx a' n cap' L7 (w9.alloc (.cells #[.int .i64 0, .int .i64 (1 + y)] 2))) := Lib.hid (B9.out.later ((Later.refl _).alloc _))
            have S10 : Hid (Sl (w9.alloc (.cells #[.int .i64 0, .int .i64 (1 + y)] 2)) (some ⟨w9.heap.size, 0, none⟩) 2 [0, 1 + y]) := Lib.hid hsl
            have c8 := B10.out.box
            have c9 := (B10.out.1.at w.heap.size 0 (.slice none 0 0) (by simp)).1
            have f9 := (B10.out.1.at w.heap.size 0 (.slice none 0 0) (by simp)).2
            have z9 := B9.out.lts
            clear hsl
            go_wp2_with fail
            exact bodyPost_ret (v := .tuple #[.agg #[.slice a' n cap'], .slice (some ⟨w9.heap.size, 0, none⟩) 2 2]) (by simp [results, Try.results114, go_sem, *]) rfl (B10.out.done S10.out (by simp) (by simp) (fun x hx => by cases hx; exact z9) _)
          have e2 : (c == 2) = false := by simpa using c2
          clear c0 c1 c2
          go_wp2_with fail
          exact bodyPost_ret (v := .tuple #[.agg #[.slice a' n cap'], .slice A7 m7 k7]) (by simp [results, Try.results114, go_sem, *]) rfl (B8.out.done (O8.out.sl3 HM7.out).1 hk7 (by omega) (O8.out.sl3 HM7.out).2 _)
end Go.Proofs.Ytdhoiiejcmnmbaa
