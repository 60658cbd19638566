/- Drawn layouts: whatever is drawn, it is a slice of at most 26 segments with small fields, of the draw's own. -/
import Derived.Test.YtnmlkigpiaekjaaSgA
import Derived.Test.YtnmlkigpiaekjaaOwnS
import Derived.Test.YtnmlkigpiaekjaaSg2
namespace Go.Proofs.Ytnmlkigpiaekjaa
open Go.RowKit
set_option maxHeartbeats 4000000
set_option linter.unusedVariables false
set_option linter.unusedSimpArgs false
/-- a segment with small fields -/
def Sb (x : Int) : Prop := -10000000 ≤ x ∧ x ≤ 10000000
theorem sb0 : Sb 0 := ⟨by omega, by omega⟩
theorem Sm.sb {x : Int} (h : Sm x) : Sb x := ⟨by have := h.1; omega, by have := h.2; omega⟩
def SmS (x : Sg) : Prop := Sm x.k ∧ Sh x.l ∧ Sb x.r ∧ Sm x.a ∧ Sm x.b ∧ Sm x.c ∧ Sm x.d
theorem sm0 : Sm 0 := ⟨by omega, by omega⟩
theorem sm4 : Sm 4 := ⟨by omega, by omega⟩
theorem sm1 : Sm 1 := ⟨by omega, by omega⟩
theorem sh1 : Sh 1 := ⟨by omega, by omega⟩
theorem sm10 : Sm 10 := ⟨by omega, by omega⟩
theorem sm60 : Sm 60 := ⟨by omega, by omega⟩
theorem sbR {ml R : Int} (h : Sh ml) (k : -7000000 ≤ R ∧ R ≤ 7000000) : Sb (-R) := ⟨by omega, by omega⟩
theorem smS_in {x : Sg} (h : SmS x) : x.In := by
  obtain ⟨⟨_, _⟩, ⟨_, _⟩, ⟨_, _⟩, ⟨_, _⟩, ⟨_, _⟩, ⟨_, _⟩, _, _⟩ := h
  intro j
  unfold Sg.at
  split <;> constructor <;> omega
theorem St.grow {l : List (Nat × Nat × Value)} {B : Nat} {a : Option Addr} {len cap : Nat} {w0 W W1 : World} {row : Option Nat} (h : St l B a len cap w0 W) (hg : W.grownBy W1 row) (hr : ∀ k, row = some k → w0.heap.size ≤ k ∧ ∀ x ∈ l, x.1 ≠ k) : St l B a len cap w0 W1 := by
  have hB := h.lt
  have hle := h.le
  refine ⟨fun x hx => ?_, h.2.1, ?_, ?_⟩
  · obtain ⟨h1, h2, h3, h4⟩ := h.1 x hx
    have hne : row ≠ some x.1 := fun e => (hr _ e).2 x hx rfl
    exact ⟨h1, Nat.lt_of_lt_of_le h2 hg.size, hg.cell h3 (fun e => hne e.symm), by rw [World.frozen?_of_block (w := W) (hg.block x.1 h2 (fun e => hne e.symm))]; exact h4⟩
  · obtain ⟨⟨p, s, h1, h2, h3, hb⟩, hc⟩ := h.2.2.1
    refine ⟨⟨p, s, h1, h2, h3, by rw [← hb]; exact hg.block B (by omega) (fun e => by have := (hr B e.symm).1; omega)⟩, hc.1, fun k hk => ?_⟩
    obtain ⟨b, off, x, rfl, hne, hx, x0, x1⟩ := hc.2 k hk
    have hlow := h.2.1.low (by omega) ⟨b, off, none⟩ rfl
    exact ⟨b, off, x, rfl, hne, hg.cell hx (fun e => by have := (hr b e.symm).1; simp at hlow; omega), x0, x1⟩
  · refine ⟨hg.os.trans h.2.2.2.os, hg.tape.trans h.2.2.2.tape, hg.output.trans h.2.2.2.output, Nat.le_trans h.2.2.2.size hg.size, fun i hi hne => ?_⟩
    exact (hg.block i (by omega) (fun e => by have := (hr i e.symm).1; omega)).trans (h.2.2.2.block i hi hne)
/-- what a draw of a layout leaves -/
def DrawnLay (w : World) (B : Nat) (a : Option Addr) (len cap : Nat) (e : Ending) (w' : World) : Prop :=
  ∃ (a' : Option Addr) (n cap' : Nat) (L : List Sg), e = .returned (.agg #[.slice a' n cap']) ∧ Sgs w' a' n L ∧ n ≤ cap' ∧ n ≤ 26 ∧ (∀ x ∈ L, SmS x) ∧ (∀ x, a' = some x → w.heap.size ≤ x.block) ∧ Src w' B a len cap ∧ w.grownBy w' (some B)
/-- and that the row may be written -/
def Wrt (w : World) (a : Option Addr) (n : Nat) (L : List Sg) : Prop := 0 < n → ∃ g, a = some ⟨g, 0, none⟩ ∧ SgRow w g n (flt L)
def DrawnLayR (w : World) (B : Nat) (a : Option Addr) (len cap : Nat) (e : Ending) (w' : World) : Prop :=
  ∃ (a' : Option Addr) (n cap' : Nat) (L : List Sg), e = .returned (.agg #[.slice a' n cap']) ∧ Sgs w' a' n L ∧ n ≤ cap' ∧ n ≤ 26 ∧ (∀ x ∈ L, SmS x) ∧ (∀ x, a' = some x → w.heap.size ≤ x.block) ∧ Src w' B a len cap ∧ w.grownBy w' (some B) ∧ Wrt w' a' n L
theorem SgRow.part {w : World} {g n k : Nat} {L : List Sg} (h : SgRow w g n (flt L)) (hk : k ≤ n) : SgRow w g k (flt (L.take k)) :=
  ⟨h.1, fun j hj => by
    have e : flt (L.take k) j = flt L j := by unfold flt; rw [sx_take L k (j / 7) (by omega)]
    rw [e]; exact h.2 j (by omega)⟩
theorem two_mem {x y z : Sg} (h : x ∈ [y, z]) : x = y ∨ x = z := by simpa using h
theorem made7' (n j : Nat) (h : j < n * 7) : ((madeCells (Value.cells (.agg #[.int .i64 0, .int .i64 0, .int .i64 0, .int .i64 0, .int .i64 0, .int .i64 0, .int .i64 0])) (n * 7)).toList)[j]? = some (.int .i64 0) := by
  have e : j % 7 = 0 ∨ j % 7 = 1 ∨ j % 7 = 2 ∨ j % 7 = 3 ∨ j % 7 = 4 ∨ j % 7 = 5 ∨ j % 7 = 6 := by omega
  rcases e with e | e | e | e | e | e | e <;> simp [madeCells, Value.cells, h, e]
theorem absI_bd (n : Int) (m : Int) (h0 : -m ≤ n) (h1 : n ≤ m) : 0 ≤ absI n ∧ absI n ≤ m := by unfold absI; split <;> omega
theorem mem_take {L : List Sg} {k : Nat} {P : Sg → Prop} (h : ∀ x ∈ L, P x) : ∀ x ∈ L.take k, P x := fun x hx => h x (List.mem_of_mem_take hx)
theorem Sgs.take {w : World} {a : Option Addr} {n : Nat} {L : List Sg} (h : Sgs w a n L) (k : Nat) (hk : k ≤ n) : Sgs w a k (L.take k) := by
  obtain ⟨h1, h2, h3, h4⟩ := h
  refine ⟨by rw [List.length_take]; omega, by omega, fun i hi => ?_, fun x hx => h4 x (List.mem_of_mem_take hx)⟩
  obtain ⟨b, off, e, hc⟩ := h3 i (by omega)
  exact ⟨b, off, e, fun j hj => by rw [sx_take L k i hi]; exact hc j hj⟩
/-- the segment that leads back, in its box -/
def BackBox (B : Nat) (a : Option Addr) (len cap : Nat) (w : World) (v : Value) (L : List Sg) (R : Int) (s7 : Value) (W : World) : Prop :=
  ∃ (g : Nat) (ml : Int), s7 = .pointer (some ⟨g, 0, none⟩) ∧ Sh ml ∧ St [(g, 0, .int .i64 0), (g, 1, .int .i64 ml), (g, 2, .int .i64 (-R)), (g, 3, .int .i64 10), (g, 4, .int .i64 60), (g, 5, .int .i64 0), (g, 6, .int .i64 0), (w.heap.size, 0, .slice none 0 0)] B a len cap w W ∧ OwnS W (w.heap.size + 1) v L
set_option maxRecDepth 100000 in
theorem s_DrawR (B : Nat) (a : Option Addr) (len cap : Nat) (w : World) (hs : Src w B a len cap) :
    Calls Try.prog 70 #[.pointer (some ⟨B, 0, none⟩)] w (DrawnLayR w B a len cap) := by
  have HS := Lib.hid hs
  have hB := hs.lt
  clear hs
  go_enter Try.func70, Try.ntmps70
  go_wp2_with fail
  have T0 := Lib.hid (((St.begin HS.out).box1 (.slice none 0 0) 26).alloc (.cells #[] 77))
  have O0 : Hid (OwnS ((w.alloc (.cells #[.slice none 0 0] 26)).alloc (.cells #[] 77)) (w.heap.size + 1) (.slice (some ⟨w.heap.size + 1, 0, none⟩) 0 0) []) := Lib.hid (by have h := ownS_new (w.alloc (.cells #[.slice none 0 0] 26)) (w.heap.size + 1) (by rw [World.size_alloc]; exact Nat.le_refl _); rw [World.size_alloc] at h; exact h)
  refine (s_Next B a len cap _ _ T0.out.src (by omega) (by omega)).mono ?_
  rintro e w1 ⟨n0, rfl, x0, x1, x2, src, gr⟩
  have T1 := Lib.hid (T0.out.call src gr)
  have O1 := Lib.hid (O0.out.kept2 gr (fun k hk e => by have := (O0.out.lt k hk).1; have := Option.some.inj e; omega))
  have hx := x1 (by omega)
  obtain ⟨m0, rfl⟩ := Int.eq_ofNat_of_zero_le x0
  clear gr src x1 x2 O0
  go_wp2_with fail
  go_loopw [3, 4, 5] (fun v rr i wr => ∃ (k : Nat) (L : List Sg) (R : Int), i = .int .i64 k ∧ rr = .int .i64 R ∧ L.length + k ≤ 7 ∧ -1000000 * (L.length : Int) ≤ R ∧ R ≤ 1000000 * (L.length : Int) ∧ OwnS wr (w.heap.size + 1) v L ∧ (∀ x ∈ L, SmS x) ∧ St [(w.heap.size, 0, .slice none 0 0)] B a len cap w wr) (fun _ _ i _ => (intOf i).toNat)
  case atStart => exact ⟨1 + m0, [], 0, congrArg (Value.int .i64) (by omega), rfl, by simp; omega, by simp, by simp, O1.out, fun x hx => by simp at hx, T1.out⟩
  case round =>
    clear O1 T1 T0
    obtain ⟨k, L, R, rfl, rfl, hlk, hR1, hR2, ho, hsm, hT⟩ := hrel
    have O := Lib.hid ho; have T := Lib.hid hT; have SM := Lib.hid hsm
    clear ho hT hsm
    by_cases hk : 0 < k
    · go_wp2_with fail
      have hlv := sl_new wr [0, 0, 0, 1, 2, 3, 3] 2 (by simp) (by intro x hx; simp at hx; unfold InR; omega)
      refine (s_Pick B a len cap ⟨wr.heap.size, 0, none⟩ 7 7 _ _ (T.out.src.alloc _) hlv (by have := T.out.src.lt; show wr.heap.size ≠ B; omega) (by omega)).mono ?_
      rintro e w4 ⟨v, rfl, hrv, src, gr⟩
      have T4 := Lib.hid ((T.out.alloc _).call src gr)
      have O4 := Lib.hid ((O.out.below ((Later.refl _).alloc _)).kept2 gr (fun k hk e => by have := (O.out.lt k hk).1; have := Option.some.inj e; omega))
      have hv : 0 ≤ v ∧ v ≤ 4 := by simp at hrv; omega
      obtain ⟨v0, v1⟩ := hv
      clear gr src hlv hrv
      go_wp2_with fail
      refine (s_DrawSegment B a len cap _ _ T4.out.src v0 v1).mono ?_
      rintro e w5 ⟨sk, sl, sr, sa, sb, sc, sd, rfl, hk', hl', hr', ha', hb', hc', hd', src, gr⟩
      have T5 := Lib.hid (T4.out.call src gr)
      have O5 := Lib.hid (O4.out.kept2 gr (fun k hk e => by have := (O4.out.lt k hk).1; have := Option.some.inj e; omega))
      have T6 := Lib.hid (T5.out.alloc (.cells #[.int .i64 sk, .int .i64 sl, .int .i64 sr, .int .i64 sa, .int .i64 sb, .int .i64 sc, .int .i64 sd] 77))
      have O6 := Lib.hid (O5.out.below ((Later.refl _).alloc (.cells #[.int .i64 sk, .int .i64 sl, .int .i64 sr, .int .i64 sa, .int .i64 sb, .int .i64 sc, .int .i64 sd] 77)))
      have SX := Lib.hid (show SmS ⟨sk, sl, sr, sa, sb, sc, sd⟩ from ⟨hk', hl', hr'.sb, ha', hb', hc', hd'⟩)
      have b6 : w.heap.size + 1 ≤ (w5.alloc (.cells #[.int .i64 sk, .int .i64 sl, .int .i64 sr, .int .i64 sa, .int .i64 sb, .int .i64 sc, .int .i64 sd] 77)).heap.size := by have := T5.out.le; rw [World.size_alloc]; omega
      obtain ⟨r1, r2⟩ := hr'
      clear gr src hk' hl' ha' hb' hc' hd' O4 O5 v0 v1
      go_wp2_with (at_builtin; go_must (refine appS rfl _ _ rfl (w.heap.size + 1) _ _ _ L [⟨sk, sl, sr, sa, sb, sc, sd⟩] 1 _ rfl rfl O6.out rfl (by first | rfl | (rw [World.size_alloc]; rfl)) (fun x hx => by simp at hx; subst hx; exact smS_in SX.out) (by omega) b6 ?_; intro v' w7 ho hg))
      have O7 := Lib.hid ho
      have T7 := Lib.hid (T6.out.grow hg (fun j hj => by have := (O6.out.lt j hj).1; exact ⟨by omega, fun x hx => by simp at hx; subst hx; simp; omega⟩))
      clear ho hg O6 T6 T5 T4 b6
      go_roundw
      case rel => exact ⟨k - 1, L ++ [⟨sk, sl, sr, sa, sb, sc, sd⟩], R + sr, congrArg (Value.int .i64) (by omega), rfl, by simp; omega, by simp; omega, by simp; omega, O7.out, (fun x hx => (List.mem_append.1 hx).elim (SM.out x) (fun h => by simp at h; subst h; exact SX.out)), T7.out⟩
      case measure => simp [intOf]; omega
    · obtain rfl : k = 0 := by omega
      have hl7 : L.length ≤ 7 := by omega
      obtain ⟨ab1, ab2⟩ := absI_bd R 7000000 (by omega) (by omega)
      have BB : ∀ ml : Int, Sh ml → BackBox B a len cap w u3 L R (.pointer (some ⟨wr.heap.size, 0, none⟩)) (wr.alloc (.cells #[.int .i64 0, .int .i64 ml, .int .i64 (-R), .int .i64 10, .int .i64 60, .int .i64 0, .int .i64 0] 77)) :=
        fun ml hml => ⟨wr.heap.size, ml, rfl, hml, T.out.box7 _ _ _ _ _ _ _ _, O.out.below ((Later.refl _).alloc _)⟩
      have BH := Lib.hid BB
      clear BB
      go_upto_region 9 with (fail)
      go_cut [7] (BackBox B a len cap w u3 L R)
      case first =>
        go_wp2_with (go_at_call 94; refine (s_Abs' R _ (by omega) (by omega)).mono ?_; rintro e w' ⟨rfl, rfl⟩)
        all_goals
          go_meet
          exact BH.out _ ⟨by omega, by omega⟩
      case rest =>
        obtain ⟨g, ml, rfl, hml, hT, ho⟩ := hcut
        have T7 := Lib.hid hT; have O7 := Lib.hid ho; have HM := Lib.hid hml
        have RB := Lib.hid (show -7000000 ≤ R ∧ R ≤ 7000000 from by omega)
        clear hT ho hml BH T O ab1 ab2
        go_wp2_with fail
        refine (s_DrawSegment B a len cap _ _ T7.out.src (by omega) (by omega)).mono ?_
        rintro e w8 ⟨sk, sl, sr, sa, sb, sc, sd, rfl, hk', hl', hr', ha', hb', hc', hd', src, gr⟩
        have T8 := Lib.hid (T7.out.call src gr)
        have O8 := Lib.hid (O7.out.kept2 gr (fun k hk e => by have := (O7.out.lt k hk).1; have := Option.some.inj e; omega))
        have SX := Lib.hid (show SmS ⟨sk, sl, 0, sa, sb, sc, sd⟩ from ⟨hk', hl', sb0, ha', hb', hc', hd'⟩)
        have SY := Lib.hid (show SmS ⟨0, ml, -R, 10, 60, 0, 0⟩ from ⟨sm0, HM.out, sbR HM.out RB.out, sm10, sm60, sm0, sm0⟩)
        have z7 : g < w8.heap.size := (T8.out.szl g 0 (.int .i64 0) (by simp)).2
        have z6 : w.heap.size ≤ g := (T8.out.szl g 0 (.int .i64 0) (by simp)).1
        have z8 := T8.out.le
        have a0 := (T8.out.at g 0 (.int .i64 0) (by simp)).1
        have a1 := (T8.out.at g 1 (.int .i64 ml) (by simp)).1
        have a2 := (T8.out.at g 2 (.int .i64 (-R)) (by simp)).1
        have a3 := (T8.out.at g 3 (.int .i64 10) (by simp)).1
        have a4 := (T8.out.at g 4 (.int .i64 60) (by simp)).1
        have a5 := (T8.out.at g 5 (.int .i64 0) (by simp)).1
        have a6 := (T8.out.at g 6 (.int .i64 0) (by simp)).1
        clear gr src hk' hl' ha' hb' hc' hd' O7 T7 hr'
        go_wp2_with (at_builtin; go_must (refine appS rfl _ _ rfl (w.heap.size + 1) _ _ _ L [⟨0, ml, -R, 10, 60, 0, 0⟩, ⟨sk, sl, 0, sa, sb, sc, sd⟩] 2 _ rfl rfl (O8.out.below (by repeat (first | (with_reducible exact Later.refl _) | (with_reducible refine Later.alloc ?_ _) | (with_reducible refine Later.setCell ?_ (by simp) _) | (with_reducible refine Later.drewN ?_ _) | (with_reducible refine Later.drew ?_) | (with_reducible refine Later.trans ?_ (Hid.out (by assumption)))))) rfl (by first | rfl | (simp; done) | (rw [World.size_alloc]; rfl)) (fun x hx => (two_mem hx).elim (fun e => by rw [e]; exact smS_in SY.out) (fun e => by rw [e]; exact smS_in SX.out)) (by omega) (by simp; omega) ?_; intro v' w9 ho hg; have O9 := Lib.hid ho; have T9 := Lib.hid ((T8.out.fewer.fewer.fewer.fewer.fewer.fewer.fewer.later (by repeat (first | (with_reducible exact Later.refl _) | (with_reducible refine Later.alloc ?_ _) | (with_reducible refine Later.setCell ?_ (by simp) _) | (with_reducible refine Later.drewN ?_ _) | (with_reducible refine Later.drew ?_) | (with_reducible refine Later.trans ?_ (Hid.out (by assumption)))))).grow hg (fun j hj => by have := (O8.out.lt j hj).1; exact ⟨by omega, fun x hx => by simp at hx; subst hx; simp; omega⟩)); clear ho hg a0 a1 a2 a3 a4 a5 a6))
        have SM2 : Hid (∀ x ∈ L ++ [⟨0, ml, -R, 10, 60, 0, 0⟩, ⟨sk, sl, 0, sa, sb, sc, sd⟩], SmS x) := Lib.hid (fun x hx => (List.mem_append.1 hx).elim (SM.out x) (fun h => (two_mem h).elim (fun e => by rw [e]; exact SY.out) (fun e => by rw [e]; exact SX.out)))
        obtain ⟨M, hM⟩ : ∃ M, M = L ++ [⟨0, ml, -R, 10, 60, 0, 0⟩, ⟨sk, sl, 0, sa, sb, sc, sd⟩] := ⟨_, rfl⟩
        have hMl : M.length = L.length + 2 := by rw [hM]; simp
        rw [← hM] at O9 SM2
        obtain ⟨n, hn⟩ : ∃ n, n = M.length := ⟨_, rfl⟩
        have hn2 : 2 ≤ n ∧ n ≤ 9 := by omega
        obtain ⟨n2, n9⟩ := hn2
        have HN := Lib.hid hn
        have fin : ∀ (W : World), St [(w.heap.size, 0, .slice none 0 0)] B a len cap w W → ∀ u : Value, Hid (Src (W.setCell ⟨w.heap.size, 0, none⟩ u) B a len cap ∧ w.grownBy (W.setCell ⟨w.heap.size, 0, none⟩ u) (some B)) := by
          intro W hW u
          have h := hW.bare.set w.heap.size 0 u (Nat.le_refl _) (by simp)
          exact Lib.hid ⟨h.src, h.grown⟩
        have FIN := Lib.hid fin
        clear fin hM hMl hn SX SY O8 T8 SM RB HM z6 z7 z8 HS hlk hR1 hR2 hx hk hl7
        go_wp2_with fail
        refine (s_Next B a len cap _ _ T9.out.src (by omega) (by omega)).mono ?_
        rintro e w10 ⟨c, rfl, x0, x1, x2, src, gr⟩
        have T10 := Lib.hid (T9.out.call src gr)
        have O10 := Lib.hid (O9.out.kept2 gr (fun k hk e => by have := (O9.out.lt k hk).1; have := Option.some.inj e; omega))
        clear gr src x1 x2 O9 T9
        rcases O10.out.row with ⟨_, e⟩ | ⟨g9, cap9, rfl, hc9, hm9, hb9, hr9⟩
        · rw [e] at HN; have := HN.out; simp at this; omega
        have R10 := Lib.hid hr9
        rw [← HN.out] at R10 hc9
        have hcell := (T10.out.at w.heap.size 0 (.slice none 0 0) (by simp))
        obtain ⟨hc0, hf0⟩ := hcell
        have z10 : w.heap.size < w10.heap.size := (T10.out.szl w.heap.size 0 (.slice none 0 0) (by simp)).2
        rw [show M.length = n from HN.out.symm]
        clear hr9 O10
        by_cases c0 : c = 0
        · subst c0
          clear hc0 hf0
          go_wp2_with fail
          refine (s_Next B a len cap _ _ T10.out.src (by omega) (by omega)).mono ?_
          rintro e w11 ⟨q, rfl, y0, y1, y2, src, gr⟩
          have T11 := Lib.hid (T10.out.call src gr)
          have hBT := T10.out.lt
          have R11 := Lib.hid (R10.out.grown gr (by omega))
          have hq := y1 (by omega)
          obtain ⟨i, rfl⟩ := Int.eq_ofNat_of_zero_le y0
          have hi : i < n := by omega
          clear gr src y1 y2 y0 hq R10 T10
          go_wp2_with fail
          refine (s_DrawAny B a len cap _ T11.out.src).mono ?_
          rintro e w12 ⟨sk', sl', sr', sa', sb', sc', sd', rfl, hk', hl', hr', ha', hb', hc', hd', src, gr⟩
          have T12 := Lib.hid (T11.out.call src gr)
          have R12 := Lib.hid (R11.out.grown gr (by omega))
          have SX := Lib.hid (show SmS ⟨sk', sl', sr', sa', sb', sc', sd'⟩ from ⟨hk', hl', hr'.sb, ha', hb', hc', hd'⟩)
          obtain ⟨hc0, hf0⟩ := (T12.out.at w.heap.size 0 (.slice none 0 0) (by simp))
          obtain ⟨u0, u1, u2, u3', u4, u5, u6, k0, k1, k2, k3, k4, k5, k6, g0, g1, g2, g3, g4, g5, g6⟩ := R12.out.seven' i hi
          have RS := Lib.hid (R12.out.putSet HN.out.symm hi ⟨sk', sl', sr', sa', sb', sc', sd'⟩)
          have TS : Hid (St [(w.heap.size, 0, .slice none 0 0)] B a len cap w (((((((w12.setCell ⟨g9, i * 7, none⟩ (.int .i64 sk')).setCell ⟨g9, i * 7 + 1, none⟩ (.int .i64 sl')).setCell ⟨g9, i * 7 + 2, none⟩ (.int .i64 sr')).setCell ⟨g9, i * 7 + 3, none⟩ (.int .i64 sa')).setCell ⟨g9, i * 7 + 4, none⟩ (.int .i64 sb')).setCell ⟨g9, i * 7 + 5, none⟩ (.int .i64 sc')).setCell ⟨g9, i * 7 + 6, none⟩ (.int .i64 sd'))) := by
            have hne : ∀ x ∈ [(w.heap.size, 0, Value.slice none 0 0)], x.1 ≠ g9 := by intro x hx; simp at hx; subst hx; simp; omega
            exact Lib.hid (((((((T12.out.set g9 _ _ (by omega) hne).set g9 _ _ (by omega) hne).set g9 _ _ (by omega) hne).set g9 _ _ (by omega) hne).set g9 _ _ (by omega) hne).set g9 _ _ (by omega) hne).set g9 _ _ (by omega) hne)
          have hnew : w.heap.size ≠ g9 := by omega
          have hnew2 : g9 ≠ w.heap.size := by omega
          clear gr src hk' hl' hr' ha' hb' hc' hd' R11 T11 hc0 hf0
          go_upto_region 26 with (fail)
          refine into (fun W => St [(w.heap.size, 0, .slice none 0 0)] B a len cap w W ∧ SgRow W g9 n (flt (M.set i ⟨sk', sl', sr', sa', sb', sc', sd'⟩))) ⟨TS.out, RS.out⟩ ?_
          rintro W ⟨hTW, hRW⟩
          have TW := Lib.hid hTW; have RW := Lib.hid hRW
          obtain ⟨hc0, hf0⟩ := (hTW.at w.heap.size 0 (.slice none 0 0) (by simp))
          clear hTW hRW RS TS R12 T12 k0 k1 k2 k3 k4 k5 k6 g0 g1 g2 g3 g4 g5 g6
          go_wp2_with fail
          refine bodyPost_ret (v := .agg #[.slice (some ⟨g9, 0, none⟩) n cap9]) (by simp [results, Try.results70, go_sem, *]) rfl ⟨some ⟨g9, 0, none⟩, n, cap9, (M.set i ⟨sk', sl', sr', sa', sb', sc', sd'⟩), rfl, ?_, hc9, by omega, ?_, ?_, ?_⟩
          · exact (SgRow.far RW.out (by simpa using hnew) _).sgs (by rw [List.length_set]; exact HN.out.symm) (by omega) (fun x hx => (List.mem_or_eq_of_mem_set hx).elim (fun h => smS_in (SM2.out x h)) (fun e => by rw [e]; exact smS_in SX.out))
          · exact fun x hx => (List.mem_or_eq_of_mem_set hx).elim (SM2.out x) (fun e => by rw [e]; exact SX.out)
          · exact fun x hx => by cases hx; exact Nat.le_of_succ_le hb9
          · exact ⟨(FIN.out _ TW.out _).out.1, (FIN.out _ TW.out _).out.2, fun _ => ⟨g9, rfl, SgRow.far RW.out (by simpa using hnew) _⟩⟩
        have e0 : (c == 0) = false := by simpa using c0
        have S10 := Lib.hid (R10.out.sgs HN.out.symm (by omega) (fun x hx => smS_in (SM2.out x hx)))
        have hnew2 : w.heap.size ≠ g9 := by omega
        by_cases c1 : c = 1
        · subst c1
          go_wp2_with fail
          refine bodyPost_ret (v := .agg #[.slice (some ⟨g9, 0, none⟩) (n - 1) cap9]) (by simp [results, Try.results70, go_sem, *]) rfl ⟨some ⟨g9, 0, none⟩, n - 1, cap9, M.take (n - 1), rfl, ?_, by omega, by omega, mem_take SM2.out, (fun x hx => by cases hx; exact Nat.le_of_succ_le hb9), ?_⟩
          · exact ((R10.out.far (by simpa using hnew2) _).sgs HN.out.symm (by omega) (fun x hx => smS_in (SM2.out x hx))).take (n - 1) (by omega)
          · exact ⟨(FIN.out _ T10.out _).out.1, (FIN.out _ T10.out _).out.2, fun _ => ⟨g9, rfl, (R10.out.far (by simpa using hnew2) _).part (by omega)⟩⟩
        have e1 : (c == 1) = false := by simpa using c1
        by_cases c3 : c = 3
        · subst c3
          go_wp2_with fail
          refine bodyPost_ret (v := .agg #[.slice none 0 0]) (by simp [results, Try.results70, go_sem, *]) rfl ⟨none, 0, 0, [], rfl, Sgs.nil _ _, by omega, by omega, fun x hx => by simp at hx, (fun x hx => by cases hx), ?_⟩
          exact ⟨(FIN.out _ T10.out _).out.1, (FIN.out _ T10.out _).out.2, fun h => absurd h (by omega)⟩
        have e3 : (c == 3) = false := by simpa using c3
        by_cases c2 : c = 2
        · subst c2
          clear hc0 hf0
          obtain ⟨i0, hi, hz0, hz1, hz2⟩ := info_parts info_sg
          have HI := Lib.hid hi; clear hi
          have HZ0 := Lib.hid hz0; clear hz0
          have HZ1 := Lib.hid hz1; clear hz1
          have HZ2 := Lib.hid hz2; clear hz2
          go_wp2_with fail
          refine (s_Next B a len cap _ _ T10.out.src (by omega) (by omega)).mono ?_
          rintro e w11 ⟨q, rfl, y0, y1, y2, src, gr⟩
          have T11 := Lib.hid (T10.out.call src gr)
          have hq := y1 (by omega)
          obtain ⟨m, rfl⟩ := Int.eq_ofNat_of_zero_le y0
          have z11 : w.heap.size < w11.heap.size := (T11.out.szl w.heap.size 0 (.slice none 0 0) (by simp)).2
          clear gr src y1 y2 y0 R10 T10 S10
          go_wp2_with (refine wpList_make_full _ rfl _ _ _ rfl w.heap.size 77 i0 (.agg #[.int .i64 0, .int .i64 0, .int .i64 0, .int .i64 0, .int .i64 0, .int .i64 0, .int .i64 0]) 7 Try.underlying24 HI.out HZ0.out HZ1.out _ _ _ _ (24 + m) rfl rfl (by omega) (by omega) (by rw [HZ2.out]; omega) (by unfold maxLen; omega) (by omega) ?_; intro w12 hown hgrow)
          have T12 := Lib.hid (T11.out.grow hgrow (fun j h => by cases h))
          have LE : Hid (∀ k, k < 24 + m → sx (List.replicate (24 + m) ⟨4, 1, 0, 0, 0, 1, 1⟩) k = ⟨4, 1, 0, 0, 0, 1, 1⟩) := Lib.hid (fun k hk => by simp [sx, hk])
          have R12 : Hid (SgRow w12 w11.heap.size (24 + m) (fltK (List.replicate (24 + m) ⟨4, 1, 0, 0, 0, 1, 1⟩) 0)) := Lib.hid ((SgRow.of_own hown (fun j hj => made7' (24 + m) j hj)).congr (fun j hj => by unfold fltK; rw [if_neg (by omega)]))
          clear hown hgrow T11
          go_loopw [9] (fun ix wr => ∃ k : Nat, k ≤ 24 + m ∧ ix = .int .i64 k ∧ SgRow wr w11.heap.size (24 + m) (fltK (List.replicate (24 + m) ⟨4, 1, 0, 0, 0, 1, 1⟩) k) ∧ St [(w.heap.size, 0, .slice none 0 0)] B a len cap w wr) (fun ix _ => 24 + m - (intOf ix).toNat)
          case atStart => exact ⟨0, by omega, rfl, R12.out, T12.out⟩
          case round =>
            clear R12 T12
            obtain ⟨k, hk, rfl, hr, ht⟩ := hrel
            have RR := Lib.hid hr; have TT := Lib.hid ht
            clear hr ht
            by_cases hlt : k < 24 + m
            · obtain ⟨u0, u1, u2, u3', u4, u5, u6, k0, k1, k2, k3, k4, k5, k6, g0, g1, g2, g3, g4, g5, g6⟩ := RR.out.seven' k hlt
              go_wp2_with fail
              go_roundw
              case rel =>
                refine ⟨k + 1, by omega, by go_num, ?_, ?_⟩
                · have h := RR.out.putK hlt
                  rw [LE.out k hlt] at h
                  exact h
                · have hne : ∀ x ∈ [(w.heap.size, 0, Value.slice none 0 0)], x.1 ≠ w11.heap.size := by intro x hx; simp at hx; subst hx; simp; omega
                  exact ((((((TT.out.set w11.heap.size _ _ (by omega) hne).set w11.heap.size _ _ (by omega) hne).set w11.heap.size _ _ (by omega) hne).set w11.heap.size _ _ (by omega) hne).set w11.heap.size _ _ (by omega) hne).set w11.heap.size _ _ (by omega) hne).set w11.heap.size _ _ (by omega) hne
              case measure => simp [intOf]; omega
            · obtain rfl : k = 24 + m := by omega
              have RE := Lib.hid (RR.out.congr (f' := flt (List.replicate (24 + m) ⟨4, 1, 0, 0, 0, 1, 1⟩)) (fun j hj => by unfold fltK; rw [if_pos hj]))
              have hnew : w.heap.size ≠ w11.heap.size := by omega
              obtain ⟨hc0, hf0⟩ := (TT.out.at w.heap.size 0 (.slice none 0 0) (by simp))
              have SR : Hid (SmS ⟨4, 1, 0, 0, 0, 1, 1⟩) := Lib.hid ⟨sm4, sh1, sb0, sm0, sm0, sm1, sm1⟩
              clear RR
              go_wp2_with fail
              refine bodyPost_ret (v := .agg #[.slice (some ⟨w11.heap.size, 0, none⟩) (24 + m) (24 + m)]) (by simp [results, Try.results70, go_sem, *]) rfl ⟨some ⟨w11.heap.size, 0, none⟩, 24 + m, 24 + m, List.replicate (24 + m) ⟨4, 1, 0, 0, 0, 1, 1⟩, rfl, ?_, Nat.le_refl _, by omega, (fun x hx => by rw [List.eq_of_mem_replicate hx]; exact SR.out), (fun x hx => by cases hx; exact Nat.le_of_lt z11), ?_⟩
              · exact (RE.out.far (by simpa using hnew) _).sgs (by simp) (by omega) (fun x hx => by rw [List.eq_of_mem_replicate hx]; exact smS_in SR.out)
              · exact ⟨(FIN.out _ TT.out _).out.1, (FIN.out _ TT.out _).out.2, fun _ => ⟨w11.heap.size, rfl, RE.out.far (by simpa using hnew) _⟩⟩
        have e2 : (c == 2) = false := by simpa using c2
        clear c0 c1 c2 c3
        go_wp2_with fail
        refine bodyPost_ret (v := .agg #[.slice (some ⟨g9, 0, none⟩) n cap9]) (by simp [results, Try.results70, go_sem, *]) rfl ⟨some ⟨g9, 0, none⟩, n, cap9, M, rfl, ?_, hc9, by omega, SM2.out, (fun x hx => by cases hx; exact Nat.le_of_succ_le hb9), ?_⟩
        · exact (R10.out.far (by simpa using hnew2) _).sgs HN.out.symm (by omega) (fun x hx => smS_in (SM2.out x hx))
        · exact ⟨(FIN.out _ T10.out _).out.1, (FIN.out _ T10.out _).out.2, fun _ => ⟨g9, rfl, R10.out.far (by simpa using hnew2) _⟩⟩
theorem s_Draw (B : Nat) (a : Option Addr) (len cap : Nat) (w : World) (hs : Src w B a len cap) :
    Calls Try.prog 70 #[.pointer (some ⟨B, 0, none⟩)] w (DrawnLay w B a len cap) :=
  (s_DrawR B a len cap w hs).mono fun e w' ⟨a', n, cap', L, h1, h2, h3, h4, h5, h6, h7, h8, _⟩ => ⟨a', n, cap', L, h1, h2, h3, h4, h5, h6, h7, h8⟩
end Go.Proofs.Ytnmlkigpiaekjaa
