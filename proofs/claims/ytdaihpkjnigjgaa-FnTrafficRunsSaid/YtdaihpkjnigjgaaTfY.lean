/- The walk of FnTrafficRuns. -/
import Derived.Test.YtdaihpkjnigjgaaTfE
import Derived.Test.YtdaihpkjnigjgaaTfH
import Derived.Test.YtdaihpkjnigjgaaTfN
import Derived.Test.YtdaihpkjnigjgaaRow
import Derived.Test.YtdaihpkjnigjgaaDice
namespace Go.Proofs.Ytdaihpkjnigjgaa
open Go.RowKit
set_option maxHeartbeats 4000000
set_option maxRecDepth 100000
set_option linter.unusedVariables false
set_option linter.unusedSimpArgs false
theorem own_capT {w : World} {base n c : Nat} {a : Option Addr} {l : List Int} (h : Own w base (.slice a n c) l) : n ≤ c := by
  rcases h.1.2 with ⟨e, h0⟩ | ⟨g, cap, cur, e, _, _, h1, h2, _⟩
  · simp only [Value.slice.injEq] at e; omega
  · simp only [Value.slice.injEq] at e; omega
theorem own_whereT {w : World} {base n c : Nat} {a : Option Addr} {l : List Int} (h : Own w base (.slice a n c) l) : (a = none ∧ n = 0 ∧ c = 0) ∨ ∃ g, a = some ⟨g, 0, none⟩ := by
  rcases h.1.2 with ⟨e, h0⟩ | ⟨g, cap, cur, e, _⟩
  · simp only [Value.slice.injEq] at e; exact .inl e
  · simp only [Value.slice.injEq] at e; exact .inr ⟨g, e.1⟩
theorem own_blkT {w : World} {base n c : Nat} {a : Option Addr} {l : List Int} (h : Own w base (.slice a n c) l) : ∀ x, a = some x → base ≤ x.block := fun x hx => by
  subst hx; exact (h.lt x.block rfl).1
theorem sl_resB {w6 w7 : World} {a : Option Addr} {n : Nat} {l : List Int} {u0 u1 v0 v1 : Value} {T : TypeId} (h : Sl w7 a n l) (k : Later (w6.alloc (.cells #[u0, u1] T)).drew w7) (hb : ∀ x, a = some x → (w6.alloc (.cells #[u0, u1] T)).drew.heap.size ≤ x.block) : Sl ((w7.setCell ⟨w6.heap.size, 0, none⟩ v0).setCell ⟨w6.heap.size, 1, none⟩ v1) a n l :=
  sl_resT h (fun x hx => by have := hb x hx; have e : (w6.alloc (.cells #[u0, u1] T)).drew.heap.size = w6.heap.size + 1 := World.size_alloc _ _; omega)
theorem sl_takeT {w : World} {a : Option Addr} {m : Nat} {F : List Int} (h : Sl w a m F) (k : Nat) (hk : k ≤ m) : Sl w a k (F.take k) := by
  obtain ⟨h1, h2, h3, h4⟩ := h
  refine ⟨by rw [List.length_take]; omega, by omega, fun j hj => ?_, fun x hx => h4 x (List.mem_of_mem_take hx)⟩
  obtain ⟨b, off, e, hc⟩ := h3 j (by omega)
  exact ⟨b, off, e, by rw [gx_take _ _ _ hj]; exact hc⟩
theorem sl_dropT {w : World} {b o m : Nat} {F : List Int} (h : Sl w (some ⟨b, o, none⟩) m F) (k : Nat) : Sl w (some ⟨b, o + k, none⟩) (m - k) (F.drop k) := by
  obtain ⟨h1, h2, h3, h4⟩ := h
  refine ⟨by rw [List.length_drop, h1], by omega, fun j hj => ?_, fun x hx => h4 x (List.mem_of_mem_drop hx)⟩
  obtain ⟨b', o', e, hc⟩ := h3 (k + j) (by omega)
  cases e
  refine ⟨b, o + k, rfl, ?_⟩
  rw [show o + k + j = o + (k + j) by omega, hc]
  unfold gx; simp [List.getD_eq_getElem?_getD]
theorem sl_nilT (w : World) (a : Option Addr) {F : List Int} (h : F = []) : Sl w a 0 F := by
  subst h; exact ⟨rfl, by omega, fun k hk => by omega, fun x hx => by simp at hx⟩
theorem sl_ifT {w : World} {b m : Nat} {F : List Int} (h : Sl w (some ⟨b, 0, none⟩) m F) (k c : Nat) (hmc : m ≤ c) : Sl w (if c = k then some ⟨b, 0, none⟩ else some ⟨b, k, none⟩) (m - k) (F.drop k) := by
  by_cases e : c = k
  · rw [if_pos e, show m - k = 0 by omega]
    exact sl_nilT _ _ (List.drop_eq_nil_of_le (by have := h.1; omega))
  · rw [if_neg e]
    have := sl_dropT h k
    rw [Nat.zero_add] at this
    exact this
/-- a box made ahead of the call whose result it takes -/
theorem ht_boxB {l : List (Nat × Nat × Value)} {w0 w6 w7 : World} (h : Held l w0 w6) {u0 u1 v0 v1 : Value} {T : TypeId} (k : Later (w6.alloc (.cells #[u0, u1] T)).drew w7) :
    Held ((w6.heap.size, 0, v0) :: (w6.heap.size, 1, v1) :: l) w0 ((w7.setCell ⟨w6.heap.size, 0, none⟩ v0).setCell ⟨w6.heap.size, 1, none⟩ v1) ∧ Later w6 ((w7.setCell ⟨w6.heap.size, 0, none⟩ v0).setCell ⟨w6.heap.size, 1, none⟩ v1) := by
  have k := later_undrew k
  have hA : Later w6 w7 := ((Later.refl w6).alloc _).trans k
  have hs := k.size
  rw [World.size_alloc] at hs
  have n0 : w7.cell? ⟨w6.heap.size, 0, none⟩ = some u0 := by rw [k.cell (p := ⟨w6.heap.size, 0, none⟩) (by simp)]; simp
  have n1 : w7.cell? ⟨w6.heap.size, 1, none⟩ = some u1 := by rw [k.cell (p := ⟨w6.heap.size, 1, none⟩) (by simp)]; simp
  have e1 : (w7.setCell ⟨w6.heap.size, 0, none⟩ v0).cell? ⟨w6.heap.size, 0, none⟩ = some v0 := World.cell?_setCell_same _ _ _ n0
  have e2 : (w7.setCell ⟨w6.heap.size, 0, none⟩ v0).cell? ⟨w6.heap.size, 1, none⟩ = some u1 := by rw [World.cell?_setCell_other _ _ _ _ (by simp)]; exact n1
  have f1 : ((w7.setCell ⟨w6.heap.size, 0, none⟩ v0).setCell ⟨w6.heap.size, 1, none⟩ v1).cell? ⟨w6.heap.size, 0, none⟩ = some v0 := by rw [World.cell?_setCell_other _ _ _ _ (by simp)]; exact e1
  have f2 := World.cell?_setCell_same (w7.setCell ⟨w6.heap.size, 0, none⟩ v0) ⟨w6.heap.size, 1, none⟩ v1 e2
  have hL : Later w6 ((w7.setCell ⟨w6.heap.size, 0, none⟩ v0).setCell ⟨w6.heap.size, 1, none⟩ v1) := put_res (Nat.le_refl _) hA
  exact ⟨held_more (held_more (h.later hL) _ _ _ f2 (by simp; omega)) _ _ _ f1 (by simp; omega), hL⟩
set_option maxRecDepth 100000 in
theorem walk_FnTrafficRuns (a0 : Option Addr) (len0 cap0 : Nat) (z0 : List Int) (w : World) (w0 : IsRow .u8 w a0 len0 cap0 z0) :
    Calls Try.prog 5 #[.slice a0 len0 cap0] w fun e w' => e = .returned (.bool true) ∧ Below w.heap.size w w' := by
  have HS := Lib.hid (isRow_bytes w0)
  clear w0
  by_cases hbig : 4096 < len0
  · go_enter Try.func5, Try.ntmps5
    go_wp2_with fail
    refine (l_big _ _ _ _).mono ?_
    rintro e w' ⟨rfl, rfl⟩
    go_wp2
    go_ret
    exact ⟨rfl, Below.refl _ _⟩
  go_enter Try.func5, Try.ntmps5
  go_wp2_with fail
  refine (l_big _ _ _ _).mono ?_
  rintro e w' ⟨rfl, rfl⟩
  go_wp2_with fail
  refine (s_DrawRunMoves _ _ _ _ HS.out).mono ?_
  rintro e w1 ⟨Bt, a2, n, c2, l, v, ts, rfl, hs, h5, ho, hts, hl⟩
  obtain ⟨at', ct, rfl, hst, _⟩ := ho.sl
  have hln := hs.1
  have hct := own_capT ho
  have hat := own_whereT ho
  have K1 := Lib.hid (ht_box2 ((held_none w).later hl) (.int .i64 Bt) (.slice a2 n c2) 26)
  have SX1 := Lib.hid (sl_later hs ((Later.refl w1).alloc (.cells #[.int .i64 Bt, .slice a2 n c2] 26)))
  have ST1 := Lib.hid (sl_later hst ((Later.refl w1).alloc (.cells #[.int .i64 Bt, .slice a2 n c2] 26)))
  obtain ⟨E, Bv, V, hE0, IA, MA⟩ : ∃ (E Bv : Int) (V : List Int), (E = 0 → rnE Bt l ts = 0 ∧ Bv = Bt ∧ V = rnL Bt l ts ts.length) ∧ Hid (∀ W, Sl W a2 n l → Sl W at' ts.length ts → Calls Try.prog 43 #[.agg #[.int .i64 Bt, .slice a2 n c2], .slice at' ts.length ct] W (NewTC W Bv V E)) ∧ Hid (∀ W, Sl W a2 n l → Sl W at' ts.length ts → Calls Try.prog 44 #[.agg #[.int .i64 Bt, .slice a2 n c2], .slice at' ts.length ct] W (NewTC W Bv V E)) :=
    ⟨rnE Bt l ts, rvB Bt l ts, rvV Bt l ts, fun h => ⟨h, by unfold rvB; rw [if_pos h], by unfold rvV; rw [if_pos h]⟩, Lib.hid (fun W h h2 => i_RunMoves Bt a2 n c2 l at' _ ct ts W h h2), Lib.hid (fun W h h2 => s_RunMoves Bt a2 n c2 l at' _ ct ts W h h2)⟩
  have HE := Lib.hid hE0
  have KB := Lib.hid hl
  clear ho hs hl hE0 hst
  obtain ⟨c0, c1, _⟩ := Held.s2 K1.out
  go_wp2_with fail
  clear c0 c1
  refine (IA.out _ SX1.out ST1.out).mono ?_
  rintro e w2 ⟨vA, rfl, ho, hl⟩
  obtain ⟨aA, cA, rfl, hsa, _⟩ := ho.sl
  have K2 := Lib.hid (ht_box2 (K1.out.later hl) (.int .i64 Bv) (.slice aA V.length cA) 26)
  have hl2 : Later (w1.alloc (.cells #[.int .i64 Bt, .slice a2 n c2] 26)) (w2.alloc (.cells #[.int .i64 Bv, .slice aA V.length cA] 26)) := Later.alloc hl _
  have SX2 := Lib.hid (sl_later SX1.out hl2)
  have ST2 := Lib.hid (sl_later ST1.out hl2)
  have SA2 := Lib.hid (sl_later hsa ((Later.refl w2).alloc (.cells #[.int .i64 Bv, .slice aA V.length cA] 26)))
  clear ho hl hl2 hsa K1 SX1 ST1
  obtain ⟨c0, c1, c2', c3, _⟩ := Held.s4 K2.out
  go_wp2_with fail
  clear c0 c1 c2' c3
  refine (MA.out _ SX2.out ST2.out).mono ?_
  rintro e w3 ⟨vB, rfl, ho, hl⟩
  obtain ⟨aB, cB, rfl, hsb, _⟩ := ho.sl
  have K3 := Lib.hid (ht_box2 (K2.out.later hl) (.int .i64 Bv) (.slice aB V.length cB) 26)
  have hl3 : Later (w2.alloc (.cells #[.int .i64 Bv, .slice aA V.length cA] 26)) (w3.alloc (.cells #[.int .i64 Bv, .slice aB V.length cB] 26)) := Later.alloc hl _
  have SX3 := Lib.hid (sl_later SX2.out hl3)
  have ST3 := Lib.hid (sl_later ST2.out hl3)
  have SA3 := Lib.hid (sl_later SA2.out hl3)
  have SB3 := Lib.hid (sl_later hsb ((Later.refl w3).alloc (.cells #[.int .i64 Bv, .slice aB V.length cB] 26)))
  clear ho hl hl3 hsb K2 SX2 ST2 SA2
  have e0 : (E != E) = false := by simp
  obtain ⟨c0, c1, c2', c3, c4, c5, _⟩ := Held.s6 K3.out
  go_wp2_with fail
  refine (l_likeTraffic9 _ _ _ _ _ _ _ V _ SA3.out SB3.out).mono ?_
  rintro e w4 ⟨rfl, hl⟩
  have K4 := Lib.hid (K3.out.later hl)
  have SX4 := Lib.hid (sl_later SX3.out hl)
  have ST4 := Lib.hid (sl_later ST3.out hl)
  have SA4 := Lib.hid (sl_later SA3.out hl)
  clear hl K3 SX3 ST3 SA3 SB3 c0 c1 c2' c3 c4 c5
  obtain ⟨c0, c1, c2', c3, c4, c5, _⟩ := Held.s6 K4.out
  by_cases hE : E = 0
  · obtain ⟨hr, rfl, rfl⟩ := HE.out hE
    subst hE
    go_wp2_with fail
    refine (l_roll _ _ _ _ _ (Bytes.later HS.out (show Later w _ from K4.out.2))).mono ?_
    rintro e w5 ⟨rfl, hd, hlt, hl⟩
    have HD := Lib.hid hd
    have L5 := Lib.hid hl
    clear hl hd
    go_wp2_with fail
    refine (l_below _ _ _ _ ((ts.length : Int) + 1) _ HD.out (by omega) (by omega)).mono ?_
    rintro e w6 ⟨r, rfl, r0, r1, _, gr⟩
    have L6 : Hid (Later w4 w6) := Lib.hid (Below.grown L5.out gr L5.out.size (fun k e => by cases e; exact Nat.le_refl _))
    have K6 := Lib.hid (K4.out.later L6.out)
    have SX6 := Lib.hid (sl_later SX4.out L6.out)
    have ST6 := Lib.hid (sl_later ST4.out L6.out)
    have SA6 := Lib.hid (sl_later SA4.out L6.out)
    obtain ⟨rn, rfl⟩ := Int.eq_ofNat_of_zero_le r0
    have hrn : rn ≤ ts.length := by omega
    have hrc : rn ≤ ct := by omega
    obtain ⟨t1, t2⟩ := run_take hr rn hrn
    obtain ⟨d1, d2⟩ := run_drop hr rn hrn
    have HY := Lib.hid (run_safe hr rn hrn)
    have HZ := Lib.hid (run_safe hr ts.length (Nat.le_refl _))
    obtain ⟨P, hP⟩ : ∃ P, P = rnL Bv l ts rn := ⟨_, rfl⟩
    obtain ⟨Q, hQ⟩ : ∃ Q, Q = rnL Bv l ts ts.length := ⟨_, rfl⟩
    have QA : Hid (∀ (a' : Option Addr) (m c : Nat) (W : World), Sl W a2 n l → Sl W a' m (ts.take rn) → Calls Try.prog 43 #[.agg #[.int .i64 Bv, .slice a2 n c2], .slice a' m c] W (NewTC W Bv P 0)) := Lib.hid (fun a' m c W h h2 => by
      have := i_RunMoves Bv a2 n c2 l a' m c (ts.take rn) W h h2
      rw [t1, show rvB Bv l (ts.take rn) = Bv by unfold rvB; rw [if_pos t1], show rvV Bv l (ts.take rn) = P by unfold rvV; rw [if_pos t1, t2, hP]] at this
      exact this)
    have QB : Hid (∀ (a1 : Option Addr) (n1 c1 : Nat) (a' : Option Addr) (m c : Nat) (W : World), Sl W a1 n1 P → Sl W a' m (ts.drop rn) → Calls Try.prog 43 #[.agg #[.int .i64 Bv, .slice a1 n1 c1], .slice a' m c] W (NewTC W Bv Q 0)) := Lib.hid (fun a1 n1 c1 a' m c W h h2 => by
      have := i_RunMoves Bv a1 n1 c1 P a' m c (ts.drop rn) W h h2
      rw [hP, d1, show rvB Bv (rnL Bv l ts rn) (ts.drop rn) = Bv by unfold rvB; rw [if_pos d1], show rvV Bv (rnL Bv l ts rn) (ts.drop rn) = Q by unfold rvV; rw [if_pos d1, d2, hQ]] at this
      exact this)
    rw [← hP] at HY
    rw [← hQ] at HZ SA6 K6 ⊢
    have hrni : (rn : Int) ≤ (ts.length : Int) := by omega
    have hrci : (rn : Int) ≤ (ct : Int) := by omega
    have hcti : (ts.length : Int) ≤ (ct : Int) := by omega
    clear gr K4 SX4 ST4 SA4 L5 L6 HD hlt c0 c1 c2' c3 c4 c5 r0 r1 t1 t2 d1 d2 hP hQ IA MA HE hr
    obtain ⟨c0, c1, c2', c3, c4, c5, _⟩ := Held.s6 K6.out
    have KS : Hid (∀ W', Later w6 W' → W'.cell? ⟨w1.heap.size, 0, none⟩ = some (.int .i64 Bv) ∧ W'.cell? ⟨w1.heap.size, 1, none⟩ = some (.slice a2 n c2)) := Lib.hid (fun W' h => by obtain ⟨_, _, _, _, d0, d1, _⟩ := Held.s6 (K6.out.later h); exact ⟨d0, d1⟩)
    rcases hat with ⟨e1, e2, e3⟩ | ⟨b, e⟩
    · subst e1
      subst e3
      obtain rfl : rn = 0 := by omega
      have hts0 : ts = [] := List.eq_nil_of_length_eq_zero e2
      clear c2' c3 c4 c5
      have STK := Lib.hid (sl_nilT w6 none (by rw [hts0]; rfl : ts.take 0 = []))
      go_wp2_with fail
      go_region_held3 (fun w' => w'.cell? ⟨w1.heap.size, 0, none⟩ = some (.int .i64 Bv) ∧ w'.cell? ⟨w1.heap.size, 1, none⟩ = some (.slice a2 n c2)) (first | (refine KS.out _ ?_; ((repeat (first | (with_reducible exact Later.refl _) | (with_reducible exact Hid.out (by assumption)) | (with_reducible refine Later.alloc ?_ _) | (with_reducible refine Later.setCell ?_ (by simp; omega) _) | (with_reducible refine Later.setCell ?_ (by simp) _) | (with_reducible refine Later.drewN ?_ _) | (with_reducible refine Later.drew ?_) | (with_reducible refine Later.trans ?_ (Hid.out (by assumption))))); done)))
        (first | (go_at_call 43; refine (QA.out _ _ _ _ (sl_later SX6.out (show Later w6 _ from (by repeat (first | (with_reducible exact Later.refl _) | (with_reducible exact Hid.out (by assumption)) | (with_reducible refine Later.alloc ?_ _) | (with_reducible refine Later.setCell ?_ (by simp; omega) _) | (with_reducible refine Later.setCell ?_ (by simp) _) | (with_reducible refine Later.drewN ?_ _) | (with_reducible refine Later.drew ?_) | (with_reducible refine Later.trans ?_ (Hid.out (by assumption))))))) (sl_later STK.out (show Later w6 _ from (by repeat (first | (with_reducible exact Later.refl _) | (with_reducible exact Hid.out (by assumption)) | (with_reducible refine Later.alloc ?_ _) | (with_reducible refine Later.setCell ?_ (by simp; omega) _) | (with_reducible refine Later.setCell ?_ (by simp) _) | (with_reducible refine Later.drewN ?_ _) | (with_reducible refine Later.drew ?_) | (with_reducible refine Later.trans ?_ (Hid.out (by assumption)))))))).mono ?_; rintro e w7 ⟨v7, rfl, ho, hb⟩; obtain ⟨a7, c7, rfl, hs7, _⟩ := ho.sl; have H7 := Lib.hid hb; have S7 := Lib.hid hs7; have BS7 := Lib.hid (own_blkT ho); obtain ⟨_, hcc, hff, hzz⟩ := later_facts hb; clear hb ho hs7))
      all_goals
        first
        | (refine then_into (fun W => Held [(w7.heap.size, 0, .int .i64 Bv), (w7.heap.size, 1, .slice a7 P.length c7), (w3.heap.size, 0, .int .i64 Bv), (w3.heap.size, 1, .slice aB Q.length cB), (w2.heap.size, 0, .int .i64 Bv), (w2.heap.size, 1, .slice aA Q.length cA), (w1.heap.size, 0, .int .i64 Bv), (w1.heap.size, 1, .slice a2 n c2)] w W ∧ Later w6 W ∧ Sl W a7 P.length P) ⟨ht_box2 (K6.out.later (later_undrew H7.out)) _ _ _, Later.alloc (later_undrew H7.out) _, sl_later S7.out ((Later.refl _).alloc _)⟩ ?_
           obtain ⟨o, ho⟩ : ∃ o, o = w7.heap.size := ⟨_, rfl⟩
           rw [← ho]
           clear ho)
        | (refine then_into (fun W => Held [(w6.heap.size, 0, .int .i64 Bv), (w6.heap.size, 1, .slice a7 P.length c7), (w3.heap.size, 0, .int .i64 Bv), (w3.heap.size, 1, .slice aB Q.length cB), (w2.heap.size, 0, .int .i64 Bv), (w2.heap.size, 1, .slice aA Q.length cA), (w1.heap.size, 0, .int .i64 Bv), (w1.heap.size, 1, .slice a2 n c2)] w W ∧ Later w6 W ∧ Sl W a7 P.length P) ⟨(ht_boxB K6.out H7.out).1, (ht_boxB K6.out H7.out).2, sl_resB S7.out H7.out BS7.out⟩ ?_
           obtain ⟨o, ho⟩ : ∃ o, o = w6.heap.size := ⟨_, rfl⟩
           rw [← ho]
           clear ho)
        intro w8 hW
        obtain ⟨hk, hl, hs⟩ := hW
        have K8 := Lib.hid hk
        have LL := Lib.hid hl
        have S8 := Lib.hid hs
        clear hk hl hs hcc hff hzz
        have SA8 := Lib.hid (sl_later SA6.out LL.out)
        have ST8 := Lib.hid (sl_later ST6.out LL.out)
        clear LL KS c0 c1 H7 S7 BS7 K6 SA6 SX6 ST6 STK QA
        have SR := Lib.hid (sl_nilT w8 none (by rw [hts0]; rfl : ts.drop 0 = []))
        try clear SR0
        obtain ⟨c0, c1, _⟩ := Held.s8 K8.out
        have KT : Hid (∀ W', Later w8 W' → W'.cell? ⟨o, 0, none⟩ = some (.int .i64 Bv) ∧ W'.cell? ⟨o, 1, none⟩ = some (.slice a7 P.length c7)) := Lib.hid (fun W' h => by obtain ⟨d0, d1, _⟩ := Held.s8 (K8.out.later h); exact ⟨d0, d1⟩)
        go_wp2_with fail
        go_region_held3 (fun w' => w'.cell? ⟨o, 0, none⟩ = some (.int .i64 Bv) ∧ w'.cell? ⟨o, 1, none⟩ = some (.slice a7 P.length c7)) (first | (refine KT.out _ ?_; ((repeat (first | (with_reducible exact Later.refl _) | (with_reducible exact Hid.out (by assumption)) | (with_reducible refine Later.alloc ?_ _) | (with_reducible refine Later.setCell ?_ (by simp; omega) _) | (with_reducible refine Later.setCell ?_ (by simp) _) | (with_reducible refine Later.drewN ?_ _) | (with_reducible refine Later.drew ?_) | (with_reducible refine Later.trans ?_ (Hid.out (by assumption))))); done)))
          (first | (go_at_call 43; refine (QB.out _ _ _ _ _ _ _ (sl_later S8.out (show Later w8 _ from (by repeat (first | (with_reducible exact Later.refl _) | (with_reducible exact Hid.out (by assumption)) | (with_reducible refine Later.alloc ?_ _) | (with_reducible refine Later.setCell ?_ (by simp; omega) _) | (with_reducible refine Later.setCell ?_ (by simp) _) | (with_reducible refine Later.drewN ?_ _) | (with_reducible refine Later.drew ?_) | (with_reducible refine Later.trans ?_ (Hid.out (by assumption))))))) (sl_later SR.out (show Later w8 _ from (by repeat (first | (with_reducible exact Later.refl _) | (with_reducible exact Hid.out (by assumption)) | (with_reducible refine Later.alloc ?_ _) | (with_reducible refine Later.setCell ?_ (by simp; omega) _) | (with_reducible refine Later.setCell ?_ (by simp) _) | (with_reducible refine Later.drewN ?_ _) | (with_reducible refine Later.drew ?_) | (with_reducible refine Later.trans ?_ (Hid.out (by assumption)))))))).mono ?_; rintro e w9 ⟨v9, rfl, ho, hb⟩; obtain ⟨a9, c9, rfl, hs9, _⟩ := ho.sl; have H9 := Lib.hid hb; have S9 := Lib.hid hs9; have BS9 := Lib.hid (own_blkT ho); obtain ⟨_, hcc, hff, hzz⟩ := later_facts hb; clear hb ho hs9))
        all_goals
          first
          | (refine then_into (fun W => Held [(w9.heap.size, 0, .int .i64 Bv), (w9.heap.size, 1, .slice a9 Q.length c9), (o, 0, .int .i64 Bv), (o, 1, .slice a7 P.length c7), (w3.heap.size, 0, .int .i64 Bv), (w3.heap.size, 1, .slice aB Q.length cB), (w2.heap.size, 0, .int .i64 Bv), (w2.heap.size, 1, .slice aA Q.length cA), (w1.heap.size, 0, .int .i64 Bv), (w1.heap.size, 1, .slice a2 n c2)] w W ∧ Later w8 W ∧ Sl W a9 Q.length Q) ⟨ht_box2 (K8.out.later (later_undrew H9.out)) _ _ _, Later.alloc (later_undrew H9.out) _, sl_later S9.out ((Later.refl _).alloc _)⟩ ?_
             obtain ⟨o2, ho⟩ : ∃ o, o = w9.heap.size := ⟨_, rfl⟩
             rw [← ho]
             clear ho)
          | (refine then_into (fun W => Held [(w8.heap.size, 0, .int .i64 Bv), (w8.heap.size, 1, .slice a9 Q.length c9), (o, 0, .int .i64 Bv), (o, 1, .slice a7 P.length c7), (w3.heap.size, 0, .int .i64 Bv), (w3.heap.size, 1, .slice aB Q.length cB), (w2.heap.size, 0, .int .i64 Bv), (w2.heap.size, 1, .slice aA Q.length cA), (w1.heap.size, 0, .int .i64 Bv), (w1.heap.size, 1, .slice a2 n c2)] w W ∧ Later w8 W ∧ Sl W a9 Q.length Q) ⟨(ht_boxB K8.out H9.out).1, (ht_boxB K8.out H9.out).2, sl_resB S9.out H9.out BS9.out⟩ ?_
             obtain ⟨o2, ho⟩ : ∃ o, o = w8.heap.size := ⟨_, rfl⟩
             rw [← ho]
             clear ho)
          intro w10 hW
          obtain ⟨hk, hl, hs⟩ := hW
          have K10 := Lib.hid hk
          have LL := Lib.hid hl
          have S10 := Lib.hid hs
          clear hk hl hs hcc hff hzz
          have SA10 := Lib.hid (sl_later SA8.out LL.out)
          have SP10 := Lib.hid (sl_later S8.out LL.out)
          clear LL KT c0 c1 H9 S9 BS9 K8 SA8 S8 SR
          obtain ⟨e0', e1', f0', f1', _, _, g0', g1', _⟩ := Held.s10 K10.out
          go_wp2_with fail
          refine (l_likeTraffic9 _ _ _ _ _ _ _ Q _ S10.out SA10.out).mono ?_
          rintro e w11 ⟨rfl, hl⟩
          have K11 := Lib.hid (K10.out.later hl)
          have SP11 := Lib.hid (sl_later SP10.out hl)
          have SA11 := Lib.hid (sl_later SA10.out hl)
          clear hl K10 SA10 SP10 S10 e0' e1' f0' f1' g0' g1'
          obtain ⟨_, _, f0', f1', _, _, g0', g1', _⟩ := Held.s10 K11.out
          go_wp2_with fail
          refine (i_IsSafeTraffic _ _ _ _ P _ SP11.out).mono ?_
          rintro e w12 ⟨rfl, hl⟩
          rw [HY.out]
          have K12 := Lib.hid (K11.out.later hl)
          have SA12 := Lib.hid (sl_later SA11.out hl)
          clear hl K11 SP11 SA11 f0' f1' g0' g1'
          obtain ⟨_, _, _, _, _, _, g0', g1', _⟩ := Held.s10 K12.out
          go_wp2_with fail
          refine (i_IsSafeTraffic _ _ _ _ Q _ SA12.out).mono ?_
          rintro e w13 ⟨rfl, hl⟩
          rw [HZ.out]
          have K13 := Lib.hid (K12.out.later hl)
          clear hl
          go_wp2_with fail
          go_ret
          exact ⟨rfl, K13.out.2⟩
    · subst e
      clear c2' c3 c4 c5
      have STK := Lib.hid (sl_takeT ST6.out rn hrn)
      go_wp2_with fail
      go_region_held3 (fun w' => w'.cell? ⟨w1.heap.size, 0, none⟩ = some (.int .i64 Bv) ∧ w'.cell? ⟨w1.heap.size, 1, none⟩ = some (.slice a2 n c2)) (first | (refine KS.out _ ?_; ((repeat (first | (with_reducible exact Later.refl _) | (with_reducible exact Hid.out (by assumption)) | (with_reducible refine Later.alloc ?_ _) | (with_reducible refine Later.setCell ?_ (by simp; omega) _) | (with_reducible refine Later.setCell ?_ (by simp) _) | (with_reducible refine Later.drewN ?_ _) | (with_reducible refine Later.drew ?_) | (with_reducible refine Later.trans ?_ (Hid.out (by assumption))))); done)))
        (first | (go_at_call 43; refine (QA.out _ _ _ _ (sl_later SX6.out (show Later w6 _ from (by repeat (first | (with_reducible exact Later.refl _) | (with_reducible exact Hid.out (by assumption)) | (with_reducible refine Later.alloc ?_ _) | (with_reducible refine Later.setCell ?_ (by simp; omega) _) | (with_reducible refine Later.setCell ?_ (by simp) _) | (with_reducible refine Later.drewN ?_ _) | (with_reducible refine Later.drew ?_) | (with_reducible refine Later.trans ?_ (Hid.out (by assumption))))))) (sl_later STK.out (show Later w6 _ from (by repeat (first | (with_reducible exact Later.refl _) | (with_reducible exact Hid.out (by assumption)) | (with_reducible refine Later.alloc ?_ _) | (with_reducible refine Later.setCell ?_ (by simp; omega) _) | (with_reducible refine Later.setCell ?_ (by simp) _) | (with_reducible refine Later.drewN ?_ _) | (with_reducible refine Later.drew ?_) | (with_reducible refine Later.trans ?_ (Hid.out (by assumption)))))))).mono ?_; rintro e w7 ⟨v7, rfl, ho, hb⟩; obtain ⟨a7, c7, rfl, hs7, _⟩ := ho.sl; have H7 := Lib.hid hb; have S7 := Lib.hid hs7; have BS7 := Lib.hid (own_blkT ho); obtain ⟨_, hcc, hff, hzz⟩ := later_facts hb; clear hb ho hs7))
      all_goals
        first
        | (refine then_into (fun W => Held [(w7.heap.size, 0, .int .i64 Bv), (w7.heap.size, 1, .slice a7 P.length c7), (w3.heap.size, 0, .int .i64 Bv), (w3.heap.size, 1, .slice aB Q.length cB), (w2.heap.size, 0, .int .i64 Bv), (w2.heap.size, 1, .slice aA Q.length cA), (w1.heap.size, 0, .int .i64 Bv), (w1.heap.size, 1, .slice a2 n c2)] w W ∧ Later w6 W ∧ Sl W a7 P.length P) ⟨ht_box2 (K6.out.later (later_undrew H7.out)) _ _ _, Later.alloc (later_undrew H7.out) _, sl_later S7.out ((Later.refl _).alloc _)⟩ ?_
           obtain ⟨o, ho⟩ : ∃ o, o = w7.heap.size := ⟨_, rfl⟩
           rw [← ho]
           clear ho)
        | (refine then_into (fun W => Held [(w6.heap.size, 0, .int .i64 Bv), (w6.heap.size, 1, .slice a7 P.length c7), (w3.heap.size, 0, .int .i64 Bv), (w3.heap.size, 1, .slice aB Q.length cB), (w2.heap.size, 0, .int .i64 Bv), (w2.heap.size, 1, .slice aA Q.length cA), (w1.heap.size, 0, .int .i64 Bv), (w1.heap.size, 1, .slice a2 n c2)] w W ∧ Later w6 W ∧ Sl W a7 P.length P) ⟨(ht_boxB K6.out H7.out).1, (ht_boxB K6.out H7.out).2, sl_resB S7.out H7.out BS7.out⟩ ?_
           obtain ⟨o, ho⟩ : ∃ o, o = w6.heap.size := ⟨_, rfl⟩
           rw [← ho]
           clear ho)
        intro w8 hW
        obtain ⟨hk, hl, hs⟩ := hW
        have K8 := Lib.hid hk
        have LL := Lib.hid hl
        have S8 := Lib.hid hs
        clear hk hl hs hcc hff hzz
        have SA8 := Lib.hid (sl_later SA6.out LL.out)
        have ST8 := Lib.hid (sl_later ST6.out LL.out)
        clear LL KS c0 c1 H7 S7 BS7 K6 SA6 SX6 ST6 STK QA
        by_cases hcr : ct = rn
        · have SR0 := sl_ifT ST8.out rn ct hct
          rw [if_pos hcr] at SR0
          have SR := Lib.hid (SR0)
          try clear SR0
          obtain ⟨c0, c1, _⟩ := Held.s8 K8.out
          have KT : Hid (∀ W', Later w8 W' → W'.cell? ⟨o, 0, none⟩ = some (.int .i64 Bv) ∧ W'.cell? ⟨o, 1, none⟩ = some (.slice a7 P.length c7)) := Lib.hid (fun W' h => by obtain ⟨d0, d1, _⟩ := Held.s8 (K8.out.later h); exact ⟨d0, d1⟩)
          go_wp2_with fail
          go_region_held3 (fun w' => w'.cell? ⟨o, 0, none⟩ = some (.int .i64 Bv) ∧ w'.cell? ⟨o, 1, none⟩ = some (.slice a7 P.length c7)) (first | (refine KT.out _ ?_; ((repeat (first | (with_reducible exact Later.refl _) | (with_reducible exact Hid.out (by assumption)) | (with_reducible refine Later.alloc ?_ _) | (with_reducible refine Later.setCell ?_ (by simp; omega) _) | (with_reducible refine Later.setCell ?_ (by simp) _) | (with_reducible refine Later.drewN ?_ _) | (with_reducible refine Later.drew ?_) | (with_reducible refine Later.trans ?_ (Hid.out (by assumption))))); done)))
            (first | (go_at_call 43; refine (QB.out _ _ _ _ _ _ _ (sl_later S8.out (show Later w8 _ from (by repeat (first | (with_reducible exact Later.refl _) | (with_reducible exact Hid.out (by assumption)) | (with_reducible refine Later.alloc ?_ _) | (with_reducible refine Later.setCell ?_ (by simp; omega) _) | (with_reducible refine Later.setCell ?_ (by simp) _) | (with_reducible refine Later.drewN ?_ _) | (with_reducible refine Later.drew ?_) | (with_reducible refine Later.trans ?_ (Hid.out (by assumption))))))) (sl_later SR.out (show Later w8 _ from (by repeat (first | (with_reducible exact Later.refl _) | (with_reducible exact Hid.out (by assumption)) | (with_reducible refine Later.alloc ?_ _) | (with_reducible refine Later.setCell ?_ (by simp; omega) _) | (with_reducible refine Later.setCell ?_ (by simp) _) | (with_reducible refine Later.drewN ?_ _) | (with_reducible refine Later.drew ?_) | (with_reducible refine Later.trans ?_ (Hid.out (by assumption)))))))).mono ?_; rintro e w9 ⟨v9, rfl, ho, hb⟩; obtain ⟨a9, c9, rfl, hs9, _⟩ := ho.sl; have H9 := Lib.hid hb; have S9 := Lib.hid hs9; have BS9 := Lib.hid (own_blkT ho); obtain ⟨_, hcc, hff, hzz⟩ := later_facts hb; clear hb ho hs9))
          all_goals
            first
            | (refine then_into (fun W => Held [(w9.heap.size, 0, .int .i64 Bv), (w9.heap.size, 1, .slice a9 Q.length c9), (o, 0, .int .i64 Bv), (o, 1, .slice a7 P.length c7), (w3.heap.size, 0, .int .i64 Bv), (w3.heap.size, 1, .slice aB Q.length cB), (w2.heap.size, 0, .int .i64 Bv), (w2.heap.size, 1, .slice aA Q.length cA), (w1.heap.size, 0, .int .i64 Bv), (w1.heap.size, 1, .slice a2 n c2)] w W ∧ Later w8 W ∧ Sl W a9 Q.length Q) ⟨ht_box2 (K8.out.later (later_undrew H9.out)) _ _ _, Later.alloc (later_undrew H9.out) _, sl_later S9.out ((Later.refl _).alloc _)⟩ ?_
               obtain ⟨o2, ho⟩ : ∃ o, o = w9.heap.size := ⟨_, rfl⟩
               rw [← ho]
               clear ho)
            | (refine then_into (fun W => Held [(w8.heap.size, 0, .int .i64 Bv), (w8.heap.size, 1, .slice a9 Q.length c9), (o, 0, .int .i64 Bv), (o, 1, .slice a7 P.length c7), (w3.heap.size, 0, .int .i64 Bv), (w3.heap.size, 1, .slice aB Q.length cB), (w2.heap.size, 0, .int .i64 Bv), (w2.heap.size, 1, .slice aA Q.length cA), (w1.heap.size, 0, .int .i64 Bv), (w1.heap.size, 1, .slice a2 n c2)] w W ∧ Later w8 W ∧ Sl W a9 Q.length Q) ⟨(ht_boxB K8.out H9.out).1, (ht_boxB K8.out H9.out).2, sl_resB S9.out H9.out BS9.out⟩ ?_
               obtain ⟨o2, ho⟩ : ∃ o, o = w8.heap.size := ⟨_, rfl⟩
               rw [← ho]
               clear ho)
            intro w10 hW
            obtain ⟨hk, hl, hs⟩ := hW
            have K10 := Lib.hid hk
            have LL := Lib.hid hl
            have S10 := Lib.hid hs
            clear hk hl hs hcc hff hzz
            have SA10 := Lib.hid (sl_later SA8.out LL.out)
            have SP10 := Lib.hid (sl_later S8.out LL.out)
            clear LL KT c0 c1 H9 S9 BS9 K8 SA8 S8 SR
            obtain ⟨e0', e1', f0', f1', _, _, g0', g1', _⟩ := Held.s10 K10.out
            go_wp2_with fail
            refine (l_likeTraffic9 _ _ _ _ _ _ _ Q _ S10.out SA10.out).mono ?_
            rintro e w11 ⟨rfl, hl⟩
            have K11 := Lib.hid (K10.out.later hl)
            have SP11 := Lib.hid (sl_later SP10.out hl)
            have SA11 := Lib.hid (sl_later SA10.out hl)
            clear hl K10 SA10 SP10 S10 e0' e1' f0' f1' g0' g1'
            obtain ⟨_, _, f0', f1', _, _, g0', g1', _⟩ := Held.s10 K11.out
            go_wp2_with fail
            refine (i_IsSafeTraffic _ _ _ _ P _ SP11.out).mono ?_
            rintro e w12 ⟨rfl, hl⟩
            rw [HY.out]
            have K12 := Lib.hid (K11.out.later hl)
            have SA12 := Lib.hid (sl_later SA11.out hl)
            clear hl K11 SP11 SA11 f0' f1' g0' g1'
            obtain ⟨_, _, _, _, _, _, g0', g1', _⟩ := Held.s10 K12.out
            go_wp2_with fail
            refine (i_IsSafeTraffic _ _ _ _ Q _ SA12.out).mono ?_
            rintro e w13 ⟨rfl, hl⟩
            rw [HZ.out]
            have K13 := Lib.hid (K12.out.later hl)
            clear hl
            go_wp2_with fail
            go_ret
            exact ⟨rfl, K13.out.2⟩
        · have SR0 := sl_ifT ST8.out rn ct hct
          rw [if_neg hcr] at SR0
          have SR := Lib.hid (SR0)
          try clear SR0
          obtain ⟨c0, c1, _⟩ := Held.s8 K8.out
          have KT : Hid (∀ W', Later w8 W' → W'.cell? ⟨o, 0, none⟩ = some (.int .i64 Bv) ∧ W'.cell? ⟨o, 1, none⟩ = some (.slice a7 P.length c7)) := Lib.hid (fun W' h => by obtain ⟨d0, d1, _⟩ := Held.s8 (K8.out.later h); exact ⟨d0, d1⟩)
          go_wp2_with fail
          go_region_held3 (fun w' => w'.cell? ⟨o, 0, none⟩ = some (.int .i64 Bv) ∧ w'.cell? ⟨o, 1, none⟩ = some (.slice a7 P.length c7)) (first | (refine KT.out _ ?_; ((repeat (first | (with_reducible exact Later.refl _) | (with_reducible exact Hid.out (by assumption)) | (with_reducible refine Later.alloc ?_ _) | (with_reducible refine Later.setCell ?_ (by simp; omega) _) | (with_reducible refine Later.setCell ?_ (by simp) _) | (with_reducible refine Later.drewN ?_ _) | (with_reducible refine Later.drew ?_) | (with_reducible refine Later.trans ?_ (Hid.out (by assumption))))); done)))
            (first | (go_at_call 43; refine (QB.out _ _ _ _ _ _ _ (sl_later S8.out (show Later w8 _ from (by repeat (first | (with_reducible exact Later.refl _) | (with_reducible exact Hid.out (by assumption)) | (with_reducible refine Later.alloc ?_ _) | (with_reducible refine Later.setCell ?_ (by simp; omega) _) | (with_reducible refine Later.setCell ?_ (by simp) _) | (with_reducible refine Later.drewN ?_ _) | (with_reducible refine Later.drew ?_) | (with_reducible refine Later.trans ?_ (Hid.out (by assumption))))))) (sl_later SR.out (show Later w8 _ from (by repeat (first | (with_reducible exact Later.refl _) | (with_reducible exact Hid.out (by assumption)) | (with_reducible refine Later.alloc ?_ _) | (with_reducible refine Later.setCell ?_ (by simp; omega) _) | (with_reducible refine Later.setCell ?_ (by simp) _) | (with_reducible refine Later.drewN ?_ _) | (with_reducible refine Later.drew ?_) | (with_reducible refine Later.trans ?_ (Hid.out (by assumption)))))))).mono ?_; rintro e w9 ⟨v9, rfl, ho, hb⟩; obtain ⟨a9, c9, rfl, hs9, _⟩ := ho.sl; have H9 := Lib.hid hb; have S9 := Lib.hid hs9; have BS9 := Lib.hid (own_blkT ho); obtain ⟨_, hcc, hff, hzz⟩ := later_facts hb; clear hb ho hs9))
          all_goals
            first
            | (refine then_into (fun W => Held [(w9.heap.size, 0, .int .i64 Bv), (w9.heap.size, 1, .slice a9 Q.length c9), (o, 0, .int .i64 Bv), (o, 1, .slice a7 P.length c7), (w3.heap.size, 0, .int .i64 Bv), (w3.heap.size, 1, .slice aB Q.length cB), (w2.heap.size, 0, .int .i64 Bv), (w2.heap.size, 1, .slice aA Q.length cA), (w1.heap.size, 0, .int .i64 Bv), (w1.heap.size, 1, .slice a2 n c2)] w W ∧ Later w8 W ∧ Sl W a9 Q.length Q) ⟨ht_box2 (K8.out.later (later_undrew H9.out)) _ _ _, Later.alloc (later_undrew H9.out) _, sl_later S9.out ((Later.refl _).alloc _)⟩ ?_
               obtain ⟨o2, ho⟩ : ∃ o, o = w9.heap.size := ⟨_, rfl⟩
               rw [← ho]
               clear ho)
            | (refine then_into (fun W => Held [(w8.heap.size, 0, .int .i64 Bv), (w8.heap.size, 1, .slice a9 Q.length c9), (o, 0, .int .i64 Bv), (o, 1, .slice a7 P.length c7), (w3.heap.size, 0, .int .i64 Bv), (w3.heap.size, 1, .slice aB Q.length cB), (w2.heap.size, 0, .int .i64 Bv), (w2.heap.size, 1, .slice aA Q.length cA), (w1.heap.size, 0, .int .i64 Bv), (w1.heap.size, 1, .slice a2 n c2)] w W ∧ Later w8 W ∧ Sl W a9 Q.length Q) ⟨(ht_boxB K8.out H9.out).1, (ht_boxB K8.out H9.out).2, sl_resB S9.out H9.out BS9.out⟩ ?_
               obtain ⟨o2, ho⟩ : ∃ o, o = w8.heap.size := ⟨_, rfl⟩
               rw [← ho]
               clear ho)
            intro w10 hW
            obtain ⟨hk, hl, hs⟩ := hW
            have K10 := Lib.hid hk
            have LL := Lib.hid hl
            have S10 := Lib.hid hs
            clear hk hl hs hcc hff hzz
            have SA10 := Lib.hid (sl_later SA8.out LL.out)
            have SP10 := Lib.hid (sl_later S8.out LL.out)
            clear LL KT c0 c1 H9 S9 BS9 K8 SA8 S8 SR
            obtain ⟨e0', e1', f0', f1', _, _, g0', g1', _⟩ := Held.s10 K10.out
            go_wp2_with fail
            refine (l_likeTraffic9 _ _ _ _ _ _ _ Q _ S10.out SA10.out).mono ?_
            rintro e w11 ⟨rfl, hl⟩
            have K11 := Lib.hid (K10.out.later hl)
            have SP11 := Lib.hid (sl_later SP10.out hl)
            have SA11 := Lib.hid (sl_later SA10.out hl)
            clear hl K10 SA10 SP10 S10 e0' e1' f0' f1' g0' g1'
            obtain ⟨_, _, f0', f1', _, _, g0', g1', _⟩ := Held.s10 K11.out
            go_wp2_with fail
            refine (i_IsSafeTraffic _ _ _ _ P _ SP11.out).mono ?_
            rintro e w12 ⟨rfl, hl⟩
            rw [HY.out]
            have K12 := Lib.hid (K11.out.later hl)
            have SA12 := Lib.hid (sl_later SA11.out hl)
            clear hl K11 SP11 SA11 f0' f1' g0' g1'
            obtain ⟨_, _, _, _, _, _, g0', g1', _⟩ := Held.s10 K12.out
            go_wp2_with fail
            refine (i_IsSafeTraffic _ _ _ _ Q _ SA12.out).mono ?_
            rintro e w13 ⟨rfl, hl⟩
            rw [HZ.out]
            have K13 := Lib.hid (K12.out.later hl)
            clear hl
            go_wp2_with fail
            go_ret
            exact ⟨rfl, K13.out.2⟩
  · have e1 : (E != 0) = true := by simpa using hE
    go_wp2_with fail
    go_ret
    exact ⟨rfl, K4.out.2⟩
end Go.Proofs.Ytdaihpkjnigjgaa
