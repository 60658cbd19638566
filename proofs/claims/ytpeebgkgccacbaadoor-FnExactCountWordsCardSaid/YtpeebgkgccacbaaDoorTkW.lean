/- Tokens, of the program: blanks, standard texts, and counted words. -/
import Derived.Test.YtpeebgkgccacbaaDoorTkV
import Derived.Test.YtpeebgkgccacbaaDoorTkQ
namespace Go.Proofs.YtpeebgkgccacbaaDoor
open Go.RowKit Go.Shelf
set_option maxHeartbeats 4000000
set_option maxRecDepth 100000
set_option linter.unusedVariables false
set_option linter.unusedSimpArgs false
theorem eqT (s : ByteArray) (l k : List UInt8) (h : s = tx l) : (s.toList == k) = decide (l = k) := by
  subst h
  rw [Lib.toList_data]
  show (l == k) = _
  by_cases h : l = k <;> simp [h]
theorem i_haveBlank (k1 k2 : Int) (t1 t2 : List UInt8) (w : World) : Calls Tryd.prog 64 #[.agg #[.int .i64 k1, .string (tx t1)], .agg #[.int .i64 k2, .string (tx t2)]] w fun e w' => e = .returned (.bool (blkB t1 t2)) ∧ Later w w' := by
  obtain ⟨s1, hs1⟩ : ∃ s, s = tx t1 := ⟨_, rfl⟩
  obtain ⟨s2, hs2⟩ : ∃ s, s = tx t2 := ⟨_, rfl⟩
  have BK : Hid (∀ W, Calls Tryd.prog 60 #[.string s1] W fun e w' => e = .returned (.bool (bkB12 t1)) ∧ W = w') := Lib.hid (fun W => by rw [hs1]; exact i_isBlockKeyword (tx t1) W)
  have a1 := eqT s1 t1 [59] hs1
  have a2 := eqT s1 t1 [40] hs1
  have b1 := eqT s2 t2 [59] hs2
  have b2 := eqT s2 t2 [44] hs2
  have b3 := eqT s2 t2 [41] hs2
  have b4 := eqT s2 t2 [40] hs2
  rw [← hs1, ← hs2]
  clear hs1 hs2
  have B : Hid (blkB t1 t2 = if t1 = [59] ∨ t1 = [40] then false else if t2 = [59] ∨ t2 = [44] ∨ t2 = [41] then false else if t2 = [40] then !(bkB12 t1) else true) := Lib.hid rfl
  obtain ⟨x, hx⟩ : ∃ x, x = bkB12 t1 := ⟨_, rfl⟩
  rw [← hx] at BK B
  clear hx
  by_cases c1 : t1 = [59]
  · rw [decide_eq_true c1] at a1
    rw [if_pos (.inl c1)] at B
    rw [B.out]
    clear c1 B
    go_enter Tryd.func64, Tryd.ntmps64
    go_wp2_with fail
    go_ret
    exact ⟨rfl, (by repeat (first | (with_reducible exact Later.refl _) | (with_reducible exact Hid.out (by assumption)) | (with_reducible refine Later.alloc ?_ _) | (with_reducible refine Later.setCell ?_ (by simp; omega) _) | (with_reducible refine Later.setCell ?_ (by simp) _) | (with_reducible refine Later.drewN ?_ _) | (with_reducible refine Later.drew ?_) | (with_reducible refine Later.trans ?_ (Hid.out (by assumption)))))⟩
  · rw [decide_eq_false c1] at a1
    by_cases c2 : t1 = [40]
    · rw [decide_eq_true c2] at a2
      rw [if_pos (.inr c2)] at B
      rw [B.out]
      clear c1 c2 B
      go_enter Tryd.func64, Tryd.ntmps64
      go_wp2_with fail
      go_ret
      exact ⟨rfl, (by repeat (first | (with_reducible exact Later.refl _) | (with_reducible exact Hid.out (by assumption)) | (with_reducible refine Later.alloc ?_ _) | (with_reducible refine Later.setCell ?_ (by simp; omega) _) | (with_reducible refine Later.setCell ?_ (by simp) _) | (with_reducible refine Later.drewN ?_ _) | (with_reducible refine Later.drew ?_) | (with_reducible refine Later.trans ?_ (Hid.out (by assumption)))))⟩
    · rw [decide_eq_false c2] at a2
      rw [if_neg (by simp [c1, c2])] at B
      by_cases d1 : t2 = [59]
      · rw [decide_eq_true d1] at b1
        rw [if_pos (.inl d1)] at B
        rw [B.out]
        clear c1 c2 d1 B
        go_enter Tryd.func64, Tryd.ntmps64
        go_wp2_with fail
        go_ret
        exact ⟨rfl, (by repeat (first | (with_reducible exact Later.refl _) | (with_reducible exact Hid.out (by assumption)) | (with_reducible refine Later.alloc ?_ _) | (with_reducible refine Later.setCell ?_ (by simp; omega) _) | (with_reducible refine Later.setCell ?_ (by simp) _) | (with_reducible refine Later.drewN ?_ _) | (with_reducible refine Later.drew ?_) | (with_reducible refine Later.trans ?_ (Hid.out (by assumption)))))⟩
      · rw [decide_eq_false d1] at b1
        by_cases d2 : t2 = [44]
        · rw [decide_eq_true d2] at b2
          rw [if_pos (.inr (.inl d2))] at B
          rw [B.out]
          clear c1 c2 d1 d2 B
          go_enter Tryd.func64, Tryd.ntmps64
          go_wp2_with fail
          go_ret
          exact ⟨rfl, (by repeat (first | (with_reducible exact Later.refl _) | (with_reducible exact Hid.out (by assumption)) | (with_reducible refine Later.alloc ?_ _) | (with_reducible refine Later.setCell ?_ (by simp; omega) _) | (with_reducible refine Later.setCell ?_ (by simp) _) | (with_reducible refine Later.drewN ?_ _) | (with_reducible refine Later.drew ?_) | (with_reducible refine Later.trans ?_ (Hid.out (by assumption)))))⟩
        · rw [decide_eq_false d2] at b2
          by_cases d3 : t2 = [41]
          · rw [decide_eq_true d3] at b3
            rw [if_pos (.inr (.inr d3))] at B
            rw [B.out]
            clear c1 c2 d1 d2 d3 B
            go_enter Tryd.func64, Tryd.ntmps64
            go_wp2_with fail
            go_ret
            exact ⟨rfl, (by repeat (first | (with_reducible exact Later.refl _) | (with_reducible exact Hid.out (by assumption)) | (with_reducible refine Later.alloc ?_ _) | (with_reducible refine Later.setCell ?_ (by simp; omega) _) | (with_reducible refine Later.setCell ?_ (by simp) _) | (with_reducible refine Later.drewN ?_ _) | (with_reducible refine Later.drew ?_) | (with_reducible refine Later.trans ?_ (Hid.out (by assumption)))))⟩
          · rw [decide_eq_false d3] at b3
            rw [if_neg (by simp [d1, d2, d3])] at B
            by_cases d4 : t2 = [40]
            · rw [decide_eq_true d4] at b4
              rw [if_pos d4] at B
              rw [B.out]
              clear c1 c2 d1 d2 d3 d4 B
              go_enter Tryd.func64, Tryd.ntmps64
              go_wp2_with (go_at_call 60; refine (BK.out _).mono ?_; rintro e w' ⟨rfl, rfl⟩)
              go_ret
              exact ⟨rfl, (by repeat (first | (with_reducible exact Later.refl _) | (with_reducible exact Hid.out (by assumption)) | (with_reducible refine Later.alloc ?_ _) | (with_reducible refine Later.setCell ?_ (by simp; omega) _) | (with_reducible refine Later.setCell ?_ (by simp) _) | (with_reducible refine Later.drewN ?_ _) | (with_reducible refine Later.drew ?_) | (with_reducible refine Later.trans ?_ (Hid.out (by assumption)))))⟩
            · rw [decide_eq_false d4] at b4
              rw [if_neg d4] at B
              rw [B.out]
              clear c1 c2 d1 d2 d3 d4 B
              go_enter Tryd.func64, Tryd.ntmps64
              go_wp2_with fail
              go_ret
              exact ⟨rfl, (by repeat (first | (with_reducible exact Later.refl _) | (with_reducible exact Hid.out (by assumption)) | (with_reducible refine Later.alloc ?_ _) | (with_reducible refine Later.setCell ?_ (by simp; omega) _) | (with_reducible refine Later.setCell ?_ (by simp) _) | (with_reducible refine Later.drewN ?_ _) | (with_reducible refine Later.drew ?_) | (with_reducible refine Later.trans ?_ (Hid.out (by assumption)))))⟩
/-- the texts of tokens -/
def txs (L : List Tkn) : List (List UInt8) := L.map Prod.snd
theorem txs_len (L : List Tkn) : (txs L).length = L.length := by simp [txs]
theorem txs_at (L : List Tkn) (k : Nat) : (txs L).getD k [] = tsx L k := by
  unfold txs tsx
  rw [List.getD_eq_getElem?_getD, List.getD_eq_getElem?_getD, List.getElem?_map]
  cases L[k]? <;> rfl
theorem pcs_txs (L : List Tkn) (k : Nat) : pcs (txs L) k = (if (decide (0 < k) && blkB (tsx L (k - 1)) (tsx L k)) = true then [32] else []) ++ (tsx L k ++ nlT (tsx L k)) := by
  unfold pcs; rw [txs_at, txs_at]
/-- a token's box at block b -/
def Bx (w : World) (b : Nat) (x : Int) (y : List UInt8) : Prop := w.heap[b]? = some (.cells #[.int .i64 x, .string (tx y)] 33 (0, 0))
theorem Bx.cell {w : World} {b : Nat} {x : Int} {y : List UInt8} (h : Bx w b x y) : w.cell? ⟨b, 1, none⟩ = some (.string (tx y)) := by rw [cell_of_row _ _ 1 _ _ (0, 0) h]; rfl
theorem Bx.grown {w w' : World} {b : Nat} {x : Int} {y : List UInt8} {r : Option Nat} (hg : w.grownBy w' r) (h : Bx w b x y) (hr : r ≠ some b) : Bx w' b x y := by
  have hlt : b < w.heap.size := by
    by_cases hb : b < w.heap.size
    · exact hb
    · have h1 : w.heap[b]? = none := by simp; omega
      unfold Bx at h; rw [h1] at h; cases h
  exact (hg.block b hlt hr.symm).trans h
theorem own_ne_bx {w : World} {base b : Nat} {v : Value} {O : List (List UInt8)} {x : Int} {y : List UInt8} (ho : OwnT w base v O) (h : Bx w b x y) : v.ownBlock ≠ some b := by
  have h1 : w.ownsRow base 9 1 v O.length (O.map (fun x => Value.string (tx x))) := ho
  rcases h1.2 with ⟨rfl, _⟩ | ⟨g, cap, cur, rfl, hb, hg, _⟩
  · intro e; cases e
  · intro e
    have e2 : g = b := Option.some.inj e
    subst e2
    unfold Bx at h
    rw [h] at hg
    cases hg
theorem i_textOfTokens (a : Option Addr) (n cap : Nat) (L : List Tkn) (w : World) (hs : Tks w a n L) (hn8 : n ≤ 1000) (h12 : ∀ j, (tsx L j).length ≤ 12) : Calls Tryd.prog 42 #[.slice a n cap] w fun e w' => e = .returned (.string (tx (stdB (txs L)))) ∧ Later w w' := by
  have HS := Lib.hid hs
  have HN : Hid ((txs L).length = n) := Lib.hid (by rw [txs_len, hs.1])
  have H12 := Lib.hid h12
  obtain ⟨D, hD⟩ : ∃ D, D = stdB (txs L) := ⟨_, rfl⟩
  have G0 : Hid (([] : List (List UInt8)).flatten ++ rst (txs L) 0 = D) := Lib.hid (by rw [hD]; rfl)
  rw [← hD]
  clear hs h12 hD
  go_enter Tryd.func42, Tryd.ntmps42
  go_wp2_with fail
  go_loopw [3, 8] (fun v i wr => ∃ (O : List (List UInt8)) (k : Nat), i = .int .i64 k ∧ k ≤ n ∧ O.length ≤ 3 * k ∧ O.flatten.length ≤ 14 * k ∧ OwnT wr w.heap.size v O ∧ Later w wr ∧ Hid (O.flatten ++ rst (txs L) k = D)) (fun _ i _ => n - (intOf i).toNat)
  case atStart => exact ⟨[], 0, rfl, by omega, by simp, by simp, ownT_nil _ _, Later.refl _, G0⟩
  case round =>
    obtain ⟨O, k, rfl, hk, hO, hO2, ho, hb, HI⟩ := hrel
    have O3 := Lib.hid ho; have B3 := Lib.hid hb
    have hsz : w.heap.size ≤ wr.heap.size := hb.size
    clear G0
    by_cases hlt : k < n
    · obtain ⟨b, off, rfl, hc, hd⟩ := (HS.out.later hb).2.2.1 k hlt
      have HST := Lib.hid (rst_step (txs L) k (by rw [HN.out]; exact hlt))
      have HP := Lib.hid (pcs_txs L k)
      have l12 := H12.out k
      obtain ⟨x, hx⟩ : ∃ x, x = tkx L k := ⟨_, rfl⟩
      obtain ⟨y, hy⟩ : ∃ y, y = tsx L k := ⟨_, rfl⟩
      rw [← hx] at hc; rw [← hy] at hd l12 HP
      clear ho hb hx hy
      by_cases hk0 : k = 0
      · have e0 : decide ((0 : Int) < (k : Int)) = false := by simp; omega
        have e1 : ¬ (0 : Int) < (k : Int) := by omega
        have e2 : ¬ 0 < k := by omega
        have e3 : decide (0 < k) = false := by simpa using e2
        have HQ : Hid (pcs (txs L) k = y ++ nlT y) := Lib.hid (by rw [HP.out, hk0]; simp)
        clear HP hk0
        go_wp2_with fail
        go_quiet (fail)
        all_goals
          have A4 : Hid (Later (wr.alloc (.cells #[.int .i64 x, .string (tx y)] 33)) ((wr.alloc (.cells #[.int .i64 x, .string (tx y)] 33)).drewN nq)) := Lib.hid ((Later.refl _).drewN nq)
          have X4 : Hid (Bx ((wr.alloc (.cells #[.int .i64 x, .string (tx y)] 33)).drewN nq) wr.heap.size x y) := Lib.hid (heap_alloc_new wr _)
          generalize World.drewN (wr.alloc (.cells #[.int .i64 x, .string (tx y)] 33)) nq = w4 at A4 X4 ⊢
          have M4 : Hid (Later wr w4) := Lib.hid (Later.trans ((Later.refl wr).alloc _) A4.out)
          have L4 : Hid (Later w w4) := Lib.hid (Later.trans B3.out M4.out)
          have c4 : w4.cell? ⟨wr.heap.size, 1, none⟩ = some (.string (tx y)) := X4.out.cell
          clear hc hd A4
          by_cases hy59 : y = [59]
          · have a1 := eqT (tx y) y [59] rfl
            rw [decide_eq_true hy59] at a1
            have HNX : Hid ((O ++ [y] ++ [[10]]).flatten ++ rst (txs L) (k + 1) = D) := Lib.hid (by rw [← HI.out, HST.out, HQ.out]; simp [nlT, hy59])
            clear hy59
            go_wp2_with (first | (at_builtin; refine app1T rfl _ _ rfl w.heap.size _ _ _ (O) y (O3.out.later M4.out) rfl (by first | rfl | (simp only [World.heap_drewN, World.size_alloc]; rfl)) (by first | omega | (simp; omega)) (L4.out.size) ?_; intro v6 w6 ho hgr; have B6 : Hid (Later w w6) := Lib.hid (Below.grown (L4.out) hgr (L4.out.size) (fun j hj => ((O3.out.later M4.out).lt j hj).1)); have O6 := Lib.hid ho; have X6 : Hid (Bx w6 wr.heap.size x y) := Lib.hid (Bx.grown hgr X4.out (own_ne_bx (O3.out.later M4.out) X4.out)); have c6 : w6.cell? ⟨wr.heap.size, 1, none⟩ = some (.string (tx y)) := X6.out.cell; clear ho hgr) | (at_builtin; refine app1T rfl _ _ rfl w.heap.size _ _ _ ((O) ++ [y]) [10] (O6.out) rfl (by first | rfl | (simp only [World.heap_drewN, World.size_alloc]; rfl)) (by first | omega | (simp; omega)) (B6.out.size) ?_; intro v8 w8 ho hgr; have B8 : Hid (Later w w8) := Lib.hid (Below.grown (B6.out) hgr (B6.out.size) (fun j hj => ((O6.out).lt j hj).1)); have O8 := Lib.hid ho; clear ho hgr))
            go_roundw
            case rel => exact ⟨_, k + 1, by go_num, by omega, by simp; omega, by simp at hO2 ⊢; omega, O8.out, B8.out, HNX⟩
            case measure => simp [intOf]; omega
          · have a1 := eqT (tx y) y [59] rfl
            rw [decide_eq_false hy59] at a1
            have HNX : Hid ((O ++ [y]).flatten ++ rst (txs L) (k + 1) = D) := Lib.hid (by rw [← HI.out, HST.out, HQ.out]; simp [nlT, hy59])
            clear hy59
            go_wp2_with (first | (at_builtin; refine app1T rfl _ _ rfl w.heap.size _ _ _ (O) y (O3.out.later M4.out) rfl (by first | rfl | (simp only [World.heap_drewN, World.size_alloc]; rfl)) (by first | omega | (simp; omega)) (L4.out.size) ?_; intro v6 w6 ho hgr; have B6 : Hid (Later w w6) := Lib.hid (Below.grown (L4.out) hgr (L4.out.size) (fun j hj => ((O3.out.later M4.out).lt j hj).1)); have O6 := Lib.hid ho; have X6 : Hid (Bx w6 wr.heap.size x y) := Lib.hid (Bx.grown hgr X4.out (own_ne_bx (O3.out.later M4.out) X4.out)); have c6 : w6.cell? ⟨wr.heap.size, 1, none⟩ = some (.string (tx y)) := X6.out.cell; clear ho hgr))
            go_roundw
            case rel => exact ⟨_, k + 1, by go_num, by omega, by simp; omega, by simp at hO2 ⊢; omega, O6.out, B6.out, HNX⟩
            case measure => simp [intOf]; omega
      · obtain ⟨m, hm⟩ : ∃ m, k = m + 1 := ⟨k - 1, by omega⟩
        have ew : IntKind.i64.wrap ((k : Int) - 1) = (m : Int) := by rw [show (k : Int) - 1 = (m : Int) by omega]; exact IntWalk.i64_in _ (by omega)
        have hmn : m < n := by omega
        obtain ⟨b', off', hbo, hc2, hd2⟩ := (HS.out.later B3.out).2.2.1 m hmn
        cases hbo
        have e0 : decide ((0 : Int) < (k : Int)) = true := by simp; omega
        have e1 : (0 : Int) < (k : Int) := by omega
        have e2 : 0 < k := by omega
        have e3 : decide (0 < k) = true := by simpa using e2
        have HQ : Hid (pcs (txs L) k = (if blkB (tsx L m) y = true then [32] else []) ++ (y ++ nlT y)) := Lib.hid (by rw [HP.out, show k - 1 = m by omega, decide_eq_true (show 0 < k by omega), Bool.true_and])
        obtain ⟨x2, hx2⟩ : ∃ x, x = tkx L m := ⟨_, rfl⟩
        obtain ⟨y2, hy2⟩ : ∃ y, y = tsx L m := ⟨_, rfl⟩
        have HBK := Lib.hid (fun W => i_haveBlank x2 x y2 y W)
        rw [← hx2] at hc2; rw [← hy2] at hd2 HQ
        obtain ⟨z, hz⟩ : ∃ z, z = blkB y2 y := ⟨_, rfl⟩
        rw [← hz] at HBK HQ
        obtain ⟨sy, hsy⟩ : ∃ s, s = tx y := ⟨_, rfl⟩
        obtain ⟨sy2, hsy2⟩ : ∃ s, s = tx y2 := ⟨_, rfl⟩
        rw [← hsy] at hd HBK; rw [← hsy2] at hd2 HBK
        have HSY := Lib.hid hsy
        have KL : Hid (∀ W', Later (wr.alloc (.cells #[.int .i64 x, .string sy] 33)) W' → W'.cell? ⟨b, off + m * 2, none⟩ = some (.int .i64 x2) ∧ W'.cell? ⟨b, off + m * 2 + 1, none⟩ = some (.string sy2) ∧ W'.cell? ⟨wr.heap.size, 0, none⟩ = some (.int .i64 x) ∧ W'.cell? ⟨wr.heap.size, 1, none⟩ = some (.string sy)) := Lib.hid (fun W' q => by
          have hbl := cell_lt hc2
          have X := (q.block wr.heap.size (by rw [World.size_alloc]; exact Nat.lt_succ_self _)).trans (heap_alloc_new wr _)
          refine ⟨?_, ?_, ?_, ?_⟩
          · rw [(Later.trans ((Later.refl wr).alloc _) q).cell (p := ⟨b, off + m * 2, none⟩) hbl]; exact hc2
          · rw [(Later.trans ((Later.refl wr).alloc _) q).cell (p := ⟨b, off + m * 2 + 1, none⟩) hbl]; exact hd2
          · rw [cell_of_row _ _ 0 _ _ (0, 0) X]; rfl
          · rw [cell_of_row _ _ 1 _ _ (0, 0) X]; rfl)
        clear hx2 hy2 hz hm hk0 HP hsy hsy2
        cases z
        · skip
          go_wp2_with fail
          go_region_held3 (fun w' => w'.cell? ⟨b, off + m * 2, none⟩ = some (.int .i64 x2) ∧ w'.cell? ⟨b, off + m * 2 + 1, none⟩ = some (.string sy2) ∧ w'.cell? ⟨wr.heap.size, 0, none⟩ = some (.int .i64 x) ∧ w'.cell? ⟨wr.heap.size, 1, none⟩ = some (.string sy)) (exact KL.out _ (by repeat (first | (with_reducible exact Later.refl _) | (with_reducible exact Hid.out (by assumption)) | (with_reducible refine Later.alloc ?_ _) | (with_reducible refine Later.setCell ?_ (by simp; omega) _) | (with_reducible refine Later.setCell ?_ (by simp) _) | (with_reducible refine Later.drewN ?_ _) | (with_reducible refine Later.drew ?_) | (with_reducible refine Later.trans ?_ (Hid.out (by assumption))))))
            (first | (go_at_call 64; refine (HBK.out _).mono ?_; rintro e w4 ⟨rfl, hb⟩; have H4 := Lib.hid hb; clear hb))
          all_goals
            have A4 : Hid (Later (wr.alloc (.cells #[.int .i64 x, .string sy] 33)) w4) := Lib.hid (by repeat (first | (with_reducible exact Later.refl _) | (with_reducible exact Hid.out (by assumption)) | (with_reducible refine Later.alloc ?_ _) | (with_reducible refine Later.setCell ?_ (by simp; omega) _) | (with_reducible refine Later.setCell ?_ (by simp) _) | (with_reducible refine Later.drewN ?_ _) | (with_reducible refine Later.drew ?_) | (with_reducible refine Later.trans ?_ (Hid.out (by assumption)))))
            have M4 : Hid (Later wr w4) := Lib.hid (Later.trans ((Later.refl wr).alloc _) A4.out)
            have L4 : Hid (Later w w4) := Lib.hid (Later.trans B3.out M4.out)
            have hsy := HSY.out
            subst hsy
            have X4 : Hid (Bx w4 wr.heap.size x y) := Lib.hid (A4.out.block wr.heap.size (by rw [World.size_alloc]; exact Nat.lt_succ_self _) |>.trans (heap_alloc_new wr _))
            have c4 : w4.cell? ⟨wr.heap.size, 1, none⟩ = some (.string (tx y)) := X4.out.cell
            clear hc hd hc2 hd2 H4 KL HBK ew A4
            by_cases hy59 : y = [59]
            · have a1 := eqT (tx y) y [59] rfl
              rw [decide_eq_true hy59] at a1
              have HNX : Hid ((O ++ [y] ++ [[10]]).flatten ++ rst (txs L) (k + 1) = D) := Lib.hid (by rw [← HI.out, HST.out, HQ.out]; simp [nlT, hy59])
              clear hy59
              go_wp2_with (first | (at_builtin; refine app1T rfl _ _ rfl w.heap.size _ _ _ (O) y (O3.out.later M4.out) rfl (by first | rfl | (simp only [World.heap_drewN, World.size_alloc]; rfl)) (by first | omega | (simp; omega)) (L4.out.size) ?_; intro v6 w6 ho hgr; have B6 : Hid (Later w w6) := Lib.hid (Below.grown (L4.out) hgr (L4.out.size) (fun j hj => ((O3.out.later M4.out).lt j hj).1)); have O6 := Lib.hid ho; have X6 : Hid (Bx w6 wr.heap.size x y) := Lib.hid (Bx.grown hgr X4.out (own_ne_bx (O3.out.later M4.out) X4.out)); have c6 : w6.cell? ⟨wr.heap.size, 1, none⟩ = some (.string (tx y)) := X6.out.cell; clear ho hgr) | (at_builtin; refine app1T rfl _ _ rfl w.heap.size _ _ _ ((O) ++ [y]) [10] (O6.out) rfl (by first | rfl | (simp only [World.heap_drewN, World.size_alloc]; rfl)) (by first | omega | (simp; omega)) (B6.out.size) ?_; intro v8 w8 ho hgr; have B8 : Hid (Later w w8) := Lib.hid (Below.grown (B6.out) hgr (B6.out.size) (fun j hj => ((O6.out).lt j hj).1)); have O8 := Lib.hid ho; clear ho hgr))
              go_roundw
              case rel => exact ⟨_, k + 1, by go_num, by omega, by simp; omega, by simp at hO2 ⊢; omega, O8.out, B8.out, HNX⟩
              case measure => simp [intOf]; omega
            · have a1 := eqT (tx y) y [59] rfl
              rw [decide_eq_false hy59] at a1
              have HNX : Hid ((O ++ [y]).flatten ++ rst (txs L) (k + 1) = D) := Lib.hid (by rw [← HI.out, HST.out, HQ.out]; simp [nlT, hy59])
              clear hy59
              go_wp2_with (first | (at_builtin; refine app1T rfl _ _ rfl w.heap.size _ _ _ (O) y (O3.out.later M4.out) rfl (by first | rfl | (simp only [World.heap_drewN, World.size_alloc]; rfl)) (by first | omega | (simp; omega)) (L4.out.size) ?_; intro v6 w6 ho hgr; have B6 : Hid (Later w w6) := Lib.hid (Below.grown (L4.out) hgr (L4.out.size) (fun j hj => ((O3.out.later M4.out).lt j hj).1)); have O6 := Lib.hid ho; have X6 : Hid (Bx w6 wr.heap.size x y) := Lib.hid (Bx.grown hgr X4.out (own_ne_bx (O3.out.later M4.out) X4.out)); have c6 : w6.cell? ⟨wr.heap.size, 1, none⟩ = some (.string (tx y)) := X6.out.cell; clear ho hgr))
              go_roundw
              case rel => exact ⟨_, k + 1, by go_num, by omega, by simp; omega, by simp at hO2 ⊢; omega, O6.out, B6.out, HNX⟩
              case measure => simp [intOf]; omega
        · skip
          go_wp2_with fail
          go_region_held3 (fun w' => w'.cell? ⟨b, off + m * 2, none⟩ = some (.int .i64 x2) ∧ w'.cell? ⟨b, off + m * 2 + 1, none⟩ = some (.string sy2) ∧ w'.cell? ⟨wr.heap.size, 0, none⟩ = some (.int .i64 x) ∧ w'.cell? ⟨wr.heap.size, 1, none⟩ = some (.string sy)) (exact KL.out _ (by repeat (first | (with_reducible exact Later.refl _) | (with_reducible exact Hid.out (by assumption)) | (with_reducible refine Later.alloc ?_ _) | (with_reducible refine Later.setCell ?_ (by simp; omega) _) | (with_reducible refine Later.setCell ?_ (by simp) _) | (with_reducible refine Later.drewN ?_ _) | (with_reducible refine Later.drew ?_) | (with_reducible refine Later.trans ?_ (Hid.out (by assumption))))))
            (first | (go_at_call 64; refine (HBK.out _).mono ?_; rintro e w4 ⟨rfl, hb⟩; have H4 := Lib.hid hb; clear hb))
          all_goals
            have A4 : Hid (Later (wr.alloc (.cells #[.int .i64 x, .string sy] 33)) w4) := Lib.hid (by repeat (first | (with_reducible exact Later.refl _) | (with_reducible exact Hid.out (by assumption)) | (with_reducible refine Later.alloc ?_ _) | (with_reducible refine Later.setCell ?_ (by simp; omega) _) | (with_reducible refine Later.setCell ?_ (by simp) _) | (with_reducible refine Later.drewN ?_ _) | (with_reducible refine Later.drew ?_) | (with_reducible refine Later.trans ?_ (Hid.out (by assumption)))))
            have M4 : Hid (Later wr w4) := Lib.hid (Later.trans ((Later.refl wr).alloc _) A4.out)
            have L4 : Hid (Later w w4) := Lib.hid (Later.trans B3.out M4.out)
            have hsy := HSY.out
            subst hsy
            have X4 : Hid (Bx w4 wr.heap.size x y) := Lib.hid (A4.out.block wr.heap.size (by rw [World.size_alloc]; exact Nat.lt_succ_self _) |>.trans (heap_alloc_new wr _))
            have c4 : w4.cell? ⟨wr.heap.size, 1, none⟩ = some (.string (tx y)) := X4.out.cell
            clear hc hd hc2 hd2 H4 KL HBK ew A4
            by_cases hy59 : y = [59]
            · have a1 := eqT (tx y) y [59] rfl
              rw [decide_eq_true hy59] at a1
              have HNX : Hid ((O ++ [[32]] ++ [y] ++ [[10]]).flatten ++ rst (txs L) (k + 1) = D) := Lib.hid (by rw [← HI.out, HST.out, HQ.out]; simp [nlT, hy59])
              clear hy59
              go_wp2_with (first | (at_builtin; refine app1T rfl _ _ rfl w.heap.size _ _ _ (O) [32] (O3.out.later M4.out) rfl (by first | rfl | (simp only [World.heap_drewN, World.size_alloc]; rfl)) (by first | omega | (simp; omega)) (L4.out.size) ?_; intro v5 w5 ho hgr; have B5 : Hid (Later w w5) := Lib.hid (Below.grown (L4.out) hgr (L4.out.size) (fun j hj => ((O3.out.later M4.out).lt j hj).1)); have O5 := Lib.hid ho; have X5 : Hid (Bx w5 wr.heap.size x y) := Lib.hid (Bx.grown hgr X4.out (own_ne_bx (O3.out.later M4.out) X4.out)); have c5 : w5.cell? ⟨wr.heap.size, 1, none⟩ = some (.string (tx y)) := X5.out.cell; clear ho hgr) | (at_builtin; refine app1T rfl _ _ rfl w.heap.size _ _ _ (O ++ [[32]]) y (O5.out) rfl (by first | rfl | (simp only [World.heap_drewN, World.size_alloc]; rfl)) (by first | omega | (simp; omega)) (B5.out.size) ?_; intro v6 w6 ho hgr; have B6 : Hid (Later w w6) := Lib.hid (Below.grown (B5.out) hgr (B5.out.size) (fun j hj => ((O5.out).lt j hj).1)); have O6 := Lib.hid ho; have X6 : Hid (Bx w6 wr.heap.size x y) := Lib.hid (Bx.grown hgr X5.out (own_ne_bx (O5.out) X5.out)); have c6 : w6.cell? ⟨wr.heap.size, 1, none⟩ = some (.string (tx y)) := X6.out.cell; clear ho hgr) | (at_builtin; refine app1T rfl _ _ rfl w.heap.size _ _ _ ((O ++ [[32]]) ++ [y]) [10] (O6.out) rfl (by first | rfl | (simp only [World.heap_drewN, World.size_alloc]; rfl)) (by first | omega | (simp; omega)) (B6.out.size) ?_; intro v8 w8 ho hgr; have B8 : Hid (Later w w8) := Lib.hid (Below.grown (B6.out) hgr (B6.out.size) (fun j hj => ((O6.out).lt j hj).1)); have O8 := Lib.hid ho; clear ho hgr))
              go_roundw
              case rel => exact ⟨_, k + 1, by go_num, by omega, by simp; omega, by simp at hO2 ⊢; omega, O8.out, B8.out, HNX⟩
              case measure => simp [intOf]; omega
            · have a1 := eqT (tx y) y [59] rfl
              rw [decide_eq_false hy59] at a1
              have HNX : Hid ((O ++ [[32]] ++ [y]).flatten ++ rst (txs L) (k + 1) = D) := Lib.hid (by rw [← HI.out, HST.out, HQ.out]; simp [nlT, hy59])
              clear hy59
              go_wp2_with (first | (at_builtin; refine app1T rfl _ _ rfl w.heap.size _ _ _ (O) [32] (O3.out.later M4.out) rfl (by first | rfl | (simp only [World.heap_drewN, World.size_alloc]; rfl)) (by first | omega | (simp; omega)) (L4.out.size) ?_; intro v5 w5 ho hgr; have B5 : Hid (Later w w5) := Lib.hid (Below.grown (L4.out) hgr (L4.out.size) (fun j hj => ((O3.out.later M4.out).lt j hj).1)); have O5 := Lib.hid ho; have X5 : Hid (Bx w5 wr.heap.size x y) := Lib.hid (Bx.grown hgr X4.out (own_ne_bx (O3.out.later M4.out) X4.out)); have c5 : w5.cell? ⟨wr.heap.size, 1, none⟩ = some (.string (tx y)) := X5.out.cell; clear ho hgr) | (at_builtin; refine app1T rfl _ _ rfl w.heap.size _ _ _ (O ++ [[32]]) y (O5.out) rfl (by first | rfl | (simp only [World.heap_drewN, World.size_alloc]; rfl)) (by first | omega | (simp; omega)) (B5.out.size) ?_; intro v6 w6 ho hgr; have B6 : Hid (Later w w6) := Lib.hid (Below.grown (B5.out) hgr (B5.out.size) (fun j hj => ((O5.out).lt j hj).1)); have O6 := Lib.hid ho; have X6 : Hid (Bx w6 wr.heap.size x y) := Lib.hid (Bx.grown hgr X5.out (own_ne_bx (O5.out) X5.out)); have c6 : w6.cell? ⟨wr.heap.size, 1, none⟩ = some (.string (tx y)) := X6.out.cell; clear ho hgr))
              go_roundw
              case rel => exact ⟨_, k + 1, by go_num, by omega, by simp; omega, by simp at hO2 ⊢; omega, O6.out, B6.out, HNX⟩
              case measure => simp [intOf]; omega
    · obtain rfl : k = n := by omega
      have HE : Hid (O.flatten = D) := Lib.hid (by
        have h := HI.out
        rw [← HN.out, rst_end] at h
        simpa using h)
      obtain ⟨a, cap, rfl, hc, hWr, hmx⟩ := ho.rd
      have WR := Lib.hid hWr
      have JT := Lib.hid (fun W => i_joinedTexts a O.length cap O W)
      clear ho hb hWr
      go_wp2_with fail
      refine (JT.out _ WR.out hmx (by omega)).mono ?_
      rintro e w4 ⟨rfl, hb⟩
      have B4 := Lib.hid (Later.trans B3.out hb)
      clear hb
      go_wp2_with fail
      go_ret
      rw [HE.out]
      exact ⟨rfl, B4.out⟩
theorem lsE_cases (L : List Tkn) : lsE L = 0 ∨ lsE L = 1 ∨ lsE L = 3 := by
  unfold lsE; repeat' split
  all_goals simp
theorem lsE_zero {L : List Tkn} (h : lsE L = 0) : L.length ≤ 800 ∧ ∀ k, k < L.length → tokB (tkx L k) (tsx L k) = true := by
  unfold lsE at h
  split at h
  · cases h
  · split at h
    · rename_i h1 h2
      refine ⟨by omega, fun k hk => ?_⟩
      exact List.all_eq_true.1 h2 _ (kx_mem L k hk)
    · cases h
theorem tok_kd0 {k : Int} {l : List UInt8} (h : tokB k l = true) : kdB l ≠ 0 ∧ (kdB l : Int) = k := by
  rw [tok_kd] at h
  simp at h
  omega
theorem lsE_12 {L : List Tkn} (h : lsE L = 0) (j : Nat) : (tsx L j).length ≤ 12 := by
  by_cases hj : j < L.length
  · exact (kd_len (tok_kd0 ((lsE_zero h).2 j hj)).1).2
  · unfold tsx; rw [List.getD_eq_getElem?_getD, List.getElem?_eq_none (by omega)]; simp
/-- what StandardText hands back of a list -/
def stV (L : List Tkn) : List UInt8 := if lsE L = 0 then stdB (txs L) else []
theorem i_StandardText (a : Option Addr) (n cap : Nat) (L : List Tkn) (w : World) (hs : Tks w a n L) (hW : Wst w) : Calls Tryd.prog 13 #[.slice a n cap] w fun e w' => e = .returned (.tuple #[.string (tx (stV L)), .int .i64 (lsE L)]) ∧ Later w w' := by
  have TE := Lib.hid (i_tokensError a n cap L w hs hW)
  have HS := Lib.hid hs
  have HN := Lib.hid hs.1
  have hc := lsE_cases L
  have HV : Hid (stV L = if lsE L = 0 then stdB (txs L) else []) := Lib.hid rfl
  have H8 : Hid (lsE L = 0 → n ≤ 1000) := Lib.hid (fun h => by have := (lsE_zero h).1; have h2 := hs.1; omega)
  have H12 : Hid (lsE L = 0 → ∀ j, (tsx L j).length ≤ 12) := Lib.hid (fun h => lsE_12 h)
  clear hs hW
  obtain ⟨x, hx⟩ : ∃ x, x = lsE L := ⟨_, rfl⟩
  rw [← hx] at TE hc HV H8 H12 ⊢
  clear hx
  by_cases h0 : x = 0
  · subst h0
    have h8 := H8.out rfl
    have h12 := Lib.hid (H12.out rfl)
    rw [if_pos rfl] at HV
    have HX : Hid (∀ W, Tks W a n L → Calls Tryd.prog 42 #[.slice a n cap] W fun e w' => e = .returned (.string (tx (stV L))) ∧ Later W w') := Lib.hid (fun W h => by rw [HV.out]; exact i_textOfTokens a n cap L W h h8 h12.out)
    clear hc
    go_enter Tryd.func13, Tryd.ntmps13
    go_wp2_with (first | (go_at_call 41; refine TE.out.mono ?_; rintro e w1 ⟨rfl, hb⟩; have B1 := Lib.hid hb; clear hb) | (go_at_call 42; refine (HX.out _ (HS.out.later B1.out)).mono ?_; rintro e w2 ⟨rfl, hb⟩; have B2 := Lib.hid (Later.trans B1.out hb); clear hb))
    go_ret2
    exact ⟨rfl, B2.out⟩
  · have e1 : (x != 0) = true := by simpa using h0
    rw [if_neg h0] at HV
    rw [HV.out]
    clear h0 hc
    go_enter Tryd.func13, Tryd.ntmps13
    go_wp2_with (first | (go_at_call 41; refine TE.out.mono ?_; rintro e w1 ⟨rfl, hb⟩; have B1 := Lib.hid hb; clear hb))
    go_ret2
    exact ⟨rfl, B1.out⟩
/-- how many of the first k tokens have the text u -/
def cwN (L : List Tkn) (u : List UInt8) (k : Nat) : Nat := (L.take k).countP (fun x => decide (x.2 = u))
theorem cwN_step (L : List Tkn) (u : List UInt8) (k : Nat) (h : k < L.length) : cwN L u (k + 1) = cwN L u k + (if tsx L k = u then 1 else 0) := by
  unfold cwN
  rw [List.take_succ_eq_append_getElem h, List.countP_append, kx_at L k h]
  simp [List.countP_cons]
theorem cwN_le (L : List Tkn) (u : List UInt8) (k : Nat) : cwN L u k ≤ k := by
  unfold cwN
  have h1 := List.countP_le_length (p := fun x : Tkn => decide (x.2 = u)) (l := L.take k)
  rw [List.length_take] at h1; omega
def cwE (L : List Tkn) (u : List UInt8) : Int := if lsE L ≠ 0 then lsE L else if wrdB u = true then 0 else 2
def cwV (L : List Tkn) (u : List UInt8) : Int := if cwE L u = 0 then cwN L u L.length else 0
theorem i_CountWords (a : Option Addr) (n cap : Nat) (L : List Tkn) (u : List UInt8) (w : World) (hs : Tks w a n L) (hu : u.length ≤ 1048576) (hW : Wst w) : Calls Tryd.prog 16 #[.slice a n cap, .string (tx u)] w fun e w' => e = .returned (.tuple #[.int .i64 (cwV L u), .int .i64 (cwE L u)]) ∧ Later w w' := by
  have TE := Lib.hid (i_tokensError a n cap L w hs hW)
  have IW : Hid (∀ W, Calls Tryd.prog 47 #[.string (tx u)] W fun e w' => e = .returned (.bool (wrdB u)) ∧ Later W w') := Lib.hid (fun W => i_isWord (tx u) W hu)
  have HS := Lib.hid hs
  have HN := Lib.hid hs.1
  have hc := lsE_cases L
  have HE : Hid (cwE L u = if lsE L ≠ 0 then lsE L else if wrdB u = true then 0 else 2) := Lib.hid rfl
  have HV : Hid (cwV L u = if cwE L u = 0 then (cwN L u L.length : Int) else 0) := Lib.hid rfl
  have H8 : Hid (lsE L = 0 → n ≤ 800) := Lib.hid (fun h => by have := (lsE_zero h).1; have h2 := hs.1; omega)
  have CL := Lib.hid (cwN_le L u)
  clear hs hW
  obtain ⟨x, hx⟩ : ∃ x, x = lsE L := ⟨_, rfl⟩
  rw [← hx] at TE hc HE H8
  obtain ⟨y, hy⟩ : ∃ y, y = wrdB u := ⟨_, rfl⟩
  rw [← hy] at IW HE
  obtain ⟨s, hsx⟩ : ∃ s, s = tx u := ⟨_, rfl⟩
  have HSX := Lib.hid hsx
  rw [← hsx] at IW ⊢
  clear hx hy hsx
  by_cases h0 : x = 0
  · subst h0
    have h8 := H8.out rfl
    rw [if_neg (by simp)] at HE
    clear hc
    cases y
    · have e1 : cwE L u = 2 := by rw [HE.out]; rfl
      have e2 : cwV L u = 0 := by rw [HV.out, e1]; rfl
      rw [e1, e2]
      clear e1 e2
      go_enter Tryd.func16, Tryd.ntmps16
      go_wp2_with (first | (go_at_call 41; refine TE.out.mono ?_; rintro e w1 ⟨rfl, hb⟩; have B1 := Lib.hid hb; clear hb) | (go_at_call 47; refine (IW.out _).mono ?_; rintro e w2 ⟨rfl, hb⟩; have B2 := Lib.hid (Later.trans B1.out hb); clear hb))
      go_ret2
      exact ⟨rfl, B2.out⟩
    · have e1 : cwE L u = 0 := by rw [HE.out]; rfl
      have e2 : cwV L u = (cwN L u n : Int) := by rw [HV.out, e1, if_pos rfl, HN.out]
      rw [e1, e2]
      clear e1 e2
      go_enter Tryd.func16, Tryd.ntmps16
      go_wp2_with (first | (go_at_call 41; refine TE.out.mono ?_; rintro e w1 ⟨rfl, hb⟩; have B1 := Lib.hid hb; clear hb) | (go_at_call 47; refine (IW.out _).mono ?_; rintro e w2 ⟨rfl, hb⟩; have B2 := Lib.hid (Later.trans B1.out hb); clear hb))
      go_loopw [7, 20] (fun c i wr => ∃ k : Nat, i = .int .i64 k ∧ k ≤ n ∧ c = .int .i64 (cwN L u k : Nat) ∧ Later w wr) (fun _ i _ => n - (intOf i).toNat)
      case atStart => exact ⟨0, rfl, by omega, by simp [cwN], B2.out⟩
      case round =>
        obtain ⟨k, rfl, hk, rfl, hb⟩ := hrel
        have B3 := Lib.hid hb
        by_cases hlt : k < n
        · obtain ⟨b, off, rfl, hc, hd⟩ := (HS.out.later hb).2.2.1 k hlt
          have HST := Lib.hid (cwN_step L u k (by rw [HN.out]; exact hlt))
          have hcl := CL.out k
          obtain ⟨p, hp⟩ : ∃ p, p = cwN L u k := ⟨_, rfl⟩
          obtain ⟨x1, hx1⟩ : ∃ x, x = tkx L k := ⟨_, rfl⟩
          obtain ⟨y1, hy1⟩ : ∃ y, y = tsx L k := ⟨_, rfl⟩
          rw [← hp] at hcl HST ⊢
          rw [← hx1] at hc; rw [← hy1] at hd HST
          have a1 : ((tx y1).toList == s.toList) = decide (y1 = u) := by
            rw [HSX.out, Lib.toList_data, Lib.toList_data]
            show (y1 == u) = _
            by_cases h : y1 = u <;> simp [h]
          obtain ⟨sy, hsy⟩ : ∃ s, s = tx y1 := ⟨_, rfl⟩
          rw [← hsy] at a1 hd
          clear hb hp hx1 hy1 hsy
          by_cases hq : y1 = u
          · rw [decide_eq_true hq] at a1
            rw [if_pos hq] at HST
            clear hq
            go_wp2_with fail
            go_roundw
            case rel => exact ⟨k + 1, by go_num, by omega, by rw [HST.out]; go_num, (by repeat (first | (with_reducible exact Later.refl _) | (with_reducible exact Hid.out (by assumption)) | (with_reducible refine Later.alloc ?_ _) | (with_reducible refine Later.setCell ?_ (by simp; omega) _) | (with_reducible refine Later.setCell ?_ (by simp) _) | (with_reducible refine Later.drewN ?_ _) | (with_reducible refine Later.drew ?_) | (with_reducible refine Later.trans ?_ (Hid.out (by assumption)))))⟩
            case measure => simp [intOf]; omega
          · rw [decide_eq_false hq] at a1
            rw [if_neg hq] at HST
            clear hq
            go_wp2_with fail
            go_roundw
            case rel => exact ⟨k + 1, by go_num, by omega, by rw [HST.out]; go_num, (by repeat (first | (with_reducible exact Later.refl _) | (with_reducible exact Hid.out (by assumption)) | (with_reducible refine Later.alloc ?_ _) | (with_reducible refine Later.setCell ?_ (by simp; omega) _) | (with_reducible refine Later.setCell ?_ (by simp) _) | (with_reducible refine Later.drewN ?_ _) | (with_reducible refine Later.drew ?_) | (with_reducible refine Later.trans ?_ (Hid.out (by assumption)))))⟩
            case measure => simp [intOf]; omega
        · obtain rfl : k = n := by omega
          clear hb
          go_wp2_with fail
          go_ret2
          exact ⟨rfl, B3.out⟩
  · have e1 : (x != 0) = true := by simpa using h0
    have e2 : cwE L u = x := by rw [HE.out, if_pos h0]
    have e3 : cwV L u = 0 := by rw [HV.out, e2, if_neg h0]
    rw [e2, e3]
    clear h0 hc e2 e3
    go_enter Tryd.func16, Tryd.ntmps16
    go_wp2_with (first | (go_at_call 41; refine TE.out.mono ?_; rintro e w1 ⟨rfl, hb⟩; have B1 := Lib.hid hb; clear hb))
    go_ret2
    exact ⟨rfl, B1.out⟩
end Go.Proofs.YtpeebgkgccacbaaDoor
