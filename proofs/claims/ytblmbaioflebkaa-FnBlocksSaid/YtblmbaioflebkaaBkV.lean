/- The walk of the law on default blocks. -/
import Derived.Test.YtblmbaioflebkaaBkL
import Derived.Test.YtblmbaioflebkaaBkD
import Derived.Test.YtblmbaioflebkaaBkN
import Derived.Test.YtblmbaioflebkaaSgIT
import Derived.Test.YtblmbaioflebkaaSgB
import Derived.Test.YtblmbaioflebkaaRow
import Derived.Test.YtblmbaioflebkaaDraw0
namespace Go.Proofs.Ytblmbaioflebkaa
open Go.RowKit
set_option maxHeartbeats 4000000
set_option linter.unusedVariables false
set_option linter.unusedSimpArgs false
theorem l_likeInts (a b : Option Addr) (n cap m cap' : Nat) (l : List Int) (w : World) (hs : Sl w a n l) (ht : Sl w b m l) :
    Calls Try.prog 17 #[.slice a n cap, .slice b m cap'] w fun e w' => e = .returned (.bool true) ∧ Later w w' := by
  have hn := hs.1; have hm := ht.1
  obtain rfl : n = m := by omega
  have HS := Lib.hid hs; have HT := Lib.hid ht
  have hn' := hs.2.1
  clear hs ht hm hn
  have e0 : ((n : Int) != (n : Int)) = false := by simp
  go_enter Try.func17, Try.ntmps17
  go_wp2
  go_loopw [5] (fun i wr => ∃ k : Nat, k ≤ n ∧ i = .int .i64 k ∧ Later w wr) (fun i _ => n - (intOf i).toNat)
  case atStart => exact ⟨0, by omega, rfl, Later.refl _⟩
  case round =>
    obtain ⟨k, hk, rfl, hlw⟩ := hrel
    have HW := Lib.hid hlw
    clear hlw
    by_cases hlt : k < n
    · obtain ⟨b1, o1, rfl, c1⟩ := (HS.out.later HW.out).at k hlt
      obtain ⟨b2, o2, rfl, c2⟩ := (HT.out.later HW.out).at k hlt
      have e1 : (gx l k != gx l k) = false := by simp
      go_wp2
      go_quiet (fail)
      go_wp2
      go_roundw
      case rel => exact ⟨k + 1, by omega, by go_num, (by repeat (first | (with_reducible exact Later.refl _) | (with_reducible exact Hid.out (by assumption)) | (with_reducible refine Later.alloc ?_ _) | (with_reducible refine Later.setCell ?_ (by simp; omega) _) | (with_reducible refine Later.setCell ?_ (by simp) _) | (with_reducible refine Later.drewN ?_ _) | (with_reducible refine Later.drew ?_) | (with_reducible refine Later.trans ?_ (Hid.out (by assumption)))))⟩
      case measure => simp [intOf]; omega
    · obtain rfl : k = n := by omega
      go_wp2
      go_ret
      exact ⟨rfl, HW.out⟩
theorem sgs_far {w : World} {a : Option Addr} {n g : Nat} {L : List Sg} (h : Sgs w a n L) (u : Value) (hne : ∀ x, a = some x → x.block ≠ g) : Sgs (w.setCell ⟨g, 0, none⟩ u) a n L := by
  obtain ⟨h1, h2, h3, h4⟩ := h
  refine ⟨h1, h2, fun k hk => ?_, h4⟩
  obtain ⟨b, off, e, hcl⟩ := h3 k hk
  have hne := hne _ e
  refine ⟨b, off, e, fun j hj => ?_⟩
  rw [World.cell?_setCell_far _ _ _ _ (Ne.symm hne)]
  exact hcl j hj
/-- a layout that was drawn -/
def DrawnL (w : World) (e : Ending) (w' : World) : Prop :=
  ∃ (a : Option Addr) (n cap : Nat) (L : List Sg), e = .returned (.agg #[.slice a n cap]) ∧ Sgs w' a n L ∧ n ≤ cap ∧ Below w.heap.size w w'
set_option maxRecDepth 100000 in
theorem s_DrawDefaultBlocks (a : Option Addr) (len cap : Nat) (w : World) (hs : Bytes w a len) :
    Calls Try.prog 14 #[.slice a len cap] w (DrawnL w) := by
  have HS := Lib.hid hs
  clear hs
  go_enter Try.func14, Try.ntmps14
  go_wp2_with fail
  refine (s_From a len cap _ (HS.out.later ((Below.refl _ _).alloc (Nat.le_refl _) _))).mono ?_
  rintro e w1 ⟨rfl, src, lt, bel⟩
  rw [World.size_alloc] at src lt bel ⊢
  have hc1 : w1.cell? ⟨w.heap.size, 0, none⟩ = some (.slice none 0 0) := by rw [bel.cell (p := ⟨w.heap.size, 0, none⟩) (Nat.lt_succ_self _)]; simp
  have B1 : Hid (Below w.heap.size w w1) := Lib.hid (((Below.refl _ _).alloc (Nat.le_refl _) _).trans (bel.mono (Nat.le_succ _)))
  have S1 := Lib.hid src
  have hf1 : w1.frozen? ⟨w.heap.size, 0, none⟩ = false := by rw [Below.frozen (p := ⟨w.heap.size, 0, none⟩) bel (Nat.lt_succ_self _)]; simp
  clear src bel
  go_wp2_with fail
  refine (s_Draw (w.heap.size + 1) a len cap _ S1.out).mono ?_
  rintro e w2 ⟨a', n, cap', L, rfl, hl, hcap, h26, hsm, hbl, src, gr⟩
  have B2 := Lib.hid (B1.out.grown gr B1.out.size (fun k h => by have := Option.some.inj h; omega))
  have hc2 := gr.cell hc1 (fun e => by have := Option.some.inj e; simp at this)
  have hf2 : w2.frozen? ⟨w.heap.size, 0, none⟩ = false := by rw [World.frozen?_of_block (w := w1) (gr.block w.heap.size (by omega) (fun e => by have := Option.some.inj e; omega))]; exact hf1
  have L2 := Lib.hid hl
  have NB : Hid (∀ x, a' = some x → x.block ≠ w.heap.size) := Lib.hid (fun x hx => by have h1 := hbl x hx; omega)
  have hsz := B1.out.size
  clear hl src gr hbl hsm
  go_wp2_with fail
  refine bodyPost_ret (v := .agg #[.slice a' n cap']) (by simp [results, Try.results14, go_sem, *] <;> omega) rfl ⟨a', n, cap', L, rfl, sgs_far L2.out _ (fun x hx => NB.out x hx), hcap, B2.out.setCell (p := ⟨w.heap.size, 0, none⟩) (Nat.le_refl _) _⟩
theorem Own.slc {w : World} {base : Nat} {v : Value} {l : List Int} (h : Own w base v l) : ∃ a cap, v = .slice a l.length cap ∧ l.length ≤ cap ∧ Sl w a l.length l := by
  obtain ⟨a, cap, e, hs, _⟩ := h.sl
  refine ⟨a, cap, e, ?_, hs⟩
  rcases h.1.2 with ⟨he, h0⟩ | ⟨g, cap', cur, he, hb, hg, hnc, _⟩
  · rw [h0]; exact Nat.zero_le _
  · rw [e] at he; cases he; exact hnc
/-- what is known of block k, by its number -/
theorem i_BlockLength_in (a : Option Addr) (n cap : Nat) (L : List Sg) (A : Option Addr) (m capF : Nat) (F : List Int) (k : Nat) (w : World) (hs : Sgs w a n L) (hf : Sl w A m F) (hcn : n ≤ cap) (hcF : m ≤ capF) (hb : bkB L F = true) (hk : k < m) :
    Calls Try.prog 19 #[.agg #[.slice a n cap], .slice A m capF, .int .i64 k] w fun e w' => e = .returned (.tuple #[.int .i64 (lnK L F k), .int .i64 0]) ∧ Later w w' := by
  have c := i_BlockLength a n cap L A m capF F k w hs hf hcn hcF
  have e := fndC_some hb (fnd_isNo (L := L) k (by rw [hf.1]; exact hk))
  rw [e.1, e.2] at c
  exact c
theorem i_BlockStart_in (a : Option Addr) (n cap : Nat) (L : List Sg) (A : Option Addr) (m capF : Nat) (F : List Int) (k : Nat) (w : World) (hs : Sgs w a n L) (hf : Sl w A m F) (hcn : n ≤ cap) (hcF : m ≤ capF) (hb : bkB L F = true) (hk : k < m) :
    Calls Try.prog 29 #[.agg #[.slice a n cap], .slice A m capF, .int .i64 k] w fun e w' => e = .returned (.tuple #[.int .i64 (stK L F k), .int .i64 0]) ∧ Later w w' := by
  have c := i_BlockStart a n cap L A m capF F k w hs hf hcn hcF
  have e := fndC_some hb (fnd_isNo (L := L) k (by rw [hf.1]; exact hk))
  rw [e.1, e.2] at c
  exact c
theorem i_Holding_in (a : Option Addr) (n cap : Nat) (L : List Sg) (A : Option Addr) (m capF : Nat) (F : List Int) (k h : Nat) (w : World) (hs : Sgs w a n L) (hf : Sl w A m F) (hcn : n ≤ cap) (hcF : m ≤ capF) (hb : bkB L F = true) (hk : k < m) (hh : endK L F k = h + 1) :
    Calls Try.prog 20 #[.agg #[.slice a n cap], .slice A m capF, .int .i64 k] w fun e w' => e = .returned (.tuple #[.int .i64 h, .int .i64 0]) ∧ Later w w' := by
  have c := i_HoldingSegment a n cap L A m capF F k w hs hf hcn hcF
  have e := fndC_some hb (fnd_isNo (L := L) k (by rw [hf.1]; exact hk))
  rw [e.1, e.2] at c
  have e2 : (sec L F k).l = (h : Int) := by show (endK L F k : Int) - 1 = _; rw [hh]; omega
  rw [e2] at c
  exact c
theorem i_TrackLength_in (a : Option Addr) (n cap : Nat) (L : List Sg) (w : World) (hs : Sgs w a n L) (hv : layB L = true) :
    Calls Try.prog 18 #[.agg #[.slice a n cap]] w fun e w' => e = .returned (.tuple #[.int .i64 (totL L), .int .i64 0]) ∧ Later w w' := by
  have c := i_TrackLength a n cap L w hs
  unfold tlV tlE at c
  rw [hv] at c
  exact c
theorem i_AreBlocks_in (a : Option Addr) (n cap : Nat) (L : List Sg) (A : Option Addr) (m capF : Nat) (F : List Int) (w : World) (hs : Sgs w a n L) (hf : Sl w A m F) (hcF : m ≤ capF) (hb : bkB L F = true) :
    Calls Try.prog 22 #[.agg #[.slice a n cap], .slice A m capF] w fun e w' => e = .returned (.bool true) ∧ Later w w' := by
  have c := i_AreBlocks a n cap L A m capF F w hs hf hcF
  rw [hb] at c
  exact c
set_option maxRecDepth 100000 in
theorem walk_FnBlocks (a0 : Option Addr) (len0 cap0 : Nat) (z0 : List Int) (w : World) (w0 : IsRow .u8 w a0 len0 cap0 z0) :
    Calls Try.prog 3 #[.slice a0 len0 cap0] w fun e w' => e = .returned (.bool true) ∧ Below w.heap.size w w' := by
  have HS := Lib.hid (isRow_bytes w0)
  clear w0
  by_cases hbig : 4096 < len0
  · go_enter Try.func3, Try.ntmps3
    go_wp2_with fail
    refine (l_big _ _ _ _).mono ?_
    rintro e w' ⟨rfl, rfl⟩
    go_wp2
    go_ret
    exact ⟨rfl, Below.refl _ _⟩
  · go_enter Try.func3, Try.ntmps3
    go_wp2_with fail
    refine (l_big _ _ _ _).mono ?_
    rintro e w' ⟨rfl, rfl⟩
    go_wp2_with fail
    refine (s_DrawDefaultBlocks _ _ _ _ HS.out).mono ?_
    rintro e w1 ⟨a, n, cap, L, rfl, hl, hcap, bel⟩
    have L1 := Lib.hid hl
    have HL := Lib.hid hl.1
    have B1 := Lib.hid bel
    have X1 := Lib.hid (show Later w1 (w1.alloc (.cells #[.slice a n cap] 26)) from (Later.refl _).alloc _)
    clear hl bel hbig HS
    go_wp2_with fail
    refine (i_DefaultBlocks a n cap L _ (L1.out.later X1.out) hcap).mono ?_
    rintro e w2 ⟨v2, rfl, ho2, hb⟩
    have W2 : Hid (Later w1 w2) := Lib.hid (X1.out.trans hb)
    have c2 : w2.cell? ⟨w1.heap.size, 0, none⟩ = some (.slice a n cap) := by rw [hb.cell (p := ⟨w1.heap.size, 0, none⟩) (by simp)]; simp
    have z2 : w1.heap.size < w2.heap.size := by have := hb.size; simp at this; omega
    have O2 := Lib.hid ho2
    clear hb ho2
    go_wp2_with fail
    refine (s_DefaultBlocks a n cap L _ (L1.out.later W2.out)).mono ?_
    rintro e w3 ⟨v3, rfl, ho3, hb⟩
    have W3 : Hid (Later w1 w3) := Lib.hid (W2.out.trans hb)
    have c3 : w3.cell? ⟨w1.heap.size, 0, none⟩ = some (.slice a n cap) := by rw [hb.cell (p := ⟨w1.heap.size, 0, none⟩) z2]; exact c2
    have z3 : w1.heap.size < w3.heap.size := Nat.lt_of_lt_of_le z2 hb.size
    have O23 := Lib.hid (O2.out.after hb)
    obtain ⟨a2, k2, rfl, hk2, s2⟩ := O23.out.slc
    obtain ⟨a3, k3, rfl, hk3, s3⟩ := ho3.slc
    have S2 := Lib.hid s2; have S3 := Lib.hid s3
    clear hb c2 z2 ho3 s2 s3
    have e1 : (dflE L != dflE L) = false := by simp
    go_wp2_with fail
    refine (l_likeInts _ _ _ _ _ _ _ _ S2.out S3.out).mono ?_
    rintro e w4 ⟨rfl, hb⟩
    have W4 : Hid (Later w1 w4) := Lib.hid (W3.out.trans hb)
    have c4 : w4.cell? ⟨w1.heap.size, 0, none⟩ = some (.slice a n cap) := by rw [hb.cell (p := ⟨w1.heap.size, 0, none⟩) z3]; exact c3
    have z4 : w1.heap.size < w4.heap.size := Nat.lt_of_lt_of_le z3 hb.size
    have F4 := Lib.hid (S2.out.later hb)
    clear hb c3 z3
    by_cases h0 : dflE L = 0
    · obtain ⟨hbk, hdv⟩ := dfl_blocks h0
      have HBK := Lib.hid hbk
      obtain ⟨hlay, hkc⟩ := bkB_lay hbk
      have HKC := Lib.hid hkc
      have HLAY := Lib.hid hlay
      have HO := Lib.hid ((layB_iff L).1 hlay).2.2.1
      have h24 := ((layB_iff L).1 hlay).2.1; have h3 := ((layB_iff L).1 hlay).1
      rw [HL.out] at h24 h3
      have h28 : 2 ≤ (dflV L).length ∧ (dflV L).length ≤ 8 := by have := (bkC_iff L _).1 hkc; omega
      obtain ⟨F, hF⟩ : ∃ F, dflV L = F := ⟨_, rfl⟩
      rw [hF] at HBK HKC F4 hk2 hk3 h28 ⊢
      obtain ⟨m, hm⟩ : ∃ m, F.length = m := ⟨_, rfl⟩
      have HM := Lib.hid hm
      rw [hm] at F4 hk2 hk3 h28 ⊢
      rw [h0]
      obtain ⟨h2, h8⟩ := h28
      clear hbk hdv hlay hkc hF hm h0 e1
      go_wp2_with fail
      refine (i_TrackLength_in a n cap L _ (L1.out.later W4.out) HLAY.out).mono ?_
      rintro e w5 ⟨rfl, hb⟩
      have W5 : Hid (Later w1 w5) := Lib.hid (W4.out.trans hb)
      have c5 : w5.cell? ⟨w1.heap.size, 0, none⟩ = some (.slice a n cap) := by rw [hb.cell (p := ⟨w1.heap.size, 0, none⟩) z4]; exact c4
      have z5 : w1.heap.size < w5.heap.size := Nat.lt_of_lt_of_le z4 hb.size
      have F5 := Lib.hid (F4.out.later hb)
      clear hb c4 z4
      go_wp2_with fail
      go_loopw [10, 11] (fun s i wr => ∃ k : Nat, k ≤ m ∧ i = .int .i64 k ∧ s = .int .i64 (upL L (bgK L F k)) ∧ wr.cell? ⟨w1.heap.size, 0, none⟩ = some (.slice a n cap) ∧ w1.heap.size < wr.heap.size ∧ Later w5 wr) (fun _ i _ => m - (intOf i).toNat)
      case atStart => exact ⟨0, by omega, rfl, by rw [bgK_lt (by rw [HM.out]; omega), fst_0 HKC.out, upL_0], c5, z5, Later.refl _⟩
      case round =>
        clear c5 z5
        obtain ⟨k, hk, rfl, rfl, cb, hz, hlw⟩ := hrel
        have HW5 := Lib.hid hlw
        have HW : Hid (Later w1 wr) := Lib.hid (W5.out.trans hlw)
        have FW := Lib.hid (F5.out.later hlw)
        clear hlw
        by_cases hlt : k < m
        · obtain ⟨g1, g2, g3⟩ := blk_bd HKC.out k (by rw [HM.out]; exact hlt)
          obtain ⟨h, hh⟩ : ∃ h, endK L F k = h + 1 := ⟨endK L F k - 1, by omega⟩
          have hn : h < n := by rw [hh, HL.out] at g3; omega
          have HH := Lib.hid hh
          have HD : hldB (sx L h) = true := by have := hold_at HBK.out k (by rw [HM.out]; exact hlt); rw [hh] at this; exact this
          have HHD := Lib.hid HD
          obtain ⟨_, _, bd1, bd2⟩ := up_bd L (fstK F k) (by omega) (okB_le L L.length _ (by omega) HO.out)
          obtain ⟨_, _, bd3, bd4⟩ := up_bd L (endK L F k) g3 (okB_le L L.length _ g3 HO.out)
          have bd5 := upL_mono L (fstK F k) (endK L F k) (by omega) g3 HO.out
          have hsum : upL L (bgK L F k) + lnK L F k = upL L (bgK L F (k + 1)) := by
            rw [bgK_lt (by rw [HM.out]; exact hlt), ← endK_bg]; unfold lnK; omega
          have hr1 : 0 ≤ upL L (bgK L F k) ∧ upL L (bgK L F k) ≤ 200000000 := by rw [bgK_lt (by rw [HM.out]; exact hlt)]; omega
          have hr2 : 0 ≤ lnK L F k ∧ lnK L F k ≤ 200000000 := by unfold lnK; omega
          obtain ⟨hr1, hr1'⟩ := hr1
          obtain ⟨hr2, hr2'⟩ := hr2
          have HSUM := Lib.hid hsum
          clear hsum g1 g2 g3 bd1 bd2 bd3 bd4 bd5 hh HD
          go_wp2_with fail
          refine (i_BlockLength_in a n cap L a2 m k2 F k _ (L1.out.later HW.out) FW.out hcap hk2 HBK.out hlt).mono ?_
          rintro e w6 ⟨rfl, hb⟩
          have W6 : Hid (Later w1 w6) := Lib.hid (HW.out.trans hb)
          have V6 : Hid (Later w5 w6) := Lib.hid (HW5.out.trans hb)
          have c6 : w6.cell? ⟨w1.heap.size, 0, none⟩ = some (.slice a n cap) := by rw [hb.cell (p := ⟨w1.heap.size, 0, none⟩) hz]; exact cb
          have z6 : w1.heap.size < w6.heap.size := Nat.lt_of_lt_of_le hz hb.size
          have F6 := Lib.hid (FW.out.later hb)
          clear hb cb
          go_wp2_with fail
          refine (i_Holding_in a n cap L a2 m k2 F k h _ (L1.out.later W6.out) F6.out hcap hk2 HBK.out hlt HH.out).mono ?_
          rintro e w7 ⟨rfl, hb⟩
          have W7 : Hid (Later w1 w7) := Lib.hid (W6.out.trans hb)
          have V7 : Hid (Later w5 w7) := Lib.hid (V6.out.trans hb)
          have c7 : w7.cell? ⟨w1.heap.size, 0, none⟩ = some (.slice a n cap) := by rw [hb.cell (p := ⟨w1.heap.size, 0, none⟩) z6]; exact c6
          have z7 : w1.heap.size < w7.heap.size := Nat.lt_of_lt_of_le z6 hb.size
          clear hb c6
          obtain ⟨b', o', rfl, hb', hc⟩ := (L1.out.later W7.out).at h hn
          obtain ⟨s0, s1, s2, s3, s4, s5, s6⟩ := hc
          have q0 : (0 : Int) ≤ (h : Int) := by omega
          have q1 : (h : Int) < (n : Int) := by omega
          go_wp2_with fail
          refine (i_Holds (sx L h) _).mono ?_
          rw [HHD.out]
          rintro e w8 ⟨rfl, hb⟩
          have V8 : Hid (Later w5 w8) := Lib.hid (V7.out.trans hb)
          have c8 : w8.cell? ⟨w1.heap.size, 0, none⟩ = some (.slice (some ⟨b', o', none⟩) n cap) := by rw [hb.cell (p := ⟨w1.heap.size, 0, none⟩) z7]; exact c7
          have z8 : w1.heap.size < w8.heap.size := Nat.lt_of_lt_of_le z7 hb.size
          clear hb c7 s0 s1 s2 s3 s4 s5 s6
          go_wp2
          go_roundw
          case rel => exact ⟨k + 1, by omega, by go_num, by rw [← HSUM.out], c8, z8, V8.out⟩
          case measure => simp [intOf]; omega
        · obtain rfl : k = m := by omega
          have HE : Hid (upL L (bgK L F k) = totL L) := Lib.hid (by unfold bgK; rw [if_neg (by rw [HM.out]; omega)]; rfl)
          rw [HE.out]
          have e2 : (totL L == totL L) = true := by simp
          go_wp2_with fail
          refine (i_AreBlocks_in a n cap L a2 k k2 F _ (L1.out.later HW.out) FW.out hk2 HBK.out).mono ?_
          rintro e w6 ⟨rfl, hb⟩
          have W6 : Hid (Later w1 w6) := Lib.hid (HW.out.trans hb)
          clear hb
          go_wp2_with fail
          go_ret
          exact ⟨rfl, B1.out.trans (W6.out.mono B1.out.size)⟩
    · have e2 : (dflE L != 0) = true := by simpa using h0
      clear h0
      go_wp2_with fail
      go_ret
      exact ⟨rfl, B1.out.trans (W4.out.mono B1.out.size)⟩
end Go.Proofs.Ytblmbaioflebkaa
