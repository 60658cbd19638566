/- A line read as a segment, by the model: l03Segment. -/
import Derived.Test.YtkhhoajoionlfaaGreatDoorSpT
import Derived.Test.YtkhhoajoionlfaaGreatDoorTxS
import Derived.Test.YtkhhoajoionlfaaGreatDoorNmL
import Derived.Test.YtkhhoajoionlfaaGreatDoorTxN
import Derived.Test.YtkhhoajoionlfaaGreatDoorHeld
import Derived.Laws.ResultCell
import Derived.StillTailTactics
namespace Go.Proofs.YtkhhoajoionlfaaGreatDoor
open Go.RowKit Go.Shelf
set_option maxHeartbeats 4000000
set_option linter.unusedVariables false
set_option linter.unusedSimpArgs false
def agg7 (x : Sg) : Value := .agg #[.int .i64 x.k, .int .i64 x.l, .int .i64 x.r, .int .i64 x.a, .int .i64 x.b, .int .i64 x.c, .int .i64 x.d]
/-- 'what the line l tells' -/
def ReadsS (w : World) (l : List UInt8) (e : Ending) (w' : World) : Prop :=
  Later w w' ∧ ((∃ x, IsWords (spl 32 l) x ∧ e = .returned (.tuple #[agg7 x, .bool true])) ∨ ((∀ x, ¬ IsWords (spl 32 l) x) ∧ e = .returned (.tuple #[agg7 sg0, .bool false])))
theorem s_Split32 (s : ByteArray) (w : World) (hs : s.size ≤ 1048576) :
    Calls Tryz.prog 24 #[.string s, .int .u8 32] w fun e w' => ∃ v, e = .returned v ∧ OwnT w' w.heap.size v (spl 32 s.data.toList) ∧ Later w w' := s_Split s 32 w hs
theorem s_Split10 (s : ByteArray) (w : World) (hs : s.size ≤ 1048576) :
    Calls Tryz.prog 24 #[.string s, .int .u8 10] w fun e w' => ∃ v, e = .returned v ∧ OwnT w' w.heap.size v (spl 10 s.data.toList) ∧ Later w w' := s_Split s 10 w hs
theorem wd_tail (W : List (List UInt8)) (k : Nat) : wd W.tail k = wd W (k + 1) := by
  unfold wd; cases W <;> simp
theorem txs_tail {w : World} {g : Nat} {W : List (List UInt8)} {N : Nat} (hg : g < w.heap.size) (hN : ∀ y ∈ W, y.length ≤ 1048576) (hl : W.length = N + 1)
    (hc : ∀ (j : Nat) x, (W.map tx)[j]? = some x → w.cell? ⟨g, 0 + j, none⟩ = some (.string x)) : Txs w g 1 N W.tail := by
  refine ⟨by rw [List.length_tail, hl]; rfl, hg, fun k hk => ?_, fun k => ?_⟩
  · have h := hc (k + 1) (tx (wd W (k + 1))) (by
      rw [List.getElem?_map, List.getElem?_eq_getElem (by omega)]
      unfold wd
      simp [List.getD_eq_getElem?_getD, List.getElem?_eq_getElem (show k + 1 < W.length by omega)])
    rw [wd_tail, show 1 + k = 0 + (k + 1) by omega]
    exact h
  · rw [wd_tail]
    unfold wd
    rw [List.getD_eq_getElem?_getD]
    cases h : W[k + 1]? with
    | none => simp
    | some y => simpa using hN y (List.mem_of_getElem? h)
theorem words_of {W : List (List UInt8)} {k : Int} {N : List Int} (hk : kndB k = true) (h0 : wd W 0 = kNm k) (hz : Zs W.tail W.tail.length N) (h6 : N.length = 6) :
    IsWords W ⟨k, N.getD 0 0, N.getD 1 0, N.getD 2 0, N.getD 3 0, N.getD 4 0, N.getD 5 0⟩ := by
  have hl : W.tail.length = 6 := by rw [← hz.1]; exact h6
  have hW : W.length = 7 := by rw [List.length_tail] at hl; omega
  refine ⟨hW, hk, h0, fun j hj => ?_⟩
  have h := hz.2 j (by omega)
  rw [wd_tail] at h
  have h5 : j = 0 ∨ j = 1 ∨ j = 2 ∨ j = 3 ∨ j = 4 ∨ j = 5 := by omega
  rcases h5 with rfl | rfl | rfl | rfl | rfl | rfl <;> exact h
theorem no_words {W : List (List UInt8)} (h : ∀ N, ¬ Zs W.tail W.tail.length N) : ∀ x, ¬ IsWords W x := by
  intro x hx
  refine h [x.l, x.r, x.a, x.b, x.c, x.d] ⟨by rw [List.length_tail, hx.1]; rfl, fun j hj => ?_⟩
  rw [List.length_tail, hx.1] at hj
  rw [wd_tail]
  have h := hx.2.2.2 j (by omega)
  have h5 : j = 0 ∨ j = 1 ∨ j = 2 ∨ j = 3 ∨ j = 4 ∨ j = 5 := by omega
  rcases h5 with rfl | rfl | rfl | rfl | rfl | rfl <;> exact h
theorem no_words6 {W : List (List UInt8)} {N : List Int} (hz : Zs W.tail W.tail.length N) (h : N.length ≠ 6) : ∀ x, ¬ IsWords W x := by
  intro x hx
  have := hz.1
  rw [List.length_tail, hx.1] at this
  exact h this
theorem no_wordsK {W : List (List UInt8)} (h : ∀ k : Int, 0 ≤ k → k < 5 → wd W 0 ≠ kNm k) : ∀ x, ¬ IsWords W x := by
  intro x hx
  have hk := hx.2.1
  unfold kndB at hk
  simp at hk
  exact h x.k hk.1 (by omega) hx.2.2.1
/-- the row of six numbers and the result's cells -/
def KL (w : World) (gn : Nat) (N : List Int) (W : World) : Prop :=
  Later w W ∧ w.heap.size < W.heap.size ∧ gn < W.heap.size ∧ (∀ j, j < 6 → W.cell? ⟨gn, j, none⟩ = some (.int .i64 (N.getD j 0))) ∧ (∀ j, j < 7 → W.cell? ⟨w.heap.size, j, none⟩ = some (.int .i64 0)) ∧ (∀ j, j < 7 → W.frozen? ⟨w.heap.size, j, none⟩ = false)
theorem KL.later {w W W' : World} {gn : Nat} {N : List Int} (h : KL w gn N W) (k : Later W W') : KL w gn N W' := by
  obtain ⟨h1, h2, h3, h4, h5, h6⟩ := h
  refine ⟨h1.trans k, Nat.lt_of_lt_of_le h2 k.size, Nat.lt_of_lt_of_le h3 k.size, fun j hj => ?_, fun j hj => ?_, fun j hj => ?_⟩
  · rw [k.cell (p := ⟨gn, j, none⟩) h3]; exact h4 j hj
  · rw [k.cell (p := ⟨w.heap.size, j, none⟩) h2]; exact h5 j hj
  · rw [Below.frozen (p := ⟨w.heap.size, j, none⟩) k h2]; exact h6 j hj
theorem own_six {w : World} {base : Nat} {v : Value} {N : List Int} (h : Own w base v N) (h6 : N.length = 6) :
    ∃ g cap, v = .slice (some ⟨g, 0, none⟩) 6 cap ∧ base ≤ g ∧ g < w.heap.size ∧ ∀ j, j < 6 → w.cell? ⟨g, j, none⟩ = some (.int .i64 (N.getD j 0)) := by
  have h1 := h.1
  rcases h1.2 with ⟨rfl, h0⟩ | ⟨g, cap, cur, rfl, hb, hg, hnc, hcm, _⟩
  · omega
  · refine ⟨g, cap, by rw [h6], hb, (h1.lt g rfl).2, fun j hj => ?_⟩
    rw [h1.cellAt j (by omega)]
    simp [List.getElem?_map, List.getElem?_eq_getElem (show j < N.length by omega), List.getD_eq_getElem?_getD]
theorem txs_zero {w : World} {g off : Nat} {W : List (List UInt8)} (hg : g < w.heap.size) (hl : W.length = 0 + 1) : Txs w g off 0 W.tail := by
  refine ⟨by rw [List.length_tail, hl], hg, fun k hk => absurd hk (by omega), fun k => ?_⟩
  have : W.tail = [] := List.length_eq_zero_iff.1 (by rw [List.length_tail, hl])
  rw [this]; simp [wd]
set_option maxRecDepth 100000 in
theorem s_Segment (s : ByteArray) (w : World) (hs : s.size ≤ 1048576) : Calls Tryz.prog 25 #[.string s] w (ReadsS w s.data.toList) := by
  obtain ⟨l, hl⟩ : ∃ l, l = s.data.toList := ⟨_, rfl⟩
  have hlen : l.length = s.size := by rw [hl]; rfl
  rw [← hl]
  have HL := Lib.hid hl
  have HLEN := Lib.hid hlen
  clear hl hlen
  go_enter Tryz.func25, Tryz.ntmps25
  go_wp2_with fail
  refine (s_Split32 s _ hs).mono ?_
  rw [← HL.out]
  rintro e w1 ⟨v, rfl, hov, hb⟩
  obtain ⟨H1, hcc, hff, hzz⟩ := later_facts hb
  have B1 := Lib.hid (Later.trans ((Later.refl w).alloc _) hb)
  (try simp at hzz)
  have hz0 : w.heap.size < w1.heap.size := (by omega)
  clear hb
  obtain ⟨W, hW⟩ : ∃ W, W = spl 32 l := ⟨_, rfl⟩
  have HWd := Lib.hid hW
  unfold ReadsS
  rw [← hW] at hov ⊢
  obtain ⟨g, cap, rfl, hcap, hg, hgb, hcell⟩ := hov.row (by rw [hW]; exact spl_ne _ _)
  have hmax : ∀ y ∈ W, y.length ≤ 1048576 := fun y hy => by rw [hW] at hy; have := spl_le 32 l y hy; rw [HLEN.out] at this; omega
  have hcnt : W.length ≤ 1048577 := by rw [hW]; have := spl_count 32 l; rw [HLEN.out] at this; omega
  have hne : W.length ≠ 0 := fun h => spl_ne 32 l (by rw [← hW]; exact List.length_eq_zero_iff.1 h)
  obtain ⟨n, hn⟩ : ∃ n, W.length = n + 1 := ⟨W.length - 1, by omega⟩
  have TX := Lib.hid (txs_tail hg hmax hn hcell)
  have c0 : w1.cell? ⟨g, 0, none⟩ = some (.string (tx (wd W 0))) := hcell 0 _ (by
    unfold wd
    rw [List.getElem?_map, List.getElem?_eq_getElem (by omega)]
    simp [List.getD_eq_getElem?_getD, List.getElem?_eq_getElem (show 0 < W.length by omega)])
  have hgw : g ≠ w.heap.size := by
    have : (w.alloc (.cells #[] 0)).heap.size ≤ g := by simpa using hgb
    simp at this; omega
  rw [hn] at hcap hcnt ⊢
  clear hcell hmax hne hW hov
  by_cases h0 : n = 0
  · subst h0
    go_wp2_with fail
    all_goals
      refine (s_Numbers g _ 0 _ W.tail _ (txs_zero hg hn) (by omega)).mono ?_
      rintro e w4 ⟨hb4, hres⟩
      have HN : Hid (∀ x, ¬ IsWords W x) := Lib.hid (fun x hx => by have := hx.1; omega)
      obtain ⟨H4, hcc4, hff4, hzz4⟩ := later_facts hb4
      have B4 := Lib.hid (Later.trans B1.out hb4)
      clear hb4
      have hz4 : w.heap.size < w4.heap.size := (by omega)
      rcases hres with ⟨N, v, hz, rfl, ho⟩ | ⟨_, rfl⟩
      · have hN : N.length = 0 := by rw [hz.1, List.length_tail, hn]
        obtain ⟨av, capv, rfl, _, _⟩ := ho.sl
        rw [hN]
        clear ho hz
        go_wp2_with fail
        refine bodyPost_ret (v := .tuple #[agg7 sg0, .bool false]) (by simp [results, Tryz.results25, go_sem, agg7, sg0, *] <;> omega) rfl ⟨(by repeat (first | (with_reducible exact Later.refl _) | (with_reducible exact Hid.out (by assumption)) | (with_reducible refine Later.alloc ?_ _) | (with_reducible refine Later.setCell ?_ (by simp) _) | (with_reducible refine Later.drewN ?_ _) | (with_reducible refine Later.drew ?_) | (with_reducible refine Later.trans ?_ (Hid.out (by assumption))))), .inr ⟨by rw [← HWd.out]; exact HN.out, rfl⟩⟩
      · go_wp2_with fail
        refine bodyPost_ret (v := .tuple #[agg7 sg0, .bool false]) (by simp [results, Tryz.results25, go_sem, agg7, sg0, *] <;> omega) rfl ⟨(by repeat (first | (with_reducible exact Later.refl _) | (with_reducible exact Hid.out (by assumption)) | (with_reducible refine Later.alloc ?_ _) | (with_reducible refine Later.setCell ?_ (by simp) _) | (with_reducible refine Later.drewN ?_ _) | (with_reducible refine Later.drew ?_) | (with_reducible refine Later.trans ?_ (Hid.out (by assumption))))), .inr ⟨by rw [← HWd.out]; exact HN.out, rfl⟩⟩
  · have hn1 : 1 ≤ n := by omega
    have hcp : 1 ≤ cap - 1 := by omega
    go_wp2_with fail
    refine (s_Numbers g 1 n _ W.tail _ TX.out (by omega)).mono ?_
    rintro e w4 ⟨hb4, hres⟩
    obtain ⟨H4, hcc4, hff4, hzz4⟩ := later_facts hb4
    have B4 := Lib.hid (Later.trans B1.out hb4)
    clear hb4
    have hz4 : w.heap.size < w4.heap.size := (by omega)
    rcases hres with ⟨N, v, hz, rfl, ho⟩ | ⟨hno, rfl⟩
    · have hN : N.length = n := by rw [hz.1, List.length_tail, hn]; rfl
      by_cases h6 : n = 6
      · subst h6
        obtain ⟨gn, capn, rfl, hgb6, hg6, hcn⟩ := own_six ho hN
        have HZ := Lib.hid hz
        have HCN := Lib.hid hcn
        have C0 := Lib.hid c0
        have hg4 : g < w4.heap.size := by omega
        have C4 : Hid (w4.cell? ⟨g, 0, none⟩ = some (.string (tx (wd W 0)))) := Lib.hid (by rw [hcc4 _ _ hg]; exact C0.out)
        have FR4 : Hid (∀ j, j < 7 → w4.frozen? ⟨w.heap.size, j, none⟩ = false) := Lib.hid (fun j hj => by rw [hff4 _ _ hz0, hff _ _ (by simp)]; simp)
        have CR4 : Hid (∀ j, j < 7 → w4.cell? ⟨w.heap.size, j, none⟩ = some (.int .i64 0)) := Lib.hid (fun j hj => by
          rw [hcc4 _ _ hz0, hcc _ _ (by simp)]
          have h7 : j = 0 ∨ j = 1 ∨ j = 2 ∨ j = 3 ∨ j = 4 ∨ j = 5 ∨ j = 6 := by omega
          rcases h7 with rfl | rfl | rfl | rfl | rfl | rfl | rfl <;> simp)
        have hgn : gn ≠ w.heap.size := (by omega)
        clear ho hz hcn c0
        go_wp2_with fail
        clear hcc hff hcc4 hff4
        have R4 : Hid (∀ j, j < 7 → w4.frozen? ⟨w.heap.size, j, none⟩ = false) := FR4
        go_loopw [7] (fun i wr => ∃ k : Nat, i = .int .i64 k ∧ k ≤ 5 ∧ Hid (∀ j : Int, 0 ≤ j → j < k → wd W 0 ≠ kNm j) ∧ Later w4 wr) (fun i _ => 5 - (intOf i).toNat)
        case atStart => exact ⟨0, rfl, by omega, Lib.hid (fun j h1 h2 => by omega), (by repeat (first | (with_reducible exact Later.refl _) | (with_reducible refine Later.drew ?_)))⟩
        case round =>
          obtain ⟨k, rfl, hk5, HK, hb⟩ := hrel
          obtain ⟨H5, hcc5, hff5, hzz5⟩ := later_facts hb
          have B5 := Lib.hid (Later.trans B4.out hb)
          clear hb
          have hz5 : w.heap.size < wr.heap.size := (by omega)
          have cw : wr.cell? ⟨g, 0, none⟩ = some (.string (tx (wd W 0))) := by rw [hcc5 _ _ hg4]; exact C4.out
          have cn : ∀ j, j < 6 → wr.cell? ⟨gn, j, none⟩ = some (.int .i64 (N.getD j 0)) := fun j hj => by rw [hcc5 _ _ hg6]; exact HCN.out j hj
          have n0 := cn 0 (by omega); have n1 := cn 1 (by omega); have n2 := cn 2 (by omega); have n3 := cn 3 (by omega); have n4 := cn 4 (by omega); have n5 := cn 5 (by omega)
          have fr : ∀ j, j < 7 → wr.frozen? ⟨w.heap.size, j, none⟩ = false := fun j hj => by rw [hff5 _ _ hz4]; exact R4.out j hj
          have f0 := fr 0 (by omega); have f1 := fr 1 (by omega); have f2 := fr 2 (by omega); have f3 := fr 3 (by omega); have f4 := fr 4 (by omega); have f5 := fr 5 (by omega); have f6 := fr 6 (by omega)
          have hgr : g < wr.heap.size := (by omega)
          have hgr6 : gn < wr.heap.size := (by omega)
          have cr : ∀ j, j < 7 → wr.cell? ⟨w.heap.size, j, none⟩ = some (.int .i64 0) := fun j hj => by rw [hcc5 _ _ hz4]; exact CR4.out j hj
          have r0 := cr 0 (by omega); have r1 := cr 1 (by omega); have r2 := cr 2 (by omega); have r3 := cr 3 (by omega); have r4 := cr 4 (by omega); have r5 := cr 5 (by omega); have r6 := cr 6 (by omega)
          have KLR : Hid (KL w gn N wr) := Lib.hid ⟨B5.out, hz5, hgr6, cn, cr, fr⟩
          clear cr hcc5 hff5 fr cn
          by_cases hk : k < 5
          · have hkc : kCells[k]? = some (.string (tx (kNm k))) := by
              have h5 : k = 0 ∨ k = 1 ∨ k = 2 ∨ k = 3 ∨ k = 4 := by omega
              rcases h5 with rfl | rfl | rfl | rfl | rfl <;> rfl
            have hkc' : kCells.size = 5 := rfl
            obtain ⟨hkx, hkp⟩ := Array.getElem?_eq_some_iff.1 hkc
            have hkb : kndB (k : Int) = true := by unfold kndB; simp; omega
            have hk0 : ((k : Int) < 0) = False := by simp
            have hk1 : ((k : Int) < 5) = True := by simp; omega
            have hk2 : (5 ≤ (k : Int)) = False := by simp; omega
            have hkn : ((k : Int)).toNat = k := by omega
            have hkz : 0 + k = k := by omega
            by_cases hq : wd W 0 = kNm k
            · have e1 : ((tx (kNm k)).toList == (tx (wd W 0)).toList) = true := by rw [hq]; simp
              have HX : Hid (IsWords W ⟨k, N.getD 0 0, N.getD 1 0, N.getD 2 0, N.getD 3 0, N.getD 4 0, N.getD 5 0⟩) := Lib.hid (words_of hkb hq HZ.out hN)
              clear hq
              go_wp2_with fail
              go_region_with (go_at_call 41; refine (s_l03Kinds _).mono ?_; rintro e w5 ⟨rfl, rfl⟩)
              all_goals
                go_wp2_with fail
                refine into (KL w gn N) (KLR.out.later (by repeat (first | (with_reducible exact Later.refl _) | (with_reducible refine Later.alloc ?_ _) | (with_reducible refine Later.drewN ?_ _) | (with_reducible refine Later.drew ?_)))) ?_
                intro W9 hW9
                obtain ⟨q1, q2, q3, q4, q5, q6⟩ := hW9
                have Q1 := Lib.hid q1
                clear n0 n1 n2 n3 n4 n5 r0 r1 r2 r3 r4 r5 r6 f0 f1 f2 f3 f4 f5 f6 cw q1
                have n0 := q4 0 (by omega); have n1 := q4 1 (by omega); have n2 := q4 2 (by omega); have n3 := q4 3 (by omega); have n4 := q4 4 (by omega); have n5 := q4 5 (by omega)
                have Q4 := Lib.hid q4; have Q5 := Lib.hid q5; have Q6 := Lib.hid q6
                clear q4 q5 q6
                have K9 : KL w gn N W9 := ⟨Q1.out, q2, q3, Q4.out, Q5.out, Q6.out⟩
                have K9H := Lib.hid (K9.later (Later.drew (Later.refl _)))
                clear K9
                go_still_tail 22, (by kernel_rfl)
                change wpList _ _ _ _ _ (World.drew _)
                clear n0 n1 n2 n3 n4 n5 q2 q3 Q1 Q4 Q5 Q6
                have hK := K9H.out
                clear K9H
                generalize W9.drew = W8 at hK ⊢
                obtain ⟨q1, q2, q3, q4, q5, q6⟩ := hK
                have Q1 := Lib.hid q1
                clear q1
                have r0 := q5 0 (by omega); have r1 := q5 1 (by omega); have r2 := q5 2 (by omega); have r3 := q5 3 (by omega); have r4 := q5 4 (by omega); have r5 := q5 5 (by omega); have r6 := q5 6 (by omega)
                have f0 := q6 0 (by omega); have f1 := q6 1 (by omega); have f2 := q6 2 (by omega); have f3 := q6 3 (by omega); have f4 := q6 4 (by omega); have f5 := q6 5 (by omega); have f6 := q6 6 (by omega)
                clear q4 q5 q6
                go_wp2_with fail
                refine bodyPost_ret (v := .tuple #[agg7 ⟨k, N.getD 0 0, N.getD 1 0, N.getD 2 0, N.getD 3 0, N.getD 4 0, N.getD 5 0⟩, .bool true]) (by simp [results, Tryz.results25, go_sem, agg7, *] <;> omega) rfl ⟨(by repeat (first | (with_reducible exact Later.refl _) | (with_reducible exact Hid.out (by assumption)) | (with_reducible refine Later.alloc ?_ _) | (with_reducible refine Later.setCell ?_ (by simp) _) | (with_reducible refine Later.drewN ?_ _) | (with_reducible refine Later.drew ?_) | (with_reducible refine Later.trans ?_ (Hid.out (by assumption))))), .inl ⟨_, by rw [← HWd.out]; exact HX.out, rfl⟩⟩
            · have e1 : ((tx (kNm k)).toList == (tx (wd W 0)).toList) = false := by
                rw [Lib.toList_data, Lib.toList_data]
                show (kNm k == wd W 0) = false
                simpa using fun h => hq h.symm
              have hkw : IntKind.i64.wrap ((k : Int) + 1) = ((k + 1 : Nat) : Int) := by rw [IntWalk.i64_in _ (by omega)]; omega
              have HK' : Hid (∀ j : Int, 0 ≤ j → j < ((k + 1 : Nat) : Int) → wd W 0 ≠ kNm j) := Lib.hid (fun j h1 h2 => by
                by_cases hj : j = k
                · rw [hj]; exact hq
                · exact HK.out j h1 (by omega))
              clear hq n0 n1 n2 n3 n4 n5 r0 r1 r2 r3 r4 r5 r6 f0 f1 f2 f3 f4 f5 f6
              go_wp2_with fail
              go_region_with (go_at_call 41; refine (s_l03Kinds _).mono ?_; rintro e w5 ⟨rfl, rfl⟩)
              all_goals
                go_wp2_with fail
                go_roundw
                case rel => exact ⟨k + 1, by go_num, by omega, HK', (by repeat (first | (with_reducible exact Later.refl _) | (with_reducible exact Hid.out (by assumption)) | (with_reducible refine Later.alloc ?_ _) | (with_reducible refine Later.drew ?_)))⟩
                case measure => simp [intOf]; omega
          · obtain rfl : k = 5 := by omega
            have HN : Hid (∀ x, ¬ IsWords W x) := Lib.hid (no_wordsK (fun j h1 h2 => HK.out j h1 (by omega)))
            clear hk
            go_wp2_with fail
            refine bodyPost_ret (v := .tuple #[agg7 sg0, .bool false]) (by simp [results, Tryz.results25, go_sem, agg7, sg0, *] <;> omega) rfl ⟨(by repeat (first | (with_reducible exact Later.refl _) | (with_reducible exact Hid.out (by assumption)) | (with_reducible refine Later.alloc ?_ _) | (with_reducible refine Later.setCell ?_ (by simp) _) | (with_reducible refine Later.drewN ?_ _) | (with_reducible refine Later.drew ?_) | (with_reducible refine Later.trans ?_ (Hid.out (by assumption))))), .inr ⟨by rw [← HWd.out]; exact HN.out, rfl⟩⟩
      · obtain ⟨av, capv, rfl, hsl, _⟩ := ho.sl
        have HN : Hid (∀ x, ¬ IsWords W x) := Lib.hid (no_words6 hz (by omega))
        have e6 : ((n : Int) != 6) = true := by simp; omega
        rw [hN]
        clear ho hz hsl
        go_wp2_with fail
        refine bodyPost_ret (v := .tuple #[agg7 sg0, .bool false]) (by simp [results, Tryz.results25, go_sem, agg7, sg0, *] <;> omega) rfl ⟨(by repeat (first | (with_reducible exact Later.refl _) | (with_reducible exact Hid.out (by assumption)) | (with_reducible refine Later.alloc ?_ _) | (with_reducible refine Later.setCell ?_ (by simp) _) | (with_reducible refine Later.drewN ?_ _) | (with_reducible refine Later.drew ?_) | (with_reducible refine Later.trans ?_ (Hid.out (by assumption))))), .inr ⟨by rw [← HWd.out]; exact HN.out, rfl⟩⟩
    · have HN : Hid (∀ x, ¬ IsWords W x) := Lib.hid (no_words hno)
      clear hno
      go_wp2_with fail
      refine bodyPost_ret (v := .tuple #[agg7 sg0, .bool false]) (by simp [results, Tryz.results25, go_sem, agg7, sg0, *] <;> omega) rfl ⟨(by repeat (first | (with_reducible exact Later.refl _) | (with_reducible exact Hid.out (by assumption)) | (with_reducible refine Later.alloc ?_ _) | (with_reducible refine Later.setCell ?_ (by simp) _) | (with_reducible refine Later.drewN ?_ _) | (with_reducible refine Later.drew ?_) | (with_reducible refine Later.trans ?_ (Hid.out (by assumption))))), .inr ⟨by rw [← HWd.out]; exact HN.out, rfl⟩⟩
end Go.Proofs.YtkhhoajoionlfaaGreatDoor
