/- The walk of the law on sensors. -/
import Derived.Test.YtehinlecppbjeaaOcQ
import Derived.Test.YtehinlecppbjeaaOcC
import Derived.Test.YtehinlecppbjeaaOcX
import Derived.Test.YtehinlecppbjeaaRow
import Derived.Test.YtehinlecppbjeaaLki
namespace Go.Proofs.Ytehinlecppbjeaa
open Go.RowKit
set_option maxHeartbeats 4000000
set_option linter.unusedVariables false
set_option linter.unusedSimpArgs false
theorem bel_later {w w' : World} (h : Below w.heap.size w w') : Later w w' := h
theorem cut_ex {S : List Int} (p : Int) : ∀ k, k ≤ S.length → ∃ f, f ≤ k ∧ (∀ i, i < f → gx S i ≤ p) ∧ (f < k → p < gx S f) := by
  intro k
  induction k with
  | zero => intro _; exact ⟨0, by omega, fun i hi => by omega, fun h => by omega⟩
  | succ k ih =>
    intro hk
    obtain ⟨f, h1, h2, h3⟩ := ih (by omega)
    by_cases e : f < k
    · exact ⟨f, by omega, h2, fun _ => h3 e⟩
    · obtain rfl : f = k := by omega
      by_cases c : gx S f ≤ p
      · exact ⟨f + 1, by omega, fun i hi => by
          by_cases e : i = f
          · rw [e]; exact c
          · exact h2 i (by omega), fun h => by omega⟩
      · exact ⟨f, by omega, h2, fun _ => by omega⟩
theorem filter_anti (P : Nat → Bool) (n : Nat) (h : ∀ i j, i < j → j < n → P j = true → P i = true) : ∃ m, m ≤ n ∧ (List.range n).filter P = List.range m := by
  induction n with
  | zero => exact ⟨0, by omega, by simp⟩
  | succ n ih =>
    by_cases e : P n = true
    · refine ⟨n + 1, by omega, ?_⟩
      rw [List.filter_eq_self]
      intro i hi
      have hi := List.mem_range.1 hi
      by_cases c : i = n
      · rw [c]; exact e
      · exact h i n (by omega) (by omega) e
    · obtain ⟨m, hm, hf⟩ := ih (fun i j hij hj => h i j hij (by omega))
      exact ⟨m, by omega, by rw [List.range_succ, List.filter_append, hf]; simp [e]⟩
theorem ps_all {L : List Sg} {S : List Int} {p d : Int} (h : psE L S p d = 0) : psE L S p (totL L) = 0 ∧ layB L = true ∧ ∃ (g : Nat → Nat) (m : Nat), m ≤ S.length ∧ psV L S p (totL L) = (List.range S.length).map (fun j => (g j : Int)) ∧ psV L S p d = (List.range m).map (fun j => (g j : Int)) ∧ (∀ j, j < S.length → g j < S.length) ∧ ∀ i j, i < j → j < S.length → g i ≠ g j := by
  obtain ⟨hs, hm⟩ := psE_ok h
  obtain ⟨hv, hmv⟩ := mvE_ok hm
  obtain ⟨hp, hd⟩ := (mvB_iff _ _ _).1 hmv
  obtain ⟨_, h32, hr⟩ := (senB_iff _ _).1 hs
  have t := tot_bd hv
  have hT : psE L S p (totL L) = 0 := by unfold psE; rw [if_pos hs]; exact mvE_yes hv ((mvB_iff _ _ _).2 ⟨hp, by omega, by omega⟩)
  refine ⟨hT, hv, ?_⟩
  obtain ⟨f, f1, f2, f3⟩ := cut_ex (S := S) p S.length (Nat.le_refl _)
  have hc := isCut_of hr f1 f2 f3
  have hc2 := hc.2.2
  have rng : ∀ i, i < S.length → 0 ≤ gx S i ∧ gx S i < totL L := fun i hi => ⟨(ris_at hr i hi).1, (ris_at hr i hi).2.1⟩
  have dst : ∀ i, i < S.length → dstS (totL L) p (gx S i) = if p < gx S i then gx S i - p else gx S i - p + totL L := by
    intro i hi
    have := rng i hi
    unfold dstS
    have ha := ahead_cases (T := totL L) (a := p) (b := gx S i) hp this
    unfold ahead at ha
    rcases ha with ⟨c, e⟩ | ⟨c, e⟩ <;> rw [e] <;> split <;> split <;> omega
  have rot : ∀ j, j < S.length → rotI f S.length j < S.length := fun j hj => Nat.mod_lt _ (by omega)
  have mono : ∀ i j, i < j → j < S.length → dstS (totL L) p (gx S (rotI f S.length i)) < dstS (totL L) p (gx S (rotI f S.length j)) := by
    intro i j hij hj
    rw [dst _ (rot i (by omega)), dst _ (rot j hj)]
    by_cases ci : f + i < S.length
    · rw [rot_lo ci]
      have a1 := hc2 (f + i) (by omega) ci
      rw [if_pos a1]
      by_cases cj : f + j < S.length
      · rw [rot_lo cj]
        have a2 := hc2 (f + j) (by omega) cj
        rw [if_pos a2]
        have := ris_le hr (f + i) (f + j) (by omega) cj
        omega
      · rw [rot_hi (by omega) (by omega)]
        have a2 := f2 (f + j - S.length) (by omega)
        rw [if_neg (by omega)]
        have := rng (f + i) ci
        have := rng (f + j - S.length) (by omega)
        omega
    · rw [rot_hi (by omega) (by omega), rot_hi (f := f) (k := j) (by omega) (by omega)]
      have a1 := f2 (f + i - S.length) (by omega)
      have a2 := f2 (f + j - S.length) (by omega)
      rw [if_neg (by omega), if_neg (by omega)]
      have := ris_le hr (f + i - S.length) (f + j - S.length) (by omega) (by omega)
      omega
  have hV : ∀ d, psE L S p d = 0 → psV L S p d = metK (totL L) S p d f S.length := by
    intro d hd
    obtain ⟨_, hm⟩ := psE_ok hd
    obtain ⟨_, hmv⟩ := mvE_ok hm
    obtain ⟨_, hd2⟩ := (mvB_iff _ _ _).1 hmv
    unfold psV; rw [if_pos hd, met_all hr hp hd2 hc]
  obtain ⟨m, hm1, hm2⟩ := filter_anti (fun j => decide (dstS (totL L) p (gx S (rotI f S.length j)) ≤ d)) S.length (fun i j hij hj hd => by
    have := mono i j hij hj
    simp only [decide_eq_true_eq] at hd ⊢
    omega)
  refine ⟨rotI f S.length, m, hm1, ?_, ?_, rot, fun i j hij hj e => ?_⟩
  · rw [hV _ hT]; unfold metK
    rw [List.filter_eq_self.2]
    intro j hj
    have hj := rot j (List.mem_range.1 hj)
    have := rng _ hj
    have := dst _ hj
    simp only [decide_eq_true_eq]
    split at this <;> omega
  · rw [hV _ h]; unfold metK; rw [hm2]
  · have := mono i j hij hj
    rw [e] at this; omega
/-- what has been seen behind i rounds -/
def snB (g : Nat → Nat) (n i : Nat) : List Bool := (List.range n).map fun j => (List.range i).any fun k => g k == j
theorem snB_0 (g : Nat → Nat) (n : Nat) : snB g n 0 = List.replicate n false := by
  unfold snB; simp [List.map_const']
theorem snB_len (g : Nat → Nat) (n i : Nat) : (snB g n i).length = n := by simp [snB]
theorem snB_at (g : Nat → Nat) (n i j : Nat) (hj : j < n) : (snB g n i)[j]? = some ((List.range i).any fun k => g k == j) := by
  unfold snB; rw [List.getElem?_map, List.getElem?_range hj]; rfl
theorem snB_no {g : Nat → Nat} {n i : Nat} (h : ∀ i j, i < j → j < n → g i ≠ g j) (hg : ∀ j, j < n → g j < n) (hi : i < n) : (snB g n i)[g i]? = some false := by
  rw [snB_at g n i (g i) (hg i hi)]
  congr 1
  rw [List.any_eq_false]
  intro k hk
  have := h k i (List.mem_range.1 hk) hi
  simpa using this
theorem snB_set {g : Nat → Nat} {n i : Nat} : (snB g n i).set (g i) true = snB g n (i + 1) := by
  apply List.ext_getElem?
  intro j
  by_cases hj : j < n
  · rw [snB_at g n (i + 1) j hj, List.getElem?_set, List.range_succ, List.any_append]
    by_cases e : g i = j
    · subst e; simp [snB_len, hj]
    · rw [if_neg e, snB_at g n i j hj]; simp [e]
  · rw [List.getElem?_eq_none (by simp [snB_len]; omega), List.getElem?_eq_none (by simp [snB_len]; omega)]
theorem info_bool : (Try.prog.info? 4).map (fun i => (i.zero, i.size, i.bytes)) = some (some (.bool false), 1, 1) := by kernel_rfl
set_option maxRecDepth 100000 in
theorem walk_FnSensors (a0 : Option Addr) (len0 cap0 : Nat) (z0 : List Int) (w : World) (w0 : IsRow .u8 w a0 len0 cap0 z0) :
    Calls Try.prog 6 #[.slice a0 len0 cap0] w fun e w' => e = .returned (.bool true) ∧ Below w.heap.size w w' := by
  have HS := Lib.hid (isRow_bytes w0)
  clear w0
  by_cases hbig : 4096 < len0
  · go_enter Try.func6, Try.ntmps6
    go_wp2_with fail
    refine (l_big _ _ _ _).mono ?_
    rintro e w' ⟨rfl, rfl⟩
    go_wp2
    go_ret
    exact ⟨rfl, Below.refl _ _⟩
  go_enter Try.func6, Try.ntmps6
  go_wp2_with fail
  refine (l_big _ _ _ _).mono ?_
  rintro e w' ⟨rfl, rfl⟩
  go_wp2_with fail
  refine (s_DrawSensorsPassed _ _ _ _ HS.out).mono ?_
  rintro e w1 ⟨a, n, cap, L, A, m, capF, F, p, q, rfl, hl, hcap, hf, hmF, hm, hp, hq, bel⟩
  have L1 := Lib.hid hl
  have F1 := Lib.hid hf
  have HF1 := Lib.hid hf.1
  have HP := Lib.hid hp; have HQ := Lib.hid hq
  have B1 := Lib.hid (bel_later bel)
  have KB : Hid (∀ W', Later (w1.alloc (.cells #[.slice a n cap] 26)) W' → W'.cell? ⟨w1.heap.size, 0, none⟩ = some (.slice a n cap)) := Lib.hid (fun W' k => by rw [k.cell (p := ⟨w1.heap.size, 0, none⟩) (by simp)]; simp)
  have X1 := Lib.hid (show Later w1 (w1.alloc (.cells #[.slice a n cap] 26)) from (Later.refl _).alloc _)
  clear hl hf bel hbig hp hq
  go_wp2_with fail
  refine (i_SensorsPassed a n cap L A m capF F p q _ (L1.out.later X1.out) (sl_lat F1.out X1.out)).mono ?_
  rintro e w2 ⟨v2, rfl, ho, hb⟩
  obtain ⟨aX, kX, rfl, hsl, _⟩ := ho.rd
  have c2 := KB.out w2 hb
  have Y2 := Lib.hid hb
  have S2 := Lib.hid hsl
  clear hb ho hsl
  go_wp2_with fail
  refine (s_SensorsPassed a n cap L A m capF F p q _ (L1.out.later (X1.out.trans Y2.out)) (sl_lat F1.out (X1.out.trans Y2.out))).mono ?_
  rintro e w3 ⟨v3, rfl, ho, hb⟩
  obtain ⟨aM, kM, rfl, hsl, _⟩ := ho.rd
  have S3 := Lib.hid hsl
  have Z3 := Lib.hid hb
  have Y3 := Lib.hid (Y2.out.trans hb)
  have W3 : Hid (Later w w3) := Lib.hid (B1.out.trans (X1.out.trans Y3.out))
  clear hb c2 Y2 ho hsl
  go_wp2_with fail
  refine (s_DrawSensorsCovered _ _ _ _ (HS.out.later W3.out)).mono ?_
  rintro e w4 ⟨a4, n4, cap4, M, A4, m4, capF4, F4, p4, q4, rfl, hl, hcap4, hf, hmF4, hm4, hp4, hq4, bel⟩
  have L4 := Lib.hid hl
  have F4s := Lib.hid hf
  have HP4 := Lib.hid hp4
  have B4 := Lib.hid (bel_later bel)
  have KC : Hid (∀ W', Later (w4.alloc (.cells #[.slice a4 n4 cap4] 26)) W' → W'.cell? ⟨w4.heap.size, 0, none⟩ = some (.slice a4 n4 cap4)) := Lib.hid (fun W' k => by rw [k.cell (p := ⟨w4.heap.size, 0, none⟩) (by simp)]; simp)
  have X4 := Lib.hid (show Later w4 (w4.alloc (.cells #[.slice a4 n4 cap4] 26)) from (Later.refl _).alloc _)
  clear hl bel hf hq4 hm4 hp4
  go_wp2_with fail
  refine (i_SensorsCovered a4 n4 cap4 M A4 m4 capF4 F4 p4 q4 _ (L4.out.later X4.out) (sl_lat F4s.out X4.out) HP4.out).mono ?_
  rintro e w5 ⟨v5, rfl, ho, hb⟩
  obtain ⟨aC, kC, rfl, hsl, _⟩ := ho.rd
  have c5 := KC.out w5 hb
  have Y5 := Lib.hid hb
  have S5 := Lib.hid hsl
  clear hb ho hsl
  go_wp2_with fail
  refine (s_SensorsCovered a4 n4 cap4 M A4 m4 capF4 F4 p4 q4 _ (L4.out.later (X4.out.trans Y5.out)) (sl_lat F4s.out (X4.out.trans Y5.out))).mono ?_
  rintro e w6 ⟨v6, rfl, ho, hb⟩
  obtain ⟨aD, kD, rfl, hsl, _⟩ := ho.rd
  have S6 := Lib.hid hsl
  have Z6 := Lib.hid hb
  have Y6 : Hid (Later w3 w6) := Lib.hid (B4.out.trans (X4.out.trans (Y5.out.trans hb)))
  have S2b := Lib.hid (sl_lat S2.out (Z3.out.trans Y6.out))
  have S3b := Lib.hid (sl_lat S3.out Y6.out)
  have S5b := Lib.hid (sl_lat S5.out hb)
  have Y7 := Lib.hid (Y3.out.trans Y6.out)
  have W6 : Hid (Later w w6) := Lib.hid (W3.out.trans Y6.out)
  clear hb c5 ho hsl S2 S3 S5 Y5 KC L4 X4 HP4 W3 Y3 B4 Z3 Y6 F4s
  have e1 : (psE L F p q != psE L F p q) = false := by simp
  have e2 : (cvE M F4 p4 q4 != cvE M F4 p4 q4) = false := by simp
  go_wp2_with fail
  refine (l_likeInts aX aM _ kX _ kM (psV L F p q) _ S2b.out S3b.out).mono ?_
  rintro e w7 ⟨rfl, hb⟩
  have V7 := Lib.hid hb
  clear hb
  go_wp2_with fail
  refine (l_likeInts aC aD _ kC _ kD (cvV M F4 p4 q4) _ (sl_lat S5b.out V7.out) (sl_lat S6.out V7.out)).mono ?_
  rintro e w8 ⟨rfl, hb⟩
  have Y8 : Hid (Later (w1.alloc (.cells #[.slice a n cap] 26)) w8) := Lib.hid (Y7.out.trans (V7.out.trans hb))
  have W8 : Hid (Later w w8) := Lib.hid (W6.out.trans (V7.out.trans hb))
  have SX8 := Lib.hid (sl_lat S2b.out (V7.out.trans hb))
  have c8 := KB.out w8 Y8.out
  clear hb V7 Y7 W6 S2b S3b S5b S6 e1 e2 Z6
  by_cases he : psE L F p q = 0
  · obtain ⟨hT, hv, g, mx, hmx, hall, hx, hg, hinj⟩ := ps_all he
    have HV := Lib.hid hv; have HT := Lib.hid hT
    have HALL := Lib.hid hall; have HG := Lib.hid hg; have HI := Lib.hid hinj
    rw [HF1.out] at hmx HALL HG HI
    have HXL : Hid ((psV L F p q).length = mx) := Lib.hid (by rw [hx]; simp)
    have HX := Lib.hid hx
    rw [he]
    have SX : Hid (Sl w8 aX mx (psV L F p q)) := Lib.hid (by rw [← HXL.out]; exact SX8.out)
    have HXg : Hid (∀ i, i < mx → gx (psV L F p q) i = (g i : Int)) := Lib.hid (fun i hi => by rw [HX.out]; simp [gx, hi])
    rw [HXL.out]
    generalize psV L F p q = X at SX HXg ⊢
    clear he hT hv hall hx hg hinj SX8 HXL HX
    go_wp2_with fail
    refine (i_TL_ok a n cap L _ (L1.out.later (X1.out.trans Y8.out)) HV.out).mono ?_
    rintro e w9 ⟨rfl, hb⟩
    have Y9 := Lib.hid (Y8.out.trans hb)
    have Z9 := Lib.hid hb
    have c9 := KB.out w9 Y9.out
    clear hb c8
    go_wp2_with fail
    refine (i_SensorsPassed a n cap L A m capF F p (totL L) _ (L1.out.later (X1.out.trans Y9.out)) (sl_lat F1.out (X1.out.trans Y9.out))).mono ?_
    rintro e w10 ⟨v10, rfl, ho, hb⟩
    obtain ⟨aY, kY, rfl, hsl, _⟩ := ho.rd
    rw [HT.out]
    have HYL : Hid ((psV L F p (totL L)).length = m) := Lib.hid (by rw [HALL.out]; simp)
    have SY : Hid (Sl w10 aY m (psV L F p (totL L))) := Lib.hid (by rw [← HYL.out]; exact hsl)
    have HYg : Hid (∀ i, i < m → gx (psV L F p (totL L)) i = (g i : Int)) := Lib.hid (fun i hi => by rw [HALL.out]; simp [gx, hi])
    rw [HYL.out]
    have SX10 := Lib.hid (sl_lat SX.out (Z9.out.trans hb))
    generalize psV L F p (totL L) = Y at SY HYg ⊢
    have W10 : Hid (Later w w10) := Lib.hid (W8.out.trans (Z9.out.trans hb))
    clear hb ho hsl c9 HYL HALL SX HT
    have e3 : ((m : Int) != (m : Int)) = false := by simp
    obtain ⟨i0, hi, hz0, hz1, hz2⟩ := info_parts info_bool
    have HI0 := Lib.hid hi; clear hi
    have HZ0 := Lib.hid hz0; clear hz0
    have HZ1 := Lib.hid hz1; clear hz1
    have HZ2 := Lib.hid hz2; clear hz2
    have hz10 := W10.out.size
    go_wp2_with (at_make; go_must (refine wpList_make_full _ rfl _ _ _ rfl w.heap.size 4 i0 (.bool false) 1 Try.underlying53 HI0.out HZ0.out HZ1.out _ _ _ _ m rfl rfl (by omega) (by omega) (by rw [HZ2.out]; omega) (by unfold maxLen; omega) hz10 ?_; intro w11 hown hgrow; have c11 : True := trivial))
    have O11 : Hid (w11.ownsRow w.heap.size 4 1 (.slice (some ⟨w10.heap.size, 0, none⟩) m m) m ((snB g m 0).map Value.bool)) := Lib.hid (by
      rw [snB_0, List.map_replicate, ← toList_madeCells_one]; simpa [Value.cells] using hown)
    have Z11 : Hid (Later w10 w11) := Lib.hid ((Below.refl _ _).grown hgrow (Nat.le_refl _) (by simp))
    clear hown hgrow c11 e3
    go_loopw [24] (fun i wr => ∃ k : Nat, k ≤ m ∧ i = .int .i64 k ∧ wr.ownsRow w.heap.size 4 1 (.slice (some ⟨w10.heap.size, 0, none⟩) m m) m ((snB g m k).map Value.bool) ∧ Later w10 wr) (fun i _ => m - (intOf i).toNat)
    case atStart => exact ⟨0, by omega, rfl, O11.out, Z11.out⟩
    case round =>
      obtain ⟨i, hi, rfl, ho, hw⟩ := hrel
      have HR := Lib.hid ho; have HW := Lib.hid hw
      clear ho hw
      by_cases hlt : i < m
      · obtain ⟨bY, oY, rfl, cY⟩ := (sl_lat SY.out HW.out).at i hlt
        rw [HYg.out i hlt] at cY
        have hzm := HG.out i hlt
        have cS : wr.cell? ⟨w10.heap.size, g i, none⟩ = some (.bool false) := by rw [HR.out.cellAt (g i) (by omega), List.getElem?_map, snB_no HI.out HG.out hlt]; rfl
        have fS : wr.frozen? ⟨w10.heap.size, g i, none⟩ = false := HR.out.frozenAt (g i)
        have HSET : Hid (((snB g m i).map Value.bool).set (g i) (.bool true) = (snB g m (i + 1)).map Value.bool) := Lib.hid (by rw [← snB_set, List.map_set])
        have HXi : Hid (i < mx → gx X i = (g i : Int)) := Lib.hid (HXg.out i)
        generalize g i = z at cY hzm cS fS HSET HXi
        have e4 : ((z : Int) != (z : Int)) = false := by simp
        have e5 : decide ((z : Int) < 0) = false := by simp
        have e6 : decide (m ≤ z) = false := by simp; omega
        by_cases hix : i < mx
        · obtain ⟨bX, oX, rfl, cX⟩ := (sl_lat SX10.out HW.out).at i hix
          rw [HXi.out hix] at cX
          have e7 : decide (i < mx) = true := by simpa using hix
          go_wp2_with fail
          go_quiet (fail)
          go_wp2_with fail
          go_roundw
          case rel => exact ⟨i + 1, by omega, by go_num, by rw [← HSET.out]; exact ((HR.out.kept (grown_drewN wr nq none) (.inr (fun e => by cases e))).stored z _).1, (HW.out.drewN _).setCell (p := ⟨w10.heap.size, z, none⟩) (Nat.le_refl _) _⟩
          case measure => simp [intOf]; omega
        · have e7 : decide (i < mx) = false := by simpa using hix
          go_wp2_with fail
          go_quiet (fail)
          go_wp2_with fail
          go_roundw
          case rel => exact ⟨i + 1, by omega, by go_num, by rw [← HSET.out]; exact ((HR.out.kept (grown_drewN wr nq none) (.inr (fun e => by cases e))).stored z _).1, (HW.out.drewN _).setCell (p := ⟨w10.heap.size, z, none⟩) (Nat.le_refl _) _⟩
          case measure => simp [intOf]; omega
      · obtain rfl : i = m := by omega
        have e8 : decide (mx ≤ i) = true := by simpa using hmx
        go_wp2_with fail
        go_ret
        exact ⟨by first | rfl | simp, W10.out.trans HW.out⟩
  · have d1 : (psE L F p q != 0) = true := by simpa using he
    clear he
    go_wp2_with fail
    go_ret
    exact ⟨rfl, W8.out⟩
end Go.Proofs.Ytehinlecppbjeaa
