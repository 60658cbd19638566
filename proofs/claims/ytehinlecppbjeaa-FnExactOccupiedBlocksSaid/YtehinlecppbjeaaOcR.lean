/- Contracts of chapter 5: rears, moves, gaps, separate trains: the program's functions. -/
import Derived.Test.YtehinlecppbjeaaOcI
import Derived.Test.YtehinlecppbjeaaSgIT
namespace Go.Proofs.Ytehinlecppbjeaa
open Go.RowKit
set_option maxHeartbeats 2000000
set_option linter.unusedVariables false
set_option linter.unusedSimpArgs false
theorem i_TL_ok (a : Option Addr) (n cap : Nat) (L : List Sg) (w : World) (hs : Sgs w a n L) (hv : layB L = true) :
    Calls Try.prog 32 #[.agg #[.slice a n cap]] w fun e w' => e = .returned (.tuple #[.int .i64 (totL L), .int .i64 0]) ∧ Later w w' := by
  have c := i_TrackLength a n cap L w hs
  unfold tlV tlE at c
  rw [hv] at c
  exact c
theorem i_TL_no (a : Option Addr) (n cap : Nat) (L : List Sg) (w : World) (hs : Sgs w a n L) (hv : layB L = false) :
    Calls Try.prog 32 #[.agg #[.slice a n cap]] w fun e w' => e = .returned (.tuple #[.int .i64 0, .int .i64 1]) ∧ Later w w' := by
  have c := i_TrackLength a n cap L w hs
  unfold tlV tlE at c
  rw [hv] at c
  exact c
theorem i_RearOf (a : Option Addr) (n cap : Nat) (L : List Sg) (p q : Int) (w : World) (hs : Sgs w a n L) (hp : InR p) :
    Calls Try.prog 22 #[.agg #[.slice a n cap], .int .i64 p, .int .i64 q] w fun e w' => e = .returned (.tuple #[.int .i64 (rearV L p q), .int .i64 (trE L p q)]) ∧ Later w w' := by
  have HS := Lib.hid hs
  have HP := Lib.hid hp
  clear hs hp
  cases hv : layB L
  · have HT : Hid (rearV L p q = 0 ∧ trE L p q = 1) := Lib.hid (by unfold rearV; rw [trE_bad hv]; simp)
    go_enter Try.func22, Try.ntmps22
    go_wp2_with (go_at_call 32; refine (i_TL_no a n cap L _ (HS.out.later ((Later.refl _).alloc _)) hv).mono ?_; rintro e w1 ⟨rfl, hb⟩; obtain ⟨H, hcc, hff, hzz⟩ := later_facts hb; clear hb; (try simp at hzz); (try simp only [World.heap_drewN, World.cell?_drewN, World.frozen?_drewN] at hcc hff))
    go_ret2
    exact ⟨ret_2i (by rw [HT.out.1]) (by rw [HT.out.2]), (by repeat (first | (with_reducible exact Later.refl _) | (with_reducible exact Hid.out (by assumption)) | (with_reducible refine Later.alloc ?_ _) | (with_reducible refine Later.setCell ?_ (by simp; omega) _) | (with_reducible refine Later.setCell ?_ (by simp) _) | (with_reducible refine Later.drewN ?_ _) | (with_reducible refine Later.drew ?_) | (with_reducible refine Later.trans ?_ (Hid.out (by assumption)))))⟩
  · obtain ⟨t1, t2⟩ := tot_bd hv
    have HO : ∀ (w0 : World) (T : TypeId), Hid (Sl (w0.alloc (.cells #[.int .i64 p] T)) (some ⟨w0.heap.size, 0, none⟩) 1 [p]) := fun w0 T => Lib.hid (sl_one w0 T p HP.out)
    have HO := Lib.hid HO
    cases hc : trsB (totL L) q [p]
    · have HT : Hid (rearV L p q = 0 ∧ trE L p q = 2) := Lib.hid (by
        have : trE L p q = 2 := by unfold trE; rw [if_pos hv, hc]; simp
        unfold rearV; rw [this]; simp)
      go_enter Try.func22, Try.ntmps22
      go_wp2_with (first
        | (go_at_call 32; refine (i_TL_ok a n cap L _ (HS.out.later ((Later.refl _).alloc _)) hv).mono ?_; rintro e w1 ⟨rfl, hb⟩; obtain ⟨H, hcc, hff, hzz⟩ := later_facts hb; clear hb; (try simp at hzz); (try simp only [World.heap_drewN, World.cell?_drewN, World.frozen?_drewN] at hcc hff))
        | (go_at_call 75; refine (i_areTrains (totL L) q _ 1 1 [p] _ (HO.out _ _).out).mono ?_; rw [hc]; rintro e w' ⟨rfl, rfl⟩))
      go_ret2
      exact ⟨ret_2i (by rw [HT.out.1]) (by rw [HT.out.2]), (by repeat (first | (with_reducible exact Later.refl _) | (with_reducible exact Hid.out (by assumption)) | (with_reducible refine Later.alloc ?_ _) | (with_reducible refine Later.setCell ?_ (by simp; omega) _) | (with_reducible refine Later.setCell ?_ (by simp) _) | (with_reducible refine Later.drewN ?_ _) | (with_reducible refine Later.drew ?_) | (with_reducible refine Later.trans ?_ (Hid.out (by assumption)))))⟩
    · have HT : Hid (rearV L p q = rearK (totL L) p q ∧ trE L p q = 0) := Lib.hid (by
        have : trE L p q = 0 := by unfold trE; rw [if_pos hv, hc]; simp
        unfold rearV; rw [this]; simp)
      have hx := hc
      rw [trsB_one, Bool.and_eq_true, isN_iff, isP_iff] at hx
      obtain ⟨⟨q1, q2, q3⟩, p1, p2⟩ := hx
      go_enter Try.func22, Try.ntmps22
      go_wp2_with (first
        | (go_at_call 32; refine (i_TL_ok a n cap L _ (HS.out.later ((Later.refl _).alloc _)) hv).mono ?_; rintro e w1 ⟨rfl, hb⟩; obtain ⟨H, hcc, hff, hzz⟩ := later_facts hb; clear hb; (try simp at hzz); (try simp only [World.heap_drewN, World.cell?_drewN, World.frozen?_drewN] at hcc hff))
        | (go_at_call 75; refine (i_areTrains (totL L) q _ 1 1 [p] _ (HO.out _ _).out).mono ?_; rw [hc]; rintro e w' ⟨rfl, rfl⟩)
        | (go_at_call 76; refine (i_rearAt (totL L) p q _ (by omega) t2 p1 p2 q1 q3).mono ?_; rintro e w' ⟨rfl, rfl⟩))
      go_ret2
      exact ⟨ret_2i (by rw [HT.out.1]) (by rw [HT.out.2]), (by repeat (first | (with_reducible exact Later.refl _) | (with_reducible exact Hid.out (by assumption)) | (with_reducible refine Later.alloc ?_ _) | (with_reducible refine Later.setCell ?_ (by simp; omega) _) | (with_reducible refine Later.setCell ?_ (by simp) _) | (with_reducible refine Later.drewN ?_ _) | (with_reducible refine Later.drew ?_) | (with_reducible refine Later.trans ?_ (Hid.out (by assumption)))))⟩
theorem i_MoveFront (a : Option Addr) (n cap : Nat) (L : List Sg) (p q : Int) (w : World) (hs : Sgs w a n L) :
    Calls Try.prog 19 #[.agg #[.slice a n cap], .int .i64 p, .int .i64 q] w fun e w' => e = .returned (.tuple #[.int .i64 (movV L p q), .int .i64 (mvE L p q)]) ∧ Later w w' := by
  have HS := Lib.hid hs
  clear hs
  cases hv : layB L
  · have HT : Hid (movV L p q = 0 ∧ mvE L p q = 1) := Lib.hid (by unfold movV; rw [mvE_bad hv]; simp)
    go_enter Try.func19, Try.ntmps19
    go_wp2_with (go_at_call 32; refine (i_TL_no a n cap L _ (HS.out.later ((Later.refl _).alloc _)) hv).mono ?_; rintro e w1 ⟨rfl, hb⟩; obtain ⟨H, hcc, hff, hzz⟩ := later_facts hb; clear hb; (try simp at hzz); (try simp only [World.heap_drewN, World.cell?_drewN, World.frozen?_drewN] at hcc hff))
    go_ret2
    exact ⟨ret_2i (by rw [HT.out.1]) (by rw [HT.out.2]), (by repeat (first | (with_reducible exact Later.refl _) | (with_reducible exact Hid.out (by assumption)) | (with_reducible refine Later.alloc ?_ _) | (with_reducible refine Later.setCell ?_ (by simp; omega) _) | (with_reducible refine Later.setCell ?_ (by simp) _) | (with_reducible refine Later.drewN ?_ _) | (with_reducible refine Later.drew ?_) | (with_reducible refine Later.trans ?_ (Hid.out (by assumption)))))⟩
  · obtain ⟨t1, t2⟩ := tot_bd hv
    cases hc : mvB (totL L) p q
    · have HT : Hid (movV L p q = 0 ∧ mvE L p q = 2) := Lib.hid (by
        unfold movV; rw [mvE_no hv hc]; simp)
      go_enter Try.func19, Try.ntmps19
      go_wp2_with (first
        | (go_at_call 32; refine (i_TL_ok a n cap L _ (HS.out.later ((Later.refl _).alloc _)) hv).mono ?_; rintro e w1 ⟨rfl, hb⟩; obtain ⟨H, hcc, hff, hzz⟩ := later_facts hb; clear hb; (try simp at hzz); (try simp only [World.heap_drewN, World.cell?_drewN, World.frozen?_drewN] at hcc hff))
        | (go_at_call 70; refine (i_isMove (totL L) p q _).mono ?_; rw [hc]; rintro e w' ⟨rfl, rfl⟩))
      go_ret2
      exact ⟨ret_2i (by rw [HT.out.1]) (by rw [HT.out.2]), (by repeat (first | (with_reducible exact Later.refl _) | (with_reducible exact Hid.out (by assumption)) | (with_reducible refine Later.alloc ?_ _) | (with_reducible refine Later.setCell ?_ (by simp; omega) _) | (with_reducible refine Later.setCell ?_ (by simp) _) | (with_reducible refine Later.drewN ?_ _) | (with_reducible refine Later.drew ?_) | (with_reducible refine Later.trans ?_ (Hid.out (by assumption)))))⟩
    · have HT : Hid (movV L p q = (p + q) % totL L ∧ mvE L p q = 0) := Lib.hid (by
        unfold movV; rw [mvE_yes hv hc]; simp)
      have hx := hc
      rw [mvB_iff] at hx
      obtain ⟨⟨p1, p2⟩, q1, q2⟩ := hx
      go_enter Try.func19, Try.ntmps19
      go_wp2_with (first
        | (go_at_call 32; refine (i_TL_ok a n cap L _ (HS.out.later ((Later.refl _).alloc _)) hv).mono ?_; rintro e w1 ⟨rfl, hb⟩; obtain ⟨H, hcc, hff, hzz⟩ := later_facts hb; clear hb; (try simp at hzz); (try simp only [World.heap_drewN, World.cell?_drewN, World.frozen?_drewN] at hcc hff))
        | (go_at_call 70; refine (i_isMove (totL L) p q _).mono ?_; rw [hc]; rintro e w' ⟨rfl, rfl⟩)
        | (go_at_call 71; refine (i_around (totL L) (p + q) _ (by omega) (by omega) (by omega) (by omega)).mono ?_; rintro e w' ⟨rfl, rfl⟩))
      go_ret2
      exact ⟨ret_2i (by rw [HT.out.1]) (by rw [HT.out.2]), (by repeat (first | (with_reducible exact Later.refl _) | (with_reducible exact Hid.out (by assumption)) | (with_reducible refine Later.alloc ?_ _) | (with_reducible refine Later.setCell ?_ (by simp; omega) _) | (with_reducible refine Later.setCell ?_ (by simp) _) | (with_reducible refine Later.drewN ?_ _) | (with_reducible refine Later.drew ?_) | (with_reducible refine Later.trans ?_ (Hid.out (by assumption)))))⟩
theorem i_frontDistance (T x y : Int) (w : World) (hT : 0 < T) (hT2 : T ≤ 4800000) (hx : 0 ≤ x) (hx2 : x < T) (hy : 0 ≤ y) (hy2 : y < T) :
    Calls Try.prog 81 #[.int .i64 T, .int .i64 x, .int .i64 y] w fun e w' => e = .returned (.int .i64 (ahead T x y)) ∧ w = w' := by
  have HA : Hid (ahead T x y = (y - x) % T) := Lib.hid rfl
  go_enter Try.func81, Try.ntmps81
  go_wp2_with (go_at_call 71; refine (i_around T (y - x) _ hT (by omega) (by omega) (by omega)).mono ?_; rintro e w' ⟨rfl, rfl⟩)
  go_ret
  exact ⟨ret_i64 HA.out.symm, rfl⟩
theorem i_isApart (T x y q : Int) (w : World) (hT : 0 < T) (hT2 : T ≤ 4800000) (hx : 0 ≤ x) (hx2 : x < T) (hy : 0 ≤ y) (hy2 : y < T) :
    Calls Try.prog 80 #[.int .i64 T, .int .i64 x, .int .i64 y, .int .i64 q] w fun e w' => e = .returned (.bool (apB T x y q)) ∧ w = w' := by
  obtain ⟨r1, r2⟩ : 0 ≤ ahead T x y ∧ ahead T x y < T := mod_rng _ T hT
  have HA : Hid (apB T x y q = (decide (q ≤ ahead T x y) && decide (q ≤ T - ahead T x y))) := Lib.hid rfl
  generalize hr : ahead T x y = r at r1 r2 HA
  have HR := Lib.hid hr
  clear hr
  by_cases h1 : q ≤ r
  · by_cases h2 : q ≤ T - r
    · go_enter Try.func80, Try.ntmps80
      go_wp2_with (go_at_call 81; refine (i_frontDistance T x y _ hT hT2 hx hx2 hy hy2).mono ?_; rw [HR.out]; rintro e w' ⟨rfl, rfl⟩)
      go_ret
      exact ⟨ret_b (by rw [HA.out]; simp [h1, h2]), rfl⟩
    · go_enter Try.func80, Try.ntmps80
      go_wp2_with (go_at_call 81; refine (i_frontDistance T x y _ hT hT2 hx hx2 hy hy2).mono ?_; rw [HR.out]; rintro e w' ⟨rfl, rfl⟩)
      go_ret
      exact ⟨ret_b (by rw [HA.out]; simp [h1, h2]), rfl⟩
  · go_enter Try.func80, Try.ntmps80
    go_wp2_with (go_at_call 81; refine (i_frontDistance T x y _ hT hT2 hx hx2 hy hy2).mono ?_; rw [HR.out]; rintro e w' ⟨rfl, rfl⟩)
    go_ret
    exact ⟨ret_b (by rw [HA.out]; simp; omega), rfl⟩
theorem trs_two {L : List Sg} (hv : layB L = true) (x y q : Int) : (trsB (totL L) q [x, y] = false → gapE L x y q = 2) ∧ (trsB (totL L) q [x, y] = true → gapE L x y q = if apB (totL L) x y q = true then 0 else 5) := by
  unfold gapE trE
  rw [if_pos hv, if_pos hv, trsB_one, trsB_one, trsB_two]
  cases isN (totL L) q <;> cases isP (totL L) x <;> cases isP (totL L) y <;> simp
set_option maxRecDepth 100000 in
theorem i_GapAhead (a : Option Addr) (n cap : Nat) (L : List Sg) (x y q : Int) (w : World) (hs : Sgs w a n L) (hx : InR x) (hy : InR y) :
    Calls Try.prog 27 #[.agg #[.slice a n cap], .int .i64 x, .int .i64 y, .int .i64 q] w fun e w' => e = .returned (.tuple #[.int .i64 (gapV L x y q), .int .i64 (gapE L x y q)]) ∧ Later w w' := by
  have HS := Lib.hid hs
  have HX := Lib.hid hx; have HY := Lib.hid hy
  clear hs hx hy
  cases hv : layB L
  · have HT : Hid (gapV L x y q = 0 ∧ gapE L x y q = 1) := Lib.hid (by
      have : gapE L x y q = 1 := by unfold gapE; rw [trE_bad hv]; simp
      unfold gapV; rw [this]; simp)
    go_enter Try.func27, Try.ntmps27
    go_wp2_with (go_at_call 32; refine (i_TL_no a n cap L _ (HS.out.later ((Later.refl _).alloc _)) hv).mono ?_; rintro e w1 ⟨rfl, hb⟩; obtain ⟨H, hcc, hff, hzz⟩ := later_facts hb; clear hb; (try simp at hzz); (try simp only [World.heap_drewN, World.cell?_drewN, World.frozen?_drewN] at hcc hff))
    go_ret2
    exact ⟨ret_2i (by rw [HT.out.1]) (by rw [HT.out.2]), (by repeat (first | (with_reducible exact Later.refl _) | (with_reducible exact Hid.out (by assumption)) | (with_reducible refine Later.alloc ?_ _) | (with_reducible refine Later.setCell ?_ (by simp; omega) _) | (with_reducible refine Later.setCell ?_ (by simp) _) | (with_reducible refine Later.drewN ?_ _) | (with_reducible refine Later.drew ?_) | (with_reducible refine Later.trans ?_ (Hid.out (by assumption)))))⟩
  · obtain ⟨t1, t2⟩ := tot_bd hv
    have HO : ∀ (w0 : World) (T : TypeId), Hid (Sl (w0.alloc (.cells #[.int .i64 x, .int .i64 y] T)) (some ⟨w0.heap.size, 0, none⟩) 2 [x, y]) := fun w0 T => Lib.hid (sl_two w0 T x y HX.out HY.out)
    have HO := Lib.hid HO
    cases hc : trsB (totL L) q [x, y]
    · have HT : Hid (gapV L x y q = 0 ∧ gapE L x y q = 2) := Lib.hid (by
        have := (trs_two hv x y q).1 hc
        unfold gapV; rw [this]; simp)
      go_enter Try.func27, Try.ntmps27
      go_wp2_with (first
        | (go_at_call 32; refine (i_TL_ok a n cap L _ (HS.out.later ((Later.refl _).alloc _)) hv).mono ?_; rintro e w1 ⟨rfl, hb⟩; obtain ⟨H, hcc, hff, hzz⟩ := later_facts hb; clear hb; (try simp at hzz); (try simp only [World.heap_drewN, World.cell?_drewN, World.frozen?_drewN] at hcc hff))
        | (go_at_call 75; refine (i_areTrains (totL L) q _ 2 2 [x, y] _ (HO.out _ _).out).mono ?_; rw [hc]; rintro e w' ⟨rfl, rfl⟩))
      go_ret2
      exact ⟨ret_2i (by rw [HT.out.1]) (by rw [HT.out.2]), (by repeat (first | (with_reducible exact Later.refl _) | (with_reducible exact Hid.out (by assumption)) | (with_reducible refine Later.alloc ?_ _) | (with_reducible refine Later.setCell ?_ (by simp; omega) _) | (with_reducible refine Later.setCell ?_ (by simp) _) | (with_reducible refine Later.drewN ?_ _) | (with_reducible refine Later.drew ?_) | (with_reducible refine Later.trans ?_ (Hid.out (by assumption)))))⟩
    · have hx := hc
      rw [trsB_two, Bool.and_eq_true, Bool.and_eq_true, isN_iff, isP_iff, isP_iff] at hx
      obtain ⟨⟨q1, q2, q3⟩, ⟨x1, x2⟩, y1, y2⟩ := hx
      cases ha : apB (totL L) x y q
      · have HT : Hid (gapV L x y q = 0 ∧ gapE L x y q = 5) := Lib.hid (by
          have := (trs_two hv x y q).2 hc
          rw [ha] at this
          unfold gapV; rw [this]; simp)
        go_enter Try.func27, Try.ntmps27
        go_wp2_with (first
          | (go_at_call 32; refine (i_TL_ok a n cap L _ (HS.out.later ((Later.refl _).alloc _)) hv).mono ?_; rintro e w1 ⟨rfl, hb⟩; obtain ⟨H, hcc, hff, hzz⟩ := later_facts hb; clear hb; (try simp at hzz); (try simp only [World.heap_drewN, World.cell?_drewN, World.frozen?_drewN] at hcc hff))
          | (go_at_call 75; refine (i_areTrains (totL L) q _ 2 2 [x, y] _ (HO.out _ _).out).mono ?_; rw [hc]; rintro e w' ⟨rfl, rfl⟩)
          | (go_at_call 80; refine (i_isApart (totL L) x y q _ (by omega) t2 x1 x2 y1 y2).mono ?_; rw [ha]; rintro e w' ⟨rfl, rfl⟩))
        go_ret2
        exact ⟨ret_2i (by rw [HT.out.1]) (by rw [HT.out.2]), (by repeat (first | (with_reducible exact Later.refl _) | (with_reducible exact Hid.out (by assumption)) | (with_reducible refine Later.alloc ?_ _) | (with_reducible refine Later.setCell ?_ (by simp; omega) _) | (with_reducible refine Later.setCell ?_ (by simp) _) | (with_reducible refine Later.drewN ?_ _) | (with_reducible refine Later.drew ?_) | (with_reducible refine Later.trans ?_ (Hid.out (by assumption)))))⟩
      · have HT : Hid (gapV L x y q = ahead (totL L) x y - q ∧ gapE L x y q = 0) := Lib.hid (by
          have := (trs_two hv x y q).2 hc
          rw [ha] at this
          unfold gapV; rw [this]; simp)
        obtain ⟨r1, r2⟩ : 0 ≤ ahead (totL L) x y ∧ ahead (totL L) x y < totL L := mod_rng _ _ (by omega)
        go_enter Try.func27, Try.ntmps27
        go_wp2_with (first
          | (go_at_call 32; refine (i_TL_ok a n cap L _ (HS.out.later ((Later.refl _).alloc _)) hv).mono ?_; rintro e w1 ⟨rfl, hb⟩; obtain ⟨H, hcc, hff, hzz⟩ := later_facts hb; clear hb; (try simp at hzz); (try simp only [World.heap_drewN, World.cell?_drewN, World.frozen?_drewN] at hcc hff))
          | (go_at_call 75; refine (i_areTrains (totL L) q _ 2 2 [x, y] _ (HO.out _ _).out).mono ?_; rw [hc]; rintro e w' ⟨rfl, rfl⟩)
          | (go_at_call 80; refine (i_isApart (totL L) x y q _ (by omega) t2 x1 x2 y1 y2).mono ?_; rw [ha]; rintro e w' ⟨rfl, rfl⟩)
          | (go_at_call 81; refine (i_frontDistance (totL L) x y _ (by omega) t2 x1 x2 y1 y2).mono ?_; rintro e w' ⟨rfl, rfl⟩))
        go_ret2
        exact ⟨ret_2i (by rw [HT.out.1]) (by rw [HT.out.2]), (by repeat (first | (with_reducible exact Later.refl _) | (with_reducible exact Hid.out (by assumption)) | (with_reducible refine Later.alloc ?_ _) | (with_reducible refine Later.setCell ?_ (by simp; omega) _) | (with_reducible refine Later.setCell ?_ (by simp) _) | (with_reducible refine Later.drewN ?_ _) | (with_reducible refine Later.drew ?_) | (with_reducible refine Later.trans ?_ (Hid.out (by assumption)))))⟩
end Go.Proofs.Ytehinlecppbjeaa
