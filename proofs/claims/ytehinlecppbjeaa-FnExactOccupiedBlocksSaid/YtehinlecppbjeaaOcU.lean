/- Contracts of chapter 5: the model's small functions; rears, moves, gaps. -/
import Derived.Test.YtehinlecppbjeaaOcI
import Derived.Test.YtehinlecppbjeaaSgUT
namespace Go.Proofs.Ytehinlecppbjeaa
open Go.RowKit
set_option maxHeartbeats 2000000
set_option linter.unusedVariables false
set_option linter.unusedSimpArgs false
theorem s_l05Mod (n T : Int) (w : World) (hT : 0 < T) (hT2 : T ≤ 4000000000000000000) (hn : -9223372036854775808 ≤ n) (hn2 : n ≤ 9223372036854775807) :
    Calls Try.prog 78 #[.int .i64 n, .int .i64 T] w fun e w' => e = .returned (.int .i64 (n % T)) ∧ w = w' := by
  have HE := Lib.hid (mod_go2 n T hT)
  have f := tmod_facts n T (by omega)
  have f1 := (f.2.2.2.1 hT).1
  have f2 := (f.2.2.2.1 hT).2
  have g := tmod_facts (n.tmod T + T) T (by omega)
  have g0 := g.2.1 (by omega)
  have g1 := (g.2.2.2.1 hT).1
  clear f g
  go_enter Try.func78, Try.ntmps78
  go_wp2
  go_ret
  exact ⟨ret_i64 (by have h := HE.out; rw [Int.tmod_eq_emod_of_nonneg (by omega)] at h; first | exact h | (rw [← h]; simp; done)), rfl⟩
def cdE (L : List Sg) (p n lo hi : Int) : Int := if layB L = true then (if (0 ≤ p ∧ p < totL L) ∧ lo ≤ n ∧ n ≤ hi ∧ n ≤ totL L then 0 else 2) else 1
theorem s_l05Code (a : Option Addr) (n cap : Nat) (L : List Sg) (p q lo hi : Int) (w : World) (hs : Sgs w a n L) :
    Calls Try.prog 72 #[.agg #[.slice a n cap], .int .i64 p, .int .i64 q, .int .i64 lo, .int .i64 hi] w fun e w' => e = .returned (.int .i64 (cdE L p q lo hi)) ∧ Later w w' := by
  have HS := Lib.hid hs
  have HL := Lib.hid hs.1
  clear hs
  cases hv : layB L
  · have HE : Hid (cdE L p q lo hi = 1) := Lib.hid (by unfold cdE; rw [hv]; simp)
    go_enter Try.func72, Try.ntmps72
    go_wp2_with (go_at_call 84; refine (s_IsLayout a n cap L _ (HS.out.later (by repeat (first | (with_reducible exact Later.refl _) | (with_reducible exact Hid.out (by assumption)) | (with_reducible refine Later.alloc ?_ _) | (with_reducible refine Later.setCell ?_ (by simp; omega) _) | (with_reducible refine Later.setCell ?_ (by simp) _) | (with_reducible refine Later.drewN ?_ _) | (with_reducible refine Later.drew ?_) | (with_reducible refine Later.trans ?_ (Hid.out (by assumption))))))).mono ?_; rintro e w1 ⟨rfl, hb⟩; obtain ⟨H, hcc, hff, hzz⟩ := later_facts hb; clear hb; (try simp at hzz); (try simp only [World.heap_drewN, World.cell?_drewN, World.frozen?_drewN] at hcc hff))
    go_ret
    exact ⟨ret_i64 (by rw [HE.out]), (by repeat (first | (with_reducible exact Later.refl _) | (with_reducible exact Hid.out (by assumption)) | (with_reducible refine Later.alloc ?_ _) | (with_reducible refine Later.setCell ?_ (by simp; omega) _) | (with_reducible refine Later.setCell ?_ (by simp) _) | (with_reducible refine Later.drewN ?_ _) | (with_reducible refine Later.drew ?_) | (with_reducible refine Later.trans ?_ (Hid.out (by assumption)))))⟩
  · have HO := Lib.hid ((layB_iff L).1 hv).2.2.1
    have h24 := ((layB_iff L).1 hv).2.1
    rw [HL.out] at h24
    obtain ⟨t1, t2⟩ := tot_bd hv
    have NO : ¬ ((0 ≤ p ∧ p < totL L) ∧ lo ≤ q ∧ q ≤ hi ∧ q ≤ totL L) → Hid (cdE L p q lo hi = 2) := fun h => Lib.hid (by unfold cdE; rw [if_pos hv, if_neg h])
    by_cases hin : 0 ≤ p ∧ p ≤ totL L - 1
    · obtain ⟨p1, p2⟩ := hin
      by_cases hm : hi ≤ totL L
      · by_cases hq : lo ≤ q ∧ q ≤ hi
        · have HE : Hid (cdE L p q lo hi = 0) := Lib.hid (by unfold cdE; rw [if_pos hv, if_pos (by omega)])
          obtain ⟨q1, q2⟩ := hq
          clear NO
          go_enter Try.func72, Try.ntmps72
          go_wp2_with (first
            | (go_at_call 84; refine (s_IsLayout a n cap L _ (HS.out.later (by repeat (first | (with_reducible exact Later.refl _) | (with_reducible exact Hid.out (by assumption)) | (with_reducible refine Later.alloc ?_ _) | (with_reducible refine Later.setCell ?_ (by simp; omega) _) | (with_reducible refine Later.setCell ?_ (by simp) _) | (with_reducible refine Later.drewN ?_ _) | (with_reducible refine Later.drew ?_) | (with_reducible refine Later.trans ?_ (Hid.out (by assumption))))))).mono ?_; rintro e w1 ⟨rfl, hb⟩; obtain ⟨H, hcc, hff, hzz⟩ := later_facts hb; clear hb; (try simp at hzz); (try simp only [World.heap_drewN, World.cell?_drewN, World.frozen?_drewN] at hcc hff))
            | (go_at_call 73; refine (s_Total a n cap L _ (HS.out.later (by repeat (first | (with_reducible exact Later.refl _) | (with_reducible exact Hid.out (by assumption)) | (with_reducible refine Later.alloc ?_ _) | (with_reducible refine Later.setCell ?_ (by simp; omega) _) | (with_reducible refine Later.setCell ?_ (by simp) _) | (with_reducible refine Later.drewN ?_ _) | (with_reducible refine Later.drew ?_) | (with_reducible refine Later.trans ?_ (Hid.out (by assumption)))))) HO.out h24).mono ?_; rintro e w2 ⟨rfl, hb⟩; have H2 := Lib.hid hb; clear hb)
            | (go_at_call 108; refine (s_In _ _ _ _).mono ?_; rintro e w' ⟨rfl, rfl⟩))
          go_ret
          exact ⟨ret_i64 (by rw [HE.out]), (by repeat (first | (with_reducible exact Later.refl _) | (with_reducible exact Hid.out (by assumption)) | (with_reducible refine Later.alloc ?_ _) | (with_reducible refine Later.setCell ?_ (by simp; omega) _) | (with_reducible refine Later.setCell ?_ (by simp) _) | (with_reducible refine Later.drewN ?_ _) | (with_reducible refine Later.drew ?_) | (with_reducible refine Later.trans ?_ (Hid.out (by assumption)))))⟩
        · have HE := NO (by omega)
          have d : (decide (lo ≤ q) && decide (q ≤ hi)) = false := by simpa using hq
          clear NO hq
          go_enter Try.func72, Try.ntmps72
          go_wp2_with (first
            | (go_at_call 84; refine (s_IsLayout a n cap L _ (HS.out.later (by repeat (first | (with_reducible exact Later.refl _) | (with_reducible exact Hid.out (by assumption)) | (with_reducible refine Later.alloc ?_ _) | (with_reducible refine Later.setCell ?_ (by simp; omega) _) | (with_reducible refine Later.setCell ?_ (by simp) _) | (with_reducible refine Later.drewN ?_ _) | (with_reducible refine Later.drew ?_) | (with_reducible refine Later.trans ?_ (Hid.out (by assumption))))))).mono ?_; rintro e w1 ⟨rfl, hb⟩; obtain ⟨H, hcc, hff, hzz⟩ := later_facts hb; clear hb; (try simp at hzz); (try simp only [World.heap_drewN, World.cell?_drewN, World.frozen?_drewN] at hcc hff))
            | (go_at_call 73; refine (s_Total a n cap L _ (HS.out.later (by repeat (first | (with_reducible exact Later.refl _) | (with_reducible exact Hid.out (by assumption)) | (with_reducible refine Later.alloc ?_ _) | (with_reducible refine Later.setCell ?_ (by simp; omega) _) | (with_reducible refine Later.setCell ?_ (by simp) _) | (with_reducible refine Later.drewN ?_ _) | (with_reducible refine Later.drew ?_) | (with_reducible refine Later.trans ?_ (Hid.out (by assumption)))))) HO.out h24).mono ?_; rintro e w2 ⟨rfl, hb⟩; have H2 := Lib.hid hb; clear hb)
            | (go_at_call 108; refine (s_In _ _ _ _).mono ?_; rintro e w' ⟨rfl, rfl⟩))
          go_ret
          exact ⟨ret_i64 (by rw [HE.out]), (by repeat (first | (with_reducible exact Later.refl _) | (with_reducible exact Hid.out (by assumption)) | (with_reducible refine Later.alloc ?_ _) | (with_reducible refine Later.setCell ?_ (by simp; omega) _) | (with_reducible refine Later.setCell ?_ (by simp) _) | (with_reducible refine Later.drewN ?_ _) | (with_reducible refine Later.drew ?_) | (with_reducible refine Later.trans ?_ (Hid.out (by assumption)))))⟩
      · by_cases hq : lo ≤ q ∧ q ≤ totL L
        · have HE : Hid (cdE L p q lo hi = 0) := Lib.hid (by unfold cdE; rw [if_pos hv, if_pos (by omega)])
          obtain ⟨q1, q2⟩ := hq
          clear NO
          go_enter Try.func72, Try.ntmps72
          go_wp2_with (first
            | (go_at_call 84; refine (s_IsLayout a n cap L _ (HS.out.later (by repeat (first | (with_reducible exact Later.refl _) | (with_reducible exact Hid.out (by assumption)) | (with_reducible refine Later.alloc ?_ _) | (with_reducible refine Later.setCell ?_ (by simp; omega) _) | (with_reducible refine Later.setCell ?_ (by simp) _) | (with_reducible refine Later.drewN ?_ _) | (with_reducible refine Later.drew ?_) | (with_reducible refine Later.trans ?_ (Hid.out (by assumption))))))).mono ?_; rintro e w1 ⟨rfl, hb⟩; obtain ⟨H, hcc, hff, hzz⟩ := later_facts hb; clear hb; (try simp at hzz); (try simp only [World.heap_drewN, World.cell?_drewN, World.frozen?_drewN] at hcc hff))
            | (go_at_call 73; refine (s_Total a n cap L _ (HS.out.later (by repeat (first | (with_reducible exact Later.refl _) | (with_reducible exact Hid.out (by assumption)) | (with_reducible refine Later.alloc ?_ _) | (with_reducible refine Later.setCell ?_ (by simp; omega) _) | (with_reducible refine Later.setCell ?_ (by simp) _) | (with_reducible refine Later.drewN ?_ _) | (with_reducible refine Later.drew ?_) | (with_reducible refine Later.trans ?_ (Hid.out (by assumption)))))) HO.out h24).mono ?_; rintro e w2 ⟨rfl, hb⟩; have H2 := Lib.hid hb; clear hb)
            | (go_at_call 108; refine (s_In _ _ _ _).mono ?_; rintro e w' ⟨rfl, rfl⟩))
          go_ret
          exact ⟨ret_i64 (by rw [HE.out]), (by repeat (first | (with_reducible exact Later.refl _) | (with_reducible exact Hid.out (by assumption)) | (with_reducible refine Later.alloc ?_ _) | (with_reducible refine Later.setCell ?_ (by simp; omega) _) | (with_reducible refine Later.setCell ?_ (by simp) _) | (with_reducible refine Later.drewN ?_ _) | (with_reducible refine Later.drew ?_) | (with_reducible refine Later.trans ?_ (Hid.out (by assumption)))))⟩
        · have HE := NO (by omega)
          have d : (decide (lo ≤ q) && decide (q ≤ totL L)) = false := by simpa using hq
          clear NO hq
          go_enter Try.func72, Try.ntmps72
          go_wp2_with (first
            | (go_at_call 84; refine (s_IsLayout a n cap L _ (HS.out.later (by repeat (first | (with_reducible exact Later.refl _) | (with_reducible exact Hid.out (by assumption)) | (with_reducible refine Later.alloc ?_ _) | (with_reducible refine Later.setCell ?_ (by simp; omega) _) | (with_reducible refine Later.setCell ?_ (by simp) _) | (with_reducible refine Later.drewN ?_ _) | (with_reducible refine Later.drew ?_) | (with_reducible refine Later.trans ?_ (Hid.out (by assumption))))))).mono ?_; rintro e w1 ⟨rfl, hb⟩; obtain ⟨H, hcc, hff, hzz⟩ := later_facts hb; clear hb; (try simp at hzz); (try simp only [World.heap_drewN, World.cell?_drewN, World.frozen?_drewN] at hcc hff))
            | (go_at_call 73; refine (s_Total a n cap L _ (HS.out.later (by repeat (first | (with_reducible exact Later.refl _) | (with_reducible exact Hid.out (by assumption)) | (with_reducible refine Later.alloc ?_ _) | (with_reducible refine Later.setCell ?_ (by simp; omega) _) | (with_reducible refine Later.setCell ?_ (by simp) _) | (with_reducible refine Later.drewN ?_ _) | (with_reducible refine Later.drew ?_) | (with_reducible refine Later.trans ?_ (Hid.out (by assumption)))))) HO.out h24).mono ?_; rintro e w2 ⟨rfl, hb⟩; have H2 := Lib.hid hb; clear hb)
            | (go_at_call 108; refine (s_In _ _ _ _).mono ?_; rintro e w' ⟨rfl, rfl⟩))
          go_ret
          exact ⟨ret_i64 (by rw [HE.out]), (by repeat (first | (with_reducible exact Later.refl _) | (with_reducible exact Hid.out (by assumption)) | (with_reducible refine Later.alloc ?_ _) | (with_reducible refine Later.setCell ?_ (by simp; omega) _) | (with_reducible refine Later.setCell ?_ (by simp) _) | (with_reducible refine Later.drewN ?_ _) | (with_reducible refine Later.drew ?_) | (with_reducible refine Later.trans ?_ (Hid.out (by assumption)))))⟩
    · have HE := NO (by omega)
      have d : (decide (0 ≤ p) && decide (p ≤ totL L - 1)) = false := by simpa using hin
      clear NO hin
      go_enter Try.func72, Try.ntmps72
      go_wp2_with (first
        | (go_at_call 84; refine (s_IsLayout a n cap L _ (HS.out.later (by repeat (first | (with_reducible exact Later.refl _) | (with_reducible exact Hid.out (by assumption)) | (with_reducible refine Later.alloc ?_ _) | (with_reducible refine Later.setCell ?_ (by simp; omega) _) | (with_reducible refine Later.setCell ?_ (by simp) _) | (with_reducible refine Later.drewN ?_ _) | (with_reducible refine Later.drew ?_) | (with_reducible refine Later.trans ?_ (Hid.out (by assumption))))))).mono ?_; rintro e w1 ⟨rfl, hb⟩; obtain ⟨H, hcc, hff, hzz⟩ := later_facts hb; clear hb; (try simp at hzz); (try simp only [World.heap_drewN, World.cell?_drewN, World.frozen?_drewN] at hcc hff))
        | (go_at_call 73; refine (s_Total a n cap L _ (HS.out.later (by repeat (first | (with_reducible exact Later.refl _) | (with_reducible exact Hid.out (by assumption)) | (with_reducible refine Later.alloc ?_ _) | (with_reducible refine Later.setCell ?_ (by simp; omega) _) | (with_reducible refine Later.setCell ?_ (by simp) _) | (with_reducible refine Later.drewN ?_ _) | (with_reducible refine Later.drew ?_) | (with_reducible refine Later.trans ?_ (Hid.out (by assumption)))))) HO.out h24).mono ?_; rintro e w2 ⟨rfl, hb⟩; have H2 := Lib.hid hb; clear hb)
        | (go_at_call 108; refine (s_In _ _ _ _).mono ?_; rintro e w' ⟨rfl, rfl⟩))
      go_ret
      exact ⟨ret_i64 (by rw [HE.out]), (by repeat (first | (with_reducible exact Later.refl _) | (with_reducible exact Hid.out (by assumption)) | (with_reducible refine Later.alloc ?_ _) | (with_reducible refine Later.setCell ?_ (by simp; omega) _) | (with_reducible refine Later.setCell ?_ (by simp) _) | (with_reducible refine Later.drewN ?_ _) | (with_reducible refine Later.drew ?_) | (with_reducible refine Later.trans ?_ (Hid.out (by assumption)))))⟩
theorem cd_tr (L : List Sg) (p n : Int) : cdE L p n 1 40000 = trE L p n := by
  unfold cdE trE
  rw [trsB_one]
  by_cases hv : layB L = true
  · rw [if_pos hv, if_pos hv]
    by_cases h : (0 ≤ p ∧ p < totL L) ∧ 1 ≤ n ∧ n ≤ 40000 ∧ n ≤ totL L
    · rw [if_pos h, if_pos (by rw [Bool.and_eq_true, isN_iff, isP_iff]; omega)]
    · rw [if_neg h, if_neg (by rw [Bool.and_eq_true, isN_iff, isP_iff]; omega)]
  · rw [if_neg hv, if_neg hv]
theorem cd_mv (L : List Sg) (p n : Int) : cdE L p n 0 1000000000000 = mvE L p n := by
  unfold cdE mvE
  by_cases hv : layB L = true
  · have := tot_bd hv
    rw [if_pos hv, if_pos hv]
    by_cases h : (0 ≤ p ∧ p < totL L) ∧ 0 ≤ n ∧ n ≤ 1000000000000 ∧ n ≤ totL L
    · rw [if_pos h, if_pos (by rw [mvB_iff]; omega)]
    · rw [if_neg h, if_neg (by rw [mvB_iff]; omega)]
  · rw [if_neg hv, if_neg hv]
theorem s_l05Train (a : Option Addr) (n cap : Nat) (L : List Sg) (p q : Int) (w : World) (hs : Sgs w a n L) :
    Calls Try.prog 77 #[.agg #[.slice a n cap], .int .i64 p, .int .i64 q] w fun e w' => e = .returned (.int .i64 (trE L p q)) ∧ Later w w' := by
  have HS := Lib.hid hs
  have HC := Lib.hid (cd_tr L p q)
  clear hs
  go_enter Try.func77, Try.ntmps77
  go_wp2_with (go_at_call 72; refine (s_l05Code a n cap L p q 1 40000 _ (HS.out.later (by repeat (first | (with_reducible exact Later.refl _) | (with_reducible exact Hid.out (by assumption)) | (with_reducible refine Later.alloc ?_ _) | (with_reducible refine Later.setCell ?_ (by simp; omega) _) | (with_reducible refine Later.setCell ?_ (by simp) _) | (with_reducible refine Later.drewN ?_ _) | (with_reducible refine Later.drew ?_) | (with_reducible refine Later.trans ?_ (Hid.out (by assumption))))))).mono ?_; rw [HC.out]; rintro e w1 ⟨rfl, hb⟩; have H1 := Lib.hid hb; clear hb)
  go_ret
  exact ⟨rfl, (by repeat (first | (with_reducible exact Later.refl _) | (with_reducible exact Hid.out (by assumption)) | (with_reducible refine Later.alloc ?_ _) | (with_reducible refine Later.setCell ?_ (by simp; omega) _) | (with_reducible refine Later.setCell ?_ (by simp) _) | (with_reducible refine Later.drewN ?_ _) | (with_reducible refine Later.drew ?_) | (with_reducible refine Later.trans ?_ (Hid.out (by assumption)))))⟩
theorem s_RearOf (a : Option Addr) (n cap : Nat) (L : List Sg) (p q : Int) (w : World) (hs : Sgs w a n L) :
    Calls Try.prog 23 #[.agg #[.slice a n cap], .int .i64 p, .int .i64 q] w fun e w' => e = .returned (.tuple #[.int .i64 (rearV L p q), .int .i64 (trE L p q)]) ∧ Later w w' := by
  have HS := Lib.hid hs
  have HL := Lib.hid hs.1
  clear hs
  by_cases he : trE L p q = 0
  · obtain ⟨hv, hn, hp⟩ := trE_ok he
    have HT : Hid (rearV L p q = (p - q + 1) % totL L) := Lib.hid (by unfold rearV; rw [if_pos he]; rfl)
    have HE := Lib.hid he
    have HO := Lib.hid ((layB_iff L).1 hv).2.2.1
    have h24 := ((layB_iff L).1 hv).2.1
    rw [HL.out] at h24
    obtain ⟨t1, t2⟩ := tot_bd hv
    rw [isN_iff] at hn
    rw [isP_iff] at hp
    obtain ⟨q1, q2, q3⟩ := hn
    obtain ⟨p1, p2⟩ := hp
    clear he hv
    go_enter Try.func23, Try.ntmps23
    go_wp2_with (first
      | (go_at_call 77; refine (s_l05Train a n cap L p q _ (HS.out.later (by repeat (first | (with_reducible exact Later.refl _) | (with_reducible exact Hid.out (by assumption)) | (with_reducible refine Later.alloc ?_ _) | (with_reducible refine Later.setCell ?_ (by simp; omega) _) | (with_reducible refine Later.setCell ?_ (by simp) _) | (with_reducible refine Later.drewN ?_ _) | (with_reducible refine Later.drew ?_) | (with_reducible refine Later.trans ?_ (Hid.out (by assumption))))))).mono ?_; rw [HE.out]; rintro e w1 ⟨rfl, hb⟩; obtain ⟨H, hcc, hff, hzz⟩ := later_facts hb; clear hb; (try simp at hzz))
      | (go_at_call 73; refine (s_Total a n cap L _ (HS.out.later (by repeat (first | (with_reducible exact Later.refl _) | (with_reducible exact Hid.out (by assumption)) | (with_reducible refine Later.alloc ?_ _) | (with_reducible refine Later.setCell ?_ (by simp; omega) _) | (with_reducible refine Later.setCell ?_ (by simp) _) | (with_reducible refine Later.drewN ?_ _) | (with_reducible refine Later.drew ?_) | (with_reducible refine Later.trans ?_ (Hid.out (by assumption)))))) HO.out h24).mono ?_; rintro e w2 ⟨rfl, hb⟩; have H2 := Lib.hid hb; clear hb)
      | (go_at_call 78; refine (s_l05Mod (p - q + 1) (totL L) _ (by omega) (by omega) (by omega) (by omega)).mono ?_; rintro e w' ⟨rfl, rfl⟩))
    go_ret2
    exact ⟨ret_2i (by rw [HT.out]) (by rw [HE.out]), (by repeat (first | (with_reducible exact Later.refl _) | (with_reducible exact Hid.out (by assumption)) | (with_reducible refine Later.alloc ?_ _) | (with_reducible refine Later.setCell ?_ (by simp; omega) _) | (with_reducible refine Later.setCell ?_ (by simp) _) | (with_reducible refine Later.drewN ?_ _) | (with_reducible refine Later.drew ?_) | (with_reducible refine Later.trans ?_ (Hid.out (by assumption)))))⟩
  · have HT : Hid (rearV L p q = 0) := Lib.hid (by unfold rearV; rw [if_neg he])
    have he0 : (trE L p q != 0) = true := by simpa using he
    clear he
    go_enter Try.func23, Try.ntmps23
    go_wp2_with (go_at_call 77; refine (s_l05Train a n cap L p q _ (HS.out.later (by repeat (first | (with_reducible exact Later.refl _) | (with_reducible exact Hid.out (by assumption)) | (with_reducible refine Later.alloc ?_ _) | (with_reducible refine Later.setCell ?_ (by simp; omega) _) | (with_reducible refine Later.setCell ?_ (by simp) _) | (with_reducible refine Later.drewN ?_ _) | (with_reducible refine Later.drew ?_) | (with_reducible refine Later.trans ?_ (Hid.out (by assumption))))))).mono ?_; rintro e w1 ⟨rfl, hb⟩; have H1 := Lib.hid hb; clear hb)
    go_ret2
    exact ⟨ret_2i (by rw [HT.out]) rfl, (by repeat (first | (with_reducible exact Later.refl _) | (with_reducible exact Hid.out (by assumption)) | (with_reducible refine Later.alloc ?_ _) | (with_reducible refine Later.setCell ?_ (by simp; omega) _) | (with_reducible refine Later.setCell ?_ (by simp) _) | (with_reducible refine Later.drewN ?_ _) | (with_reducible refine Later.drew ?_) | (with_reducible refine Later.trans ?_ (Hid.out (by assumption)))))⟩
theorem s_MoveFront (a : Option Addr) (n cap : Nat) (L : List Sg) (p q : Int) (w : World) (hs : Sgs w a n L) :
    Calls Try.prog 20 #[.agg #[.slice a n cap], .int .i64 p, .int .i64 q] w fun e w' => e = .returned (.tuple #[.int .i64 (movV L p q), .int .i64 (mvE L p q)]) ∧ Later w w' := by
  have HS := Lib.hid hs
  have HL := Lib.hid hs.1
  have HC := Lib.hid (cd_mv L p q)
  clear hs
  by_cases he : mvE L p q = 0
  · obtain ⟨hv, hm⟩ := mvE_ok he
    have HE := Lib.hid he
    have HO := Lib.hid ((layB_iff L).1 hv).2.2.1
    have h24 := ((layB_iff L).1 hv).2.1
    rw [HL.out] at h24
    obtain ⟨t1, t2⟩ := tot_bd hv
    rw [mvB_iff] at hm
    obtain ⟨⟨p1, p2⟩, q1, q2⟩ := hm
    have HT : Hid (movV L p q = (p + q) % totL L ∧ (p + q).tmod (totL L) = (p + q) % totL L) := Lib.hid ⟨by unfold movV; rw [if_pos he], Int.tmod_eq_emod_of_nonneg (by omega)⟩
    have f := tmod_facts (p + q) (totL L) (by omega)
    have f0 := f.2.1 (by omega)
    have f1 := (f.2.2.2.1 (by omega)).1
    clear he hv f
    go_enter Try.func20, Try.ntmps20
    go_wp2_with (first
      | (go_at_call 72; refine (s_l05Code a n cap L p q 0 1000000000000 _ (HS.out.later (by repeat (first | (with_reducible exact Later.refl _) | (with_reducible exact Hid.out (by assumption)) | (with_reducible refine Later.alloc ?_ _) | (with_reducible refine Later.setCell ?_ (by simp; omega) _) | (with_reducible refine Later.setCell ?_ (by simp) _) | (with_reducible refine Later.drewN ?_ _) | (with_reducible refine Later.drew ?_) | (with_reducible refine Later.trans ?_ (Hid.out (by assumption))))))).mono ?_; rw [HC.out, HE.out]; rintro e w1 ⟨rfl, hb⟩; obtain ⟨H, hcc, hff, hzz⟩ := later_facts hb; clear hb; (try simp at hzz))
      | (go_at_call 73; refine (s_Total a n cap L _ (HS.out.later (by repeat (first | (with_reducible exact Later.refl _) | (with_reducible exact Hid.out (by assumption)) | (with_reducible refine Later.alloc ?_ _) | (with_reducible refine Later.setCell ?_ (by simp; omega) _) | (with_reducible refine Later.setCell ?_ (by simp) _) | (with_reducible refine Later.drewN ?_ _) | (with_reducible refine Later.drew ?_) | (with_reducible refine Later.trans ?_ (Hid.out (by assumption)))))) HO.out h24).mono ?_; rintro e w2 ⟨rfl, hb⟩; have H2 := Lib.hid hb; clear hb))
    go_ret2
    exact ⟨ret_2i (by rw [HT.out.1]) (by rw [HE.out]), (by repeat (first | (with_reducible exact Later.refl _) | (with_reducible exact Hid.out (by assumption)) | (with_reducible refine Later.alloc ?_ _) | (with_reducible refine Later.setCell ?_ (by simp; omega) _) | (with_reducible refine Later.setCell ?_ (by simp) _) | (with_reducible refine Later.drewN ?_ _) | (with_reducible refine Later.drew ?_) | (with_reducible refine Later.trans ?_ (Hid.out (by assumption)))))⟩
  · have HT : Hid (movV L p q = 0) := Lib.hid (by unfold movV; rw [if_neg he])
    have he0 : (mvE L p q != 0) = true := by simpa using he
    clear he
    go_enter Try.func20, Try.ntmps20
    go_wp2_with (go_at_call 72; refine (s_l05Code a n cap L p q 0 1000000000000 _ (HS.out.later (by repeat (first | (with_reducible exact Later.refl _) | (with_reducible exact Hid.out (by assumption)) | (with_reducible refine Later.alloc ?_ _) | (with_reducible refine Later.setCell ?_ (by simp; omega) _) | (with_reducible refine Later.setCell ?_ (by simp) _) | (with_reducible refine Later.drewN ?_ _) | (with_reducible refine Later.drew ?_) | (with_reducible refine Later.trans ?_ (Hid.out (by assumption))))))).mono ?_; rw [HC.out]; rintro e w1 ⟨rfl, hb⟩; have H1 := Lib.hid hb; clear hb)
    go_ret2
    exact ⟨ret_2i (by rw [HT.out]) rfl, (by repeat (first | (with_reducible exact Later.refl _) | (with_reducible exact Hid.out (by assumption)) | (with_reducible refine Later.alloc ?_ _) | (with_reducible refine Later.setCell ?_ (by simp; omega) _) | (with_reducible refine Later.setCell ?_ (by simp) _) | (with_reducible refine Later.drewN ?_ _) | (with_reducible refine Later.drew ?_) | (with_reducible refine Later.trans ?_ (Hid.out (by assumption)))))⟩
theorem s_l05Apart (T x y q : Int) (w : World) (hT : 0 < T) (hT2 : T ≤ 4800000) (hx : 0 ≤ x) (hx2 : x < T) (hy : 0 ≤ y) (hy2 : y < T) :
    Calls Try.prog 82 #[.int .i64 T, .int .i64 x, .int .i64 y, .int .i64 q] w fun e w' => e = .returned (.bool (apB T x y q)) ∧ w = w' := by
  obtain ⟨r1, r2⟩ : 0 ≤ ahead T x y ∧ ahead T x y < T := mod_rng _ T hT
  have HA : Hid (apB T x y q = (decide (q ≤ ahead T x y) && decide (q ≤ T - ahead T x y))) := Lib.hid rfl
  have HR : Hid ((y - x) % T = ahead T x y) := Lib.hid rfl
  generalize hr : ahead T x y = r at r1 r2 HA HR
  clear hr
  by_cases h1 : q ≤ r
  · by_cases h2 : q ≤ T - r
    · go_enter Try.func82, Try.ntmps82
      go_wp2_with (go_at_call 78; refine (s_l05Mod (y - x) T _ hT (by omega) (by omega) (by omega)).mono ?_; rw [HR.out]; rintro e w' ⟨rfl, rfl⟩)
      go_ret
      exact ⟨ret_b (by rw [HA.out]; simp [h1, h2]), rfl⟩
    · go_enter Try.func82, Try.ntmps82
      go_wp2_with (go_at_call 78; refine (s_l05Mod (y - x) T _ hT (by omega) (by omega) (by omega)).mono ?_; rw [HR.out]; rintro e w' ⟨rfl, rfl⟩)
      go_ret
      exact ⟨ret_b (by rw [HA.out]; simp [h1, h2]), rfl⟩
  · go_enter Try.func82, Try.ntmps82
    go_wp2_with (go_at_call 78; refine (s_l05Mod (y - x) T _ hT (by omega) (by omega) (by omega)).mono ?_; rw [HR.out]; rintro e w' ⟨rfl, rfl⟩)
    go_ret
    exact ⟨ret_b (by rw [HA.out]; simp; omega), rfl⟩
theorem s_l05Covers (T p n x : Int) (w : World) (hT : 0 < T) (hT2 : T ≤ 4800000) (hp : 0 ≤ p) (hp2 : p < T) (hx : 0 ≤ x) (hx2 : x < T) :
    Calls Try.prog 103 #[.int .i64 T, .int .i64 p, .int .i64 n, .int .i64 x] w fun e w' => e = .returned (.bool (decide ((p - x) % T < n))) ∧ w = w' := by
  go_enter Try.func103, Try.ntmps103
  go_wp2_with (go_at_call 78; refine (s_l05Mod (p - x) T _ hT (by omega) (by omega) (by omega)).mono ?_; rintro e w' ⟨rfl, rfl⟩)
  go_ret
  exact ⟨ret_b (by first | rfl | (simp; done)), rfl⟩
end Go.Proofs.Ytehinlecppbjeaa
