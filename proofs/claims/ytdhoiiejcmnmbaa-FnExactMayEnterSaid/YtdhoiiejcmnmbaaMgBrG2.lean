/- Contracts of chapter 7: entry bounds, may a train enter, of the model. | Slices of int64 compared, as the exact laws do. | Copies of slices of int64 and their comparison, as the exact laws make them. | Copies of slices of segments, as the exact laws make them. | Small facts of the exact laws on layouts. | Small tools of the walks of exact laws (gen/gen_exact.py). | Marks that the exact laws write into lists of int64, and find again. | Copies of slices of int64 that may be written; marks from any number on. | Contracts of chapter 2: the model's functions. | The walks of the exact laws of chapter 2. | The walks of the exact laws of chapter 7 on entries into blocks. | Contracts of chapter 7: where a train that may enter a block stops, of the program. | Contracts of chapter 7: the bound of a stop, of the program. | Contracts of chapter 7: the bound of a stop, of the model. | The walk of the exact law of chapter 7 on the bound of a stop. -/
import Derived.Test.YtdhoiiejcmnmbaaMgBrG1
import Derived.Test.YtdhoiiejcmnmbaaSl
import Derived.Test.YtdhoiiejcmnmbaaSgK
import Derived.OwnWalk
import Derived.Laws.OwnMore
import Derived.Test.YtdhoiiejcmnmbaaOwn
import Derived.Test.YtdhoiiejcmnmbaaHeld
import Derived.Test.YtdhoiiejcmnmbaaIv3
import Derived.RegionTactic
import Derived.ChangeAlike
import Derived.BigQuiet
import Derived.Deep.QuietTactic
import Derived.Test.YtdhoiiejcmnmbaaIvL
import Derived.Test.YtdhoiiejcmnmbaaMarkS
import Derived.Test.YtdhoiiejcmnmbaaEnA
import Derived.Deep.RegionHeld3
import Derived.Deep.RegionWith
namespace Go.Proofs.Ytdhoiiejcmnmbaa
open Go.RowKit
set_option maxHeartbeats 4000000
set_option linter.unusedVariables false
set_option linter.unusedSimpArgs false
theorem en_le {L : List Sg} {F : List Int} {b n : Nat} (hv : layB L = true) (hk : bkC L F = true) (hb : b < F.length) : okK L F b = decide (enLo L F b ≤ enHi L F b) := by
  have h := lo_hi_bd (n := n) hv hk hb
  unfold okK enLo enHi
  cases slowB L F b <;> simp
theorem en_in {L : List Sg} {F : List Int} {b n : Nat} {x y : Int} (hv : layB L = true) (hk : bkC L F = true) (hb : b < F.length) (he : enB x y = true) :
    (okK L F b && (decide (loK L F b ≤ x) && decide (y ≤ hiK L F b))) = (decide (enLo L F b ≤ x) && decide (y ≤ enHi L F b)) := by
  have h := lo_hi_bd (n := n) hv hk hb
  have h2 := (enB_iff x y).1 he
  unfold okK enLo enHi
  cases slowB L F b
  · simp; omega
  · simp; omega
set_option maxRecDepth 100000 in
theorem s_EntryBounds (a : Option Addr) (n cap : Nat) (L : List Sg) (A : Option Addr) (m capF : Nat) (F : List Int) (p : Int) (w : World) (hs : Sgs w a n L) (hf : Sl w A m F) (hp : -9223372036854775808 ≤ p) (hp2 : p ≤ 9223372036854775807) :
    Calls Try.prog 50 #[.agg #[.slice a n cap], .slice A m capF, .int .i64 p] w fun e w' => e = .returned (.tuple #[.agg #[.int .i64 (ebL L F p), .int .i64 (ebH L F p)], .int .i64 (ebE L F p)]) ∧ Later w w' := by
  have HC := fun w h1 h2 => s_l04Block a n cap L A m capF F p w h1 h2 hp hp2
  have HS := Lib.hid hs; have HF := Lib.hid hf
  by_cases h0 : fndE L F (isNo p) = 0
  · obtain ⟨b, rfl, hb, hv, hk, hsec⟩ := isNo_cases h0
    have HE := fun w (h : Sgs w a n L) (h2 : Sl w A m F) => s_Entry a n cap L A m capF F b w h h2 hv hk (by rw [← hf.1]; exact hb)
    rw [h0] at HC
    have e1 : ebE L F b = kE L F b := ebE_ok h0
    have e2 : ebL L F b = okV (kE L F b) (loK L F b) := by unfold ebL; rw [e1]; rfl
    have e3 : ebH L F b = okV (kE L F b) (hiK L F b) := by unfold ebH; rw [e1]; rfl
    have hle := en_le (n := n) hv hk hb
    rw [e1, e2, e3]
    cases ho : okK L F b
    · have ek : kE L F b = 5 := by unfold kE; rw [ho]; rfl
      rw [ek]
      rw [ho] at hle
      have hgt : enHi L F b < enLo L F b := by
        have : ¬ enLo L F b ≤ enHi L F b := by simpa using hle.symm
        omega
      generalize enLo L F b = lo at *
      generalize enHi L F b = hi at *
      clear hs hf h0 hsec e1 e2 e3 hv hk hb hp hp2 hle ek ho
      go_enter Try.func50, Try.ntmps50
      go_wp2_with (first
          | (go_at_call 95; refine (HC _ (HS.out.later (by repeat (first | (with_reducible exact Later.refl _) | (with_reducible exact Hid.out (by assumption)) | (with_reducible refine Later.alloc ?_ _) | (with_reducible refine Later.setCell ?_ (by simp; omega) _) | (with_reducible refine Later.setCell ?_ (by simp) _) | (with_reducible refine Later.drewN ?_ _) | (with_reducible refine Later.drew ?_) | (with_reducible refine Later.trans ?_ (Hid.out (by assumption)))))) (HF.out.later (by repeat (first | (with_reducible exact Later.refl _) | (with_reducible exact Hid.out (by assumption)) | (with_reducible refine Later.alloc ?_ _) | (with_reducible refine Later.setCell ?_ (by simp; omega) _) | (with_reducible refine Later.setCell ?_ (by simp) _) | (with_reducible refine Later.drewN ?_ _) | (with_reducible refine Later.drew ?_) | (with_reducible refine Later.trans ?_ (Hid.out (by assumption))))))).mono ?_; rintro e w1 ⟨rfl, hb⟩; obtain ⟨H, hcc, hff, hzz⟩ := later_facts hb; clear hb; (try simp at hzz); have hz0 : w.heap.size < w1.heap.size := (by omega); have hz1 : w.heap.size + 1 < w1.heap.size := (by omega))
          | (go_at_call 96; refine (HE _ (HS.out.later (by repeat (first | (with_reducible exact Later.refl _) | (with_reducible exact Hid.out (by assumption)) | (with_reducible refine Later.alloc ?_ _) | (with_reducible refine Later.setCell ?_ (by simp; omega) _) | (with_reducible refine Later.setCell ?_ (by simp) _) | (with_reducible refine Later.drewN ?_ _) | (with_reducible refine Later.drew ?_) | (with_reducible refine Later.trans ?_ (Hid.out (by assumption)))))) (HF.out.later (by repeat (first | (with_reducible exact Later.refl _) | (with_reducible exact Hid.out (by assumption)) | (with_reducible refine Later.alloc ?_ _) | (with_reducible refine Later.setCell ?_ (by simp; omega) _) | (with_reducible refine Later.setCell ?_ (by simp) _) | (with_reducible refine Later.drewN ?_ _) | (with_reducible refine Later.drew ?_) | (with_reducible refine Later.trans ?_ (Hid.out (by assumption))))))).mono ?_; rintro e w2 ⟨rfl, hb⟩; obtain ⟨H, hcc, hff, hzz⟩ := later_facts hb; clear hb; (try simp at hzz); have hz0 : w.heap.size < w2.heap.size := (by omega); have hz1 : w.heap.size + 1 < w2.heap.size := (by omega)))
      refine bodyPost_ret (v := .tuple #[.agg #[.int .i64 0, .int .i64 0], .int .i64 5]) (by simp [results, Try.results50, go_sem, *]) rfl ⟨rfl, (by repeat (first | (with_reducible exact Later.refl _) | (with_reducible exact Hid.out (by assumption)) | (with_reducible refine Later.alloc ?_ _) | (with_reducible refine Later.setCell ?_ (by simp; omega) _) | (with_reducible refine Later.setCell ?_ (by simp) _) | (with_reducible refine Later.drewN ?_ _) | (with_reducible refine Later.drew ?_) | (with_reducible refine Later.trans ?_ (Hid.out (by assumption)))))⟩
    · have ek : kE L F b = 0 := by unfold kE; rw [ho]; rfl
      have hsl : slowB L F b = true := by unfold okK at ho; simp at ho; exact ho.1
      have q1 : enLo L F b = loK L F b := by unfold enLo; rw [if_pos hsl]
      have q2 : enHi L F b = hiK L F b := by unfold enHi; rw [if_pos hsl]
      have q3 : okV 0 (loK L F b) = loK L F b := rfl
      have q4 : okV 0 (hiK L F b) = hiK L F b := rfl
      rw [ek, q3, q4]
      rw [ho, q1, q2] at hle
      rw [q1, q2] at HE
      have hngt : ¬ hiK L F b < loK L F b := by
        have : loK L F b ≤ hiK L F b := by simpa using hle.symm
        omega
      generalize loK L F b = lo at *
      generalize hiK L F b = hi at *
      clear hs hf h0 hsec e1 e2 e3 hv hk hb hp hp2 hle ek ho q1 q2 q3 q4 hsl
      go_enter Try.func50, Try.ntmps50
      go_wp2_with (first
          | (go_at_call 95; refine (HC _ (HS.out.later (by repeat (first | (with_reducible exact Later.refl _) | (with_reducible exact Hid.out (by assumption)) | (with_reducible refine Later.alloc ?_ _) | (with_reducible refine Later.setCell ?_ (by simp; omega) _) | (with_reducible refine Later.setCell ?_ (by simp) _) | (with_reducible refine Later.drewN ?_ _) | (with_reducible refine Later.drew ?_) | (with_reducible refine Later.trans ?_ (Hid.out (by assumption)))))) (HF.out.later (by repeat (first | (with_reducible exact Later.refl _) | (with_reducible exact Hid.out (by assumption)) | (with_reducible refine Later.alloc ?_ _) | (with_reducible refine Later.setCell ?_ (by simp; omega) _) | (with_reducible refine Later.setCell ?_ (by simp) _) | (with_reducible refine Later.drewN ?_ _) | (with_reducible refine Later.drew ?_) | (with_reducible refine Later.trans ?_ (Hid.out (by assumption))))))).mono ?_; rintro e w1 ⟨rfl, hb⟩; obtain ⟨H, hcc, hff, hzz⟩ := later_facts hb; clear hb; (try simp at hzz); have hz0 : w.heap.size < w1.heap.size := (by omega); have hz1 : w.heap.size + 1 < w1.heap.size := (by omega))
          | (go_at_call 96; refine (HE _ (HS.out.later (by repeat (first | (with_reducible exact Later.refl _) | (with_reducible exact Hid.out (by assumption)) | (with_reducible refine Later.alloc ?_ _) | (with_reducible refine Later.setCell ?_ (by simp; omega) _) | (with_reducible refine Later.setCell ?_ (by simp) _) | (with_reducible refine Later.drewN ?_ _) | (with_reducible refine Later.drew ?_) | (with_reducible refine Later.trans ?_ (Hid.out (by assumption)))))) (HF.out.later (by repeat (first | (with_reducible exact Later.refl _) | (with_reducible exact Hid.out (by assumption)) | (with_reducible refine Later.alloc ?_ _) | (with_reducible refine Later.setCell ?_ (by simp; omega) _) | (with_reducible refine Later.setCell ?_ (by simp) _) | (with_reducible refine Later.drewN ?_ _) | (with_reducible refine Later.drew ?_) | (with_reducible refine Later.trans ?_ (Hid.out (by assumption))))))).mono ?_; rintro e w2 ⟨rfl, hb⟩; obtain ⟨H, hcc, hff, hzz⟩ := later_facts hb; clear hb; (try simp at hzz); have hz0 : w.heap.size < w2.heap.size := (by omega); have hz1 : w.heap.size + 1 < w2.heap.size := (by omega)))
      refine bodyPost_ret (v := .tuple #[.agg #[.int .i64 lo, .int .i64 hi], .int .i64 0]) (by simp [results, Try.results50, go_sem, *]) rfl ⟨rfl, (by repeat (first | (with_reducible exact Later.refl _) | (with_reducible exact Hid.out (by assumption)) | (with_reducible refine Later.alloc ?_ _) | (with_reducible refine Later.setCell ?_ (by simp; omega) _) | (with_reducible refine Later.setCell ?_ (by simp) _) | (with_reducible refine Later.drewN ?_ _) | (with_reducible refine Later.drew ?_) | (with_reducible refine Later.trans ?_ (Hid.out (by assumption)))))⟩
  · have e1 : ebE L F p = fndE L F (isNo p) := by unfold ebE; rw [if_neg h0]
    have e2 : ebL L F p = 0 := by unfold ebL okV; rw [e1, if_neg h0]
    have e3 : ebH L F p = 0 := by unfold ebH okV; rw [e1, if_neg h0]
    rw [e1, e2, e3]
    generalize fndE L F (isNo p) = ce at *
    have hne : (ce != 0) = true := by simpa using h0
    clear hs hf h0 e1 e2 e3 hp hp2
    go_enter Try.func50, Try.ntmps50
    go_wp2_with (first
          | (go_at_call 95; refine (HC _ (HS.out.later (by repeat (first | (with_reducible exact Later.refl _) | (with_reducible exact Hid.out (by assumption)) | (with_reducible refine Later.alloc ?_ _) | (with_reducible refine Later.setCell ?_ (by simp; omega) _) | (with_reducible refine Later.setCell ?_ (by simp) _) | (with_reducible refine Later.drewN ?_ _) | (with_reducible refine Later.drew ?_) | (with_reducible refine Later.trans ?_ (Hid.out (by assumption)))))) (HF.out.later (by repeat (first | (with_reducible exact Later.refl _) | (with_reducible exact Hid.out (by assumption)) | (with_reducible refine Later.alloc ?_ _) | (with_reducible refine Later.setCell ?_ (by simp; omega) _) | (with_reducible refine Later.setCell ?_ (by simp) _) | (with_reducible refine Later.drewN ?_ _) | (with_reducible refine Later.drew ?_) | (with_reducible refine Later.trans ?_ (Hid.out (by assumption))))))).mono ?_; rintro e w1 ⟨rfl, hb⟩; obtain ⟨H, hcc, hff, hzz⟩ := later_facts hb; clear hb; (try simp at hzz); have hz0 : w.heap.size < w1.heap.size := (by omega); have hz1 : w.heap.size + 1 < w1.heap.size := (by omega)))
    refine bodyPost_ret (v := .tuple #[.agg #[.int .i64 0, .int .i64 0], .int .i64 ce]) (by simp [results, Try.results50, go_sem, *]) rfl ⟨rfl, (by repeat (first | (with_reducible exact Later.refl _) | (with_reducible exact Hid.out (by assumption)) | (with_reducible refine Later.alloc ?_ _) | (with_reducible refine Later.setCell ?_ (by simp; omega) _) | (with_reducible refine Later.setCell ?_ (by simp) _) | (with_reducible refine Later.drewN ?_ _) | (with_reducible refine Later.drew ?_) | (with_reducible refine Later.trans ?_ (Hid.out (by assumption)))))⟩
theorem fndE_bk {L : List Sg} {F : List Int} {q : Sc → Bool} (h : bkB L F = false) : fndE L F q = 1 := (fndC_bad h).2
set_option maxRecDepth 100000 in
theorem s_MayEnter (a : Option Addr) (n cap : Nat) (L : List Sg) (A : Option Addr) (m capF : Nat) (F : List Int) (p x y : Int) (w : World) (hs : Sgs w a n L) (hf : Sl w A m F) (hp : -9223372036854775808 ≤ p) (hp2 : p ≤ 9223372036854775807) :
    Calls Try.prog 53 #[.agg #[.slice a n cap], .slice A m capF, .int .i64 p, .agg #[.int .i64 x, .int .i64 y]] w fun e w' => e = .returned (.tuple #[.bool (meB L F p x y), .int .i64 (meE L F p x y)]) ∧ Later w w' := by
  have HC := fun w h1 h2 => s_l04Block a n cap L A m capF F p w h1 h2 hp hp2
  have HA := fun w h1 h2 => s_AreBlocks a n cap L A m capF F w h1 h2
  have HS := Lib.hid hs; have HF := Lib.hid hf
  cases hb : bkB L F
  · have e1 : Hid (meE L F p x y = 1) := Lib.hid (by unfold meE; rw [fndE_bk hb]; cases enB x y <;> rfl)
    have e2 : Hid (meB L F p x y = false) := Lib.hid (by unfold meB; rw [e1.out]; rfl)
    rw [hb] at HA
    clear hs hf hp hp2
    go_enter Try.func53, Try.ntmps53
    go_wp2_with (go_at_call 98; refine (HA _ (HS.out.later (by repeat (first | (with_reducible exact Later.refl _) | (with_reducible exact Hid.out (by assumption)) | (with_reducible refine Later.alloc ?_ _) | (with_reducible refine Later.setCell ?_ (by simp; omega) _) | (with_reducible refine Later.setCell ?_ (by simp) _) | (with_reducible refine Later.drewN ?_ _) | (with_reducible refine Later.drew ?_) | (with_reducible refine Later.trans ?_ (Hid.out (by assumption)))))) (HF.out.later (by repeat (first | (with_reducible exact Later.refl _) | (with_reducible exact Hid.out (by assumption)) | (with_reducible refine Later.alloc ?_ _) | (with_reducible refine Later.setCell ?_ (by simp; omega) _) | (with_reducible refine Later.setCell ?_ (by simp) _) | (with_reducible refine Later.drewN ?_ _) | (with_reducible refine Later.drew ?_) | (with_reducible refine Later.trans ?_ (Hid.out (by assumption))))))).mono ?_; rintro e w1 ⟨rfl, hb⟩; obtain ⟨H, hcc, hff, hzz⟩ := later_facts hb; clear hb; (try simp at hzz); have hz0 : w.heap.size < w1.heap.size := (by omega); have hz1 : w.heap.size + 1 < w1.heap.size := (by omega))
    go_ret2
    exact ⟨ret_bi (by rw [e2.out]) (by rw [e1.out]), (by repeat (first | (with_reducible exact Later.refl _) | (with_reducible exact Hid.out (by assumption)) | (with_reducible refine Later.alloc ?_ _) | (with_reducible refine Later.setCell ?_ (by simp; omega) _) | (with_reducible refine Later.setCell ?_ (by simp) _) | (with_reducible refine Later.drewN ?_ _) | (with_reducible refine Later.drew ?_) | (with_reducible refine Later.trans ?_ (Hid.out (by assumption)))))⟩
  · rw [hb] at HA
    cases he : enB x y
    · have e1 : Hid (meE L F p x y = 1) := Lib.hid (by unfold meE; rw [he]; rfl)
      have e2 : Hid (meB L F p x y = false) := Lib.hid (by unfold meB; rw [e1.out]; rfl)
      clear hs hf hp hp2
      go_enter Try.func53, Try.ntmps53
      go_wp2_with (first
          | (go_at_call 98; refine (HA _ (HS.out.later (by repeat (first | (with_reducible exact Later.refl _) | (with_reducible exact Hid.out (by assumption)) | (with_reducible refine Later.alloc ?_ _) | (with_reducible refine Later.setCell ?_ (by simp; omega) _) | (with_reducible refine Later.setCell ?_ (by simp) _) | (with_reducible refine Later.drewN ?_ _) | (with_reducible refine Later.drew ?_) | (with_reducible refine Later.trans ?_ (Hid.out (by assumption)))))) (HF.out.later (by repeat (first | (with_reducible exact Later.refl _) | (with_reducible exact Hid.out (by assumption)) | (with_reducible refine Later.alloc ?_ _) | (with_reducible refine Later.setCell ?_ (by simp; omega) _) | (with_reducible refine Later.setCell ?_ (by simp) _) | (with_reducible refine Later.drewN ?_ _) | (with_reducible refine Later.drew ?_) | (with_reducible refine Later.trans ?_ (Hid.out (by assumption))))))).mono ?_; rintro e w1 ⟨rfl, hb⟩; obtain ⟨H, hcc, hff, hzz⟩ := later_facts hb; clear hb; (try simp at hzz); have hz0 : w.heap.size < w1.heap.size := (by omega); have hz1 : w.heap.size + 1 < w1.heap.size := (by omega))
          | (go_at_call 68; refine (s_IsEnergy _ _ _).mono ?_; rintro e w1 ⟨rfl, hb⟩; obtain ⟨H, hcc, hff, hzz⟩ := later_facts hb; clear hb; (try simp at hzz); (try simp only [World.heap_drewN, World.cell?_drewN, World.frozen?_drewN] at hcc hff); have hz0 : w.heap.size < w1.heap.size := (by omega); (try (have hz1 : w.heap.size + 1 < w1.heap.size := (by omega))); (try (have hz2 : w.heap.size + 1 + 1 < w1.heap.size := (by omega))); (try (have hz3 : w.heap.size + 1 + 1 + 1 < w1.heap.size := (by omega))); (try (have hz4 : w.heap.size + 1 + 1 + 1 + 1 < w1.heap.size := (by omega)))))
      go_ret2
      exact ⟨ret_bi (by rw [e2.out]) (by rw [e1.out]), (by repeat (first | (with_reducible exact Later.refl _) | (with_reducible exact Hid.out (by assumption)) | (with_reducible refine Later.alloc ?_ _) | (with_reducible refine Later.setCell ?_ (by simp; omega) _) | (with_reducible refine Later.setCell ?_ (by simp) _) | (with_reducible refine Later.drewN ?_ _) | (with_reducible refine Later.drew ?_) | (with_reducible refine Later.trans ?_ (Hid.out (by assumption)))))⟩
    · by_cases h0 : fndE L F (isNo p) = 0
      · obtain ⟨b, rfl, hbl, hv, hk, hsec⟩ := isNo_cases h0
        have HE := fun w (h : Sgs w a n L) (h2 : Sl w A m F) => s_Entry a n cap L A m capF F b w h h2 hv hk (by rw [← hf.1]; exact hbl)
        rw [h0] at HC
        obtain ⟨e1, e2⟩ := meB_in h0 he
        rw [en_in (n := n) hv hk hbl he] at e2
        have E1 := Lib.hid e1
        generalize enLo L F b = lo at *
        generalize enHi L F b = hi at *
        have E2 := Lib.hid e2
        clear hs hf hp hp2 h0 hsec hv hk hbl hb e1 e2
        by_cases c1 : lo ≤ x
        · go_enter Try.func53, Try.ntmps53
          go_wp2_with (first
          | (go_at_call 98; refine (HA _ (HS.out.later (by repeat (first | (with_reducible exact Later.refl _) | (with_reducible exact Hid.out (by assumption)) | (with_reducible refine Later.alloc ?_ _) | (with_reducible refine Later.setCell ?_ (by simp; omega) _) | (with_reducible refine Later.setCell ?_ (by simp) _) | (with_reducible refine Later.drewN ?_ _) | (with_reducible refine Later.drew ?_) | (with_reducible refine Later.trans ?_ (Hid.out (by assumption)))))) (HF.out.later (by repeat (first | (with_reducible exact Later.refl _) | (with_reducible exact Hid.out (by assumption)) | (with_reducible refine Later.alloc ?_ _) | (with_reducible refine Later.setCell ?_ (by simp; omega) _) | (with_reducible refine Later.setCell ?_ (by simp) _) | (with_reducible refine Later.drewN ?_ _) | (with_reducible refine Later.drew ?_) | (with_reducible refine Later.trans ?_ (Hid.out (by assumption))))))).mono ?_; rintro e w1 ⟨rfl, hb⟩; obtain ⟨H, hcc, hff, hzz⟩ := later_facts hb; clear hb; (try simp at hzz); have hz0 : w.heap.size < w1.heap.size := (by omega); have hz1 : w.heap.size + 1 < w1.heap.size := (by omega))
          | (go_at_call 68; refine (s_IsEnergy _ _ _).mono ?_; rintro e w1 ⟨rfl, hb⟩; obtain ⟨H, hcc, hff, hzz⟩ := later_facts hb; clear hb; (try simp at hzz); (try simp only [World.heap_drewN, World.cell?_drewN, World.frozen?_drewN] at hcc hff); have hz0 : w.heap.size < w1.heap.size := (by omega); (try (have hz1 : w.heap.size + 1 < w1.heap.size := (by omega))); (try (have hz2 : w.heap.size + 1 + 1 < w1.heap.size := (by omega))); (try (have hz3 : w.heap.size + 1 + 1 + 1 < w1.heap.size := (by omega))); (try (have hz4 : w.heap.size + 1 + 1 + 1 + 1 < w1.heap.size := (by omega))))
          | (go_at_call 95; refine (HC _ (HS.out.later (by repeat (first | (with_reducible exact Later.refl _) | (with_reducible exact Hid.out (by assumption)) | (with_reducible refine Later.alloc ?_ _) | (with_reducible refine Later.setCell ?_ (by simp; omega) _) | (with_reducible refine Later.setCell ?_ (by simp) _) | (with_reducible refine Later.drewN ?_ _) | (with_reducible refine Later.drew ?_) | (with_reducible refine Later.trans ?_ (Hid.out (by assumption)))))) (HF.out.later (by repeat (first | (with_reducible exact Later.refl _) | (with_reducible exact Hid.out (by assumption)) | (with_reducible refine Later.alloc ?_ _) | (with_reducible refine Later.setCell ?_ (by simp; omega) _) | (with_reducible refine Later.setCell ?_ (by simp) _) | (with_reducible refine Later.drewN ?_ _) | (with_reducible refine Later.drew ?_) | (with_reducible refine Later.trans ?_ (Hid.out (by assumption))))))).mono ?_; rintro e w1 ⟨rfl, hb⟩; obtain ⟨H, hcc, hff, hzz⟩ := later_facts hb; clear hb; (try simp at hzz); have hz0 : w.heap.size < w1.heap.size := (by omega); have hz1 : w.heap.size + 1 < w1.heap.size := (by omega))
          | (go_at_call 96; refine (HE _ (HS.out.later (by repeat (first | (with_reducible exact Later.refl _) | (with_reducible exact Hid.out (by assumption)) | (with_reducible refine Later.alloc ?_ _) | (with_reducible refine Later.setCell ?_ (by simp; omega) _) | (with_reducible refine Later.setCell ?_ (by simp) _) | (with_reducible refine Later.drewN ?_ _) | (with_reducible refine Later.drew ?_) | (with_reducible refine Later.trans ?_ (Hid.out (by assumption)))))) (HF.out.later (by repeat (first | (with_reducible exact Later.refl _) | (with_reducible exact Hid.out (by assumption)) | (with_reducible refine Later.alloc ?_ _) | (with_reducible refine Later.setCell ?_ (by simp; omega) _) | (with_reducible refine Later.setCell ?_ (by simp) _) | (with_reducible refine Later.drewN ?_ _) | (with_reducible refine Later.drew ?_) | (with_reducible refine Later.trans ?_ (Hid.out (by assumption))))))).mono ?_; rintro e w2 ⟨rfl, hb⟩; obtain ⟨H, hcc, hff, hzz⟩ := later_facts hb; clear hb; (try simp at hzz); have hz0 : w.heap.size < w2.heap.size := (by omega); have hz1 : w.heap.size + 1 < w2.heap.size := (by omega)))
          go_ret2
          exact ⟨ret_bi (by rw [E2.out]; simp [c1]) (by rw [E1.out]), (by repeat (first | (with_reducible exact Later.refl _) | (with_reducible exact Hid.out (by assumption)) | (with_reducible refine Later.alloc ?_ _) | (with_reducible refine Later.setCell ?_ (by simp; omega) _) | (with_reducible refine Later.setCell ?_ (by simp) _) | (with_reducible refine Later.drewN ?_ _) | (with_reducible refine Later.drew ?_) | (with_reducible refine Later.trans ?_ (Hid.out (by assumption)))))⟩
        · go_enter Try.func53, Try.ntmps53
          go_wp2_with (first
          | (go_at_call 98; refine (HA _ (HS.out.later (by repeat (first | (with_reducible exact Later.refl _) | (with_reducible exact Hid.out (by assumption)) | (with_reducible refine Later.alloc ?_ _) | (with_reducible refine Later.setCell ?_ (by simp; omega) _) | (with_reducible refine Later.setCell ?_ (by simp) _) | (with_reducible refine Later.drewN ?_ _) | (with_reducible refine Later.drew ?_) | (with_reducible refine Later.trans ?_ (Hid.out (by assumption)))))) (HF.out.later (by repeat (first | (with_reducible exact Later.refl _) | (with_reducible exact Hid.out (by assumption)) | (with_reducible refine Later.alloc ?_ _) | (with_reducible refine Later.setCell ?_ (by simp; omega) _) | (with_reducible refine Later.setCell ?_ (by simp) _) | (with_reducible refine Later.drewN ?_ _) | (with_reducible refine Later.drew ?_) | (with_reducible refine Later.trans ?_ (Hid.out (by assumption))))))).mono ?_; rintro e w1 ⟨rfl, hb⟩; obtain ⟨H, hcc, hff, hzz⟩ := later_facts hb; clear hb; (try simp at hzz); have hz0 : w.heap.size < w1.heap.size := (by omega); have hz1 : w.heap.size + 1 < w1.heap.size := (by omega))
          | (go_at_call 68; refine (s_IsEnergy _ _ _).mono ?_; rintro e w1 ⟨rfl, hb⟩; obtain ⟨H, hcc, hff, hzz⟩ := later_facts hb; clear hb; (try simp at hzz); (try simp only [World.heap_drewN, World.cell?_drewN, World.frozen?_drewN] at hcc hff); have hz0 : w.heap.size < w1.heap.size := (by omega); (try (have hz1 : w.heap.size + 1 < w1.heap.size := (by omega))); (try (have hz2 : w.heap.size + 1 + 1 < w1.heap.size := (by omega))); (try (have hz3 : w.heap.size + 1 + 1 + 1 < w1.heap.size := (by omega))); (try (have hz4 : w.heap.size + 1 + 1 + 1 + 1 < w1.heap.size := (by omega))))
          | (go_at_call 95; refine (HC _ (HS.out.later (by repeat (first | (with_reducible exact Later.refl _) | (with_reducible exact Hid.out (by assumption)) | (with_reducible refine Later.alloc ?_ _) | (with_reducible refine Later.setCell ?_ (by simp; omega) _) | (with_reducible refine Later.setCell ?_ (by simp) _) | (with_reducible refine Later.drewN ?_ _) | (with_reducible refine Later.drew ?_) | (with_reducible refine Later.trans ?_ (Hid.out (by assumption)))))) (HF.out.later (by repeat (first | (with_reducible exact Later.refl _) | (with_reducible exact Hid.out (by assumption)) | (with_reducible refine Later.alloc ?_ _) | (with_reducible refine Later.setCell ?_ (by simp; omega) _) | (with_reducible refine Later.setCell ?_ (by simp) _) | (with_reducible refine Later.drewN ?_ _) | (with_reducible refine Later.drew ?_) | (with_reducible refine Later.trans ?_ (Hid.out (by assumption))))))).mono ?_; rintro e w1 ⟨rfl, hb⟩; obtain ⟨H, hcc, hff, hzz⟩ := later_facts hb; clear hb; (try simp at hzz); have hz0 : w.heap.size < w1.heap.size := (by omega); have hz1 : w.heap.size + 1 < w1.heap.size := (by omega))
          | (go_at_call 96; refine (HE _ (HS.out.later (by repeat (first | (with_reducible exact Later.refl _) | (with_reducible exact Hid.out (by assumption)) | (with_reducible refine Later.alloc ?_ _) | (with_reducible refine Later.setCell ?_ (by simp; omega) _) | (with_reducible refine Later.setCell ?_ (by simp) _) | (with_reducible refine Later.drewN ?_ _) | (with_reducible refine Later.drew ?_) | (with_reducible refine Later.trans ?_ (Hid.out (by assumption)))))) (HF.out.later (by repeat (first | (with_reducible exact Later.refl _) | (with_reducible exact Hid.out (by assumption)) | (with_reducible refine Later.alloc ?_ _) | (with_reducible refine Later.setCell ?_ (by simp; omega) _) | (with_reducible refine Later.setCell ?_ (by simp) _) | (with_reducible refine Later.drewN ?_ _) | (with_reducible refine Later.drew ?_) | (with_reducible refine Later.trans ?_ (Hid.out (by assumption))))))).mono ?_; rintro e w2 ⟨rfl, hb⟩; obtain ⟨H, hcc, hff, hzz⟩ := later_facts hb; clear hb; (try simp at hzz); have hz0 : w.heap.size < w2.heap.size := (by omega); have hz1 : w.heap.size + 1 < w2.heap.size := (by omega)))
          go_ret2
          exact ⟨ret_bi (by rw [E2.out]; simp; omega) (by rw [E1.out]), (by repeat (first | (with_reducible exact Later.refl _) | (with_reducible exact Hid.out (by assumption)) | (with_reducible refine Later.alloc ?_ _) | (with_reducible refine Later.setCell ?_ (by simp; omega) _) | (with_reducible refine Later.setCell ?_ (by simp) _) | (with_reducible refine Later.drewN ?_ _) | (with_reducible refine Later.drew ?_) | (with_reducible refine Later.trans ?_ (Hid.out (by assumption)))))⟩
      · have e1 : Hid (meE L F p x y = fndE L F (isNo p)) := Lib.hid (by unfold meE; rw [if_pos he])
        have e2 : Hid (meB L F p x y = false) := Lib.hid (by unfold meB; rw [e1.out]; simp [h0])
        generalize fndE L F (isNo p) = ce at *
        have hne : (ce != 0) = true := by simpa using h0
        clear hs hf h0 hp hp2
        go_enter Try.func53, Try.ntmps53
        go_wp2_with (first
          | (go_at_call 98; refine (HA _ (HS.out.later (by repeat (first | (with_reducible exact Later.refl _) | (with_reducible exact Hid.out (by assumption)) | (with_reducible refine Later.alloc ?_ _) | (with_reducible refine Later.setCell ?_ (by simp; omega) _) | (with_reducible refine Later.setCell ?_ (by simp) _) | (with_reducible refine Later.drewN ?_ _) | (with_reducible refine Later.drew ?_) | (with_reducible refine Later.trans ?_ (Hid.out (by assumption)))))) (HF.out.later (by repeat (first | (with_reducible exact Later.refl _) | (with_reducible exact Hid.out (by assumption)) | (with_reducible refine Later.alloc ?_ _) | (with_reducible refine Later.setCell ?_ (by simp; omega) _) | (with_reducible refine Later.setCell ?_ (by simp) _) | (with_reducible refine Later.drewN ?_ _) | (with_reducible refine Later.drew ?_) | (with_reducible refine Later.trans ?_ (Hid.out (by assumption))))))).mono ?_; rintro e w1 ⟨rfl, hb⟩; obtain ⟨H, hcc, hff, hzz⟩ := later_facts hb; clear hb; (try simp at hzz); have hz0 : w.heap.size < w1.heap.size := (by omega); have hz1 : w.heap.size + 1 < w1.heap.size := (by omega))
          | (go_at_call 68; refine (s_IsEnergy _ _ _).mono ?_; rintro e w1 ⟨rfl, hb⟩; obtain ⟨H, hcc, hff, hzz⟩ := later_facts hb; clear hb; (try simp at hzz); (try simp only [World.heap_drewN, World.cell?_drewN, World.frozen?_drewN] at hcc hff); have hz0 : w.heap.size < w1.heap.size := (by omega); (try (have hz1 : w.heap.size + 1 < w1.heap.size := (by omega))); (try (have hz2 : w.heap.size + 1 + 1 < w1.heap.size := (by omega))); (try (have hz3 : w.heap.size + 1 + 1 + 1 < w1.heap.size := (by omega))); (try (have hz4 : w.heap.size + 1 + 1 + 1 + 1 < w1.heap.size := (by omega))))
          | (go_at_call 95; refine (HC _ (HS.out.later (by repeat (first | (with_reducible exact Later.refl _) | (with_reducible exact Hid.out (by assumption)) | (with_reducible refine Later.alloc ?_ _) | (with_reducible refine Later.setCell ?_ (by simp; omega) _) | (with_reducible refine Later.setCell ?_ (by simp) _) | (with_reducible refine Later.drewN ?_ _) | (with_reducible refine Later.drew ?_) | (with_reducible refine Later.trans ?_ (Hid.out (by assumption)))))) (HF.out.later (by repeat (first | (with_reducible exact Later.refl _) | (with_reducible exact Hid.out (by assumption)) | (with_reducible refine Later.alloc ?_ _) | (with_reducible refine Later.setCell ?_ (by simp; omega) _) | (with_reducible refine Later.setCell ?_ (by simp) _) | (with_reducible refine Later.drewN ?_ _) | (with_reducible refine Later.drew ?_) | (with_reducible refine Later.trans ?_ (Hid.out (by assumption))))))).mono ?_; rintro e w1 ⟨rfl, hb⟩; obtain ⟨H, hcc, hff, hzz⟩ := later_facts hb; clear hb; (try simp at hzz); have hz0 : w.heap.size < w1.heap.size := (by omega); have hz1 : w.heap.size + 1 < w1.heap.size := (by omega)))
        go_ret2
        exact ⟨ret_bi (by rw [e2.out]) (by rw [e1.out]), (by repeat (first | (with_reducible exact Later.refl _) | (with_reducible exact Hid.out (by assumption)) | (with_reducible refine Later.alloc ?_ _) | (with_reducible refine Later.setCell ?_ (by simp; omega) _) | (with_reducible refine Later.setCell ?_ (by simp) _) | (with_reducible refine Later.drewN ?_ _) | (with_reducible refine Later.drew ?_) | (with_reducible refine Later.trans ?_ (Hid.out (by assumption)))))⟩
end Go.Proofs.Ytdhoiiejcmnmbaa
namespace Go.Proofs.Ytdhoiiejcmnmbaa
open Go.RowKit
set_option maxHeartbeats 2000000
set_option linter.unusedVariables false
set_option linter.unusedSimpArgs false
theorem l_eqInt64S (a b : Option Addr) (n cap m cap' : Nat) (l : List Int) (w : World) (hs : Sl w a n l) (ht : Sl w b m l) :
    Calls Try.prog 36 #[.slice a n cap, .slice b m cap'] w fun e w' => e = .returned (.bool true) ∧ ∃ q, w' = w.drewN q := by
  have HS := Lib.hid hs
  have HT := Lib.hid ht
  obtain rfl : n = m := by rw [← hs.1, ← ht.1]
  have hn := hs.2.1
  clear hs ht
  have e0 : ((n : Int) != (n : Int)) = false := by simp
  go_enter Try.func36, Try.ntmps36
  go_wp2
  go_loopw [5] (fun i wr => ∃ k : Nat, k ≤ n ∧ i = .int .i64 k ∧ ∃ q, wr = w.drewN q) (fun i _ => n - (intOf i).toNat)
  case atStart => exact ⟨0, by omega, rfl, 0, rfl⟩
  case round =>
    obtain ⟨k, hk, rfl, q, rfl⟩ := hrel
    by_cases hlt : k < n
    · obtain ⟨b1, o1, rfl, hc1⟩ := HS.out.at k hlt
      obtain ⟨b2, o2, rfl, hc2⟩ := HT.out.at k hlt
      go_wp2
      go_quiet (fail)
      go_wp2
      go_roundw
      case rel => exact ⟨k + 1, by omega, by go_num, by first | exact ⟨_, rfl⟩ | exact dr _ _ _⟩
      case measure => simp [intOf]; omega
    · go_wp2
      go_ret
      exact ⟨rfl, by first | exact ⟨_, rfl⟩ | exact dr _ _ _⟩
end Go.Proofs.Ytdhoiiejcmnmbaa
namespace Go.Proofs.Ytdhoiiejcmnmbaa
open Go.RowKit
set_option maxHeartbeats 2000000
set_option linter.unusedVariables false
set_option linter.unusedSimpArgs false
/-- the cells of a copy of l, of which k elements are written -/
def part (l : List Int) (n k : Nat) : List Value := (l.take k).map (Value.int .i64) ++ List.replicate (n - k) (.int .i64 0)
theorem part_len (l : List Int) (n k : Nat) (hl : l.length = n) (hk : k ≤ n) : (part l n k).length = n := by
  simp [part]; omega
theorem part_zero (l : List Int) (n : Nat) : part l n 0 = List.replicate n (.int .i64 0) := by simp [part]
theorem part_set (l : List Int) (n k : Nat) (hl : l.length = n) (hk : k < n) : (part l n k).set k (.int .i64 (gx l k)) = part l n (k + 1) := by
  have e1 : n - k = (n - (k + 1)) + 1 := by omega
  have e2 : l.take (k + 1) = l.take k ++ [gx l k] := by
    rw [List.take_succ_eq_append_getElem (by omega), gx_of l k (by omega)]
  unfold part
  rw [e1, e2, List.set_append]
  have hm : min k l.length = k := by omega
  simp [List.replicate_succ, hm]
theorem part_full (l : List Int) (n : Nat) (hl : l.length = n) : part l n n = l.map (Value.int .i64) := by
  unfold part; rw [List.take_of_length_le (by omega)]; simp
theorem part_get (l : List Int) (n k : Nat) (hl : l.length = n) (hk : k < n) : (part l n k)[k]? = some (.int .i64 0) := by
  unfold part
  rw [List.getElem?_append_right (by simp; omega)]
  simp [List.getElem?_replicate]
  omega
def Copied (w : World) (n : Nat) (l : List Int) (e : Ending) (w' : World) : Prop :=
  ∃ g, e = .returned (.slice (some ⟨g, 0, none⟩) n n) ∧ w.heap.size ≤ g ∧ g < w'.heap.size ∧ Sl w' (some ⟨g, 0, none⟩) n l ∧ Below w.heap.size w w'
theorem l_toInt64S (a : Option Addr) (n cap : Nat) (l : List Int) (w : World) (hs : Sl w a n l) (hn : n ≤ 1048576) :
    Calls Try.prog 33 #[.slice a n cap] w (Copied w n l) := by
  have HS := Lib.hid hs
  have HL := Lib.hid hs.1
  clear hs
  obtain ⟨i0, hi, hz0, hz1, hz2⟩ := info_parts info_i64
  have HI := Lib.hid hi; clear hi
  have HZ0 := Lib.hid hz0; clear hz0
  have HZ1 := Lib.hid hz1; clear hz1
  have HZ2 := Lib.hid hz2; clear hz2
  go_enter Try.func33, Try.ntmps33
  go_wp2_with (refine wpList_make_full _ rfl _ _ _ rfl w.heap.size 2 i0 (.int .i64 0) 1 Try.underlying42 HI.out HZ0.out HZ1.out _ _ _ _ n rfl rfl rfl rfl (by rw [HZ2.out]; omega) (by unfold maxLen; omega) (Nat.le_refl _) ?_; intro w1 hown hgrow)
  have hown' : w1.ownsRow w.heap.size 2 1 (.slice (some ⟨w.heap.size, 0, none⟩) n n) n (part l n 0) := by
    rw [part_zero, ← toList_madeCells_one]; simpa [Value.cells] using hown
  have hb1 : Below w.heap.size w w1 := (Below.refl _ _).grown hgrow (Nat.le_refl _) (by simp)
  have HO := Lib.hid hown'
  have HB := Lib.hid hb1
  clear hown hgrow hown' hb1
  go_loopw [4] (fun i wr => ∃ k : Nat, k ≤ n ∧ i = .int .i64 k ∧ wr.ownsRow w.heap.size 2 1 (.slice (some ⟨w.heap.size, 0, none⟩) n n) n (part l n k) ∧ Below w.heap.size w wr) (fun i _ => n - (intOf i).toNat)
  case atStart => exact ⟨0, by omega, rfl, HO.out, HB.out⟩
  case round =>
    clear HO HB
    obtain ⟨k, hk, rfl, ho, hb⟩ := hrel
    have HO := Lib.hid ho
    have HB := Lib.hid hb
    clear ho hb
    by_cases hlt : k < n
    · obtain ⟨b, off, rfl, hc0⟩ := HS.out.at k hlt
      have hc : wr.cell? ⟨b, off + k, none⟩ = some (.int .i64 (gx l k)) := by rw [HB.out.cell (p := ⟨b, off + k, none⟩) (cell_lt hc0)]; exact hc0
      have ht : wr.cell? ⟨w.heap.size, k, none⟩ = some (.int .i64 0) := by rw [HO.out.cellAt k (by omega)]; exact part_get l n k HL.out hlt
      have hf : wr.frozen? ⟨w.heap.size, k, none⟩ = false := HO.out.frozenAt k
      have HN : Hid ((wr.setCell ⟨w.heap.size, k, none⟩ (.int .i64 (gx l k))).ownsRow w.heap.size 2 1 (.slice (some ⟨w.heap.size, 0, none⟩) n n) n (part l n (k + 1))) := by
        refine Lib.hid ?_
        rw [← part_set l n k HL.out hlt]
        exact (HO.out.stored k _).1
      have HM : Hid (Below w.heap.size w (wr.setCell ⟨w.heap.size, k, none⟩ (.int .i64 (gx l k)))) := Lib.hid (HB.out.setCell (Nat.le_refl _) _)
      clear hc0
      go_wp2
      go_roundw
      case rel => exact ⟨k + 1, by omega, by go_num, HN.out, HM.out⟩
      case measure => simp [intOf]; omega
    · obtain rfl : n = k := by omega
      go_wp2
      go_ret
      have hown := HO.out
      rw [part_full l n HL.out] at hown
      have hlt := hown.lt w.heap.size rfl
      exact ⟨w.heap.size, rfl, Nat.le_refl _, hlt.2, sl_of_row hown HL.out (by omega) HS.out.2.2.2, HB.out⟩
end Go.Proofs.Ytdhoiiejcmnmbaa
namespace Go.Proofs.Ytdhoiiejcmnmbaa
open Go.RowKit
set_option maxHeartbeats 2000000
set_option linter.unusedVariables false
set_option linter.unusedSimpArgs false
theorem made7 (n j : Nat) (h : j < n * 7) : ((madeCells (Value.cells (.agg #[.int .i64 0, .int .i64 0, .int .i64 0, .int .i64 0, .int .i64 0, .int .i64 0, .int .i64 0])) (n * 7)).toList)[j]? = some (.int .i64 0) := by
  have e : j % 7 = 0 ∨ j % 7 = 1 ∨ j % 7 = 2 ∨ j % 7 = 3 ∨ j % 7 = 4 ∨ j % 7 = 5 ∨ j % 7 = 6 := by omega
  rcases e with e | e | e | e | e | e | e <;> simp [madeCells, Value.cells, h, e]
theorem l_toSegmentS (a : Option Addr) (n cap : Nat) (L : List Sg) (w : World) (hs : Sgs w a n L) (hn : n ≤ 1048576) :
    Calls Try.prog 80 #[.slice a n cap] w (CopiedS w n L) := by
  have HS := Lib.hid hs
  have HL := Lib.hid hs.1
  clear hs
  obtain ⟨i0, hi, hz0, hz1, hz2⟩ := info_parts info_seg
  have HI := Lib.hid hi; clear hi
  have HZ0 := Lib.hid hz0; clear hz0
  have HZ1 := Lib.hid hz1; clear hz1
  have HZ2 := Lib.hid hz2; clear hz2
  go_enter Try.func80, Try.ntmps80
  go_wp2_with (refine wpList_make_full _ rfl _ _ _ rfl w.heap.size 27 i0 (.agg #[.int .i64 0, .int .i64 0, .int .i64 0, .int .i64 0, .int .i64 0, .int .i64 0, .int .i64 0]) 7 Try.underlying45 HI.out HZ0.out HZ1.out _ _ _ _ n rfl rfl rfl rfl (by rw [HZ2.out]; omega) (by unfold maxLen; omega) (Nat.le_refl _) ?_; intro w1 hown hgrow)
  have HO : Hid (SgRow w1 w.heap.size n (fltK L 0)) := Lib.hid ((SgRow.of_own hown (fun j hj => made7 n j hj)).congr (fun j hj => by unfold fltK; rw [if_neg (by omega)]))
  have HB : Hid (Later w w1) := Lib.hid ((Below.refl _ _).grown hgrow (Nat.le_refl _) (by simp))
  clear hown hgrow
  go_loopw [4] (fun i wr => ∃ k : Nat, k ≤ n ∧ i = .int .i64 k ∧ SgRow wr w.heap.size n (fltK L k) ∧ Later w wr) (fun i _ => n - (intOf i).toNat)
  case atStart => exact ⟨0, by omega, rfl, HO.out, HB.out⟩
  case round =>
    clear HO HB
    obtain ⟨k, hk, rfl, ho, hb⟩ := hrel
    have HR := Lib.hid ho
    have HW := Lib.hid hb
    have hsz := ho.lt
    clear ho hb
    by_cases hlt : k < n
    · obtain ⟨b', off', rfl, hb', hc⟩ := (HS.out.later HW.out).at k hlt
      obtain ⟨c0, c1, c2, c3, c4, c5, c6⟩ := hc
      go_wp2_with fail
      refine (l_toSegment (sx L k) _).mono ?_
      rintro e w2 ⟨rfl, hb2⟩
      have H2 := Lib.hid hb2
      have R2 := Lib.hid (HR.out.later hb2)
      have hsz2 : w.heap.size < w2.heap.size := R2.out.lt
      obtain ⟨u0, u1, u2, u3, u4, u5, u6, z0, z1, z2, z3, z4, z5, z6, g0, g1, g2, g3, g4, g5, g6⟩ := R2.out.seven' k hlt
      clear hb2 c0 c1 c2 c3 c4 c5 c6 HR
      go_wp2_with fail
      go_roundw
      case rel =>
        exact ⟨k + 1, by omega, by go_num, R2.out.putK hlt, (by repeat (first | (with_reducible exact Later.refl _) | (with_reducible exact Hid.out (by assumption)) | (with_reducible refine Later.alloc ?_ _) | (with_reducible refine Later.setCell ?_ (Nat.le_refl _) _) | (with_reducible refine Later.drewN ?_ _) | (with_reducible refine Later.drew ?_) | (with_reducible refine Later.trans ?_ (Hid.out (by assumption)))))⟩
      case measure => simp [intOf]; omega
    · obtain rfl : k = n := by omega
      go_wp2
      go_ret
      exact ⟨w.heap.size, rfl, Nat.le_refl _, HR.out.congr (fun j hj => by unfold fltK; rw [if_pos hj]), HW.out⟩
/-- what a copy of a layout leaves -/
def CopiedL (w : World) (n : Nat) (L : List Sg) (e : Ending) (w' : World) : Prop :=
  ∃ g, e = .returned (.agg #[.slice (some ⟨g, 0, none⟩) n n]) ∧ w.heap.size ≤ g ∧ SgRow w' g n (flt L) ∧ Later w w'
theorem l_toLayout (a : Option Addr) (n cap : Nat) (L : List Sg) (w : World) (hs : Sgs w a n L) (hn : n ≤ 1048576) :
    Calls Try.prog 32 #[.agg #[.slice a n cap]] w (CopiedL w n L) := by
  have HS := Lib.hid hs
  clear hs
  go_enter Try.func32, Try.ntmps32
  go_wp2_with fail
  refine (l_toSegmentS a n cap L _ (HS.out.later (((Later.refl _).alloc _).alloc _ |>.alloc _)) hn).mono ?_
  rintro e w1 ⟨g, rfl, hg, hr, hb⟩
  obtain ⟨H, hcc, hff, hzz⟩ := later_facts hb
  have HR := Lib.hid hr
  simp only [World.size_alloc] at hg hzz
  clear hb hr
  have hz1 : w.heap.size + 1 < w1.heap.size := by omega
  have hz2 : w.heap.size + 1 + 1 < w1.heap.size := by omega
  have hz0 : w.heap.size < w1.heap.size := by omega
  have R2 : ∀ u v, Hid (SgRow ((w1.setCell ⟨w.heap.size + 1 + 1, 0, none⟩ u).setCell ⟨w.heap.size + 1, 0, none⟩ v) g n (flt L)) := fun u v => Lib.hid ((HR.out.far (by simp; omega) u).far (by simp; omega) v)
  have RR := Lib.hid R2
  clear R2
  have hg0 : w.heap.size ≤ g := by omega
  clear hg hzz
  go_wp2_with fail
  refine bodyPost_ret (v := .agg #[.slice (some ⟨g, 0, none⟩) n n]) (by simp [results, Try.results32, go_sem, *]) rfl ⟨g, rfl, hg0, (RR.out _ _).out, ?_⟩
  exact (by repeat (first | (with_reducible exact Later.refl _) | (with_reducible exact Hid.out (by assumption)) | (with_reducible refine Later.setCell ?_ (by simp; omega) _) | (with_reducible refine Later.setCell ?_ (by simp) _) | (with_reducible refine Later.alloc ?_ _) | (with_reducible refine Later.drewN ?_ _) | (with_reducible refine Later.drew ?_) | (with_reducible refine Later.trans ?_ (Hid.out (by assumption)))))
end Go.Proofs.Ytdhoiiejcmnmbaa
namespace Go.Proofs.Ytdhoiiejcmnmbaa
open Go.RowKit
set_option linter.unusedVariables false
set_option linter.unusedSimpArgs false
theorem szI_big {n : Nat} (h : 1048576 < n) : szI 1048576 n = -1 := by unfold szI; rw [if_pos (by omega)]
theorem szI_ok {n : Nat} (h : n ≤ 1048576) : szI 1048576 n = 1048576 - n := by unfold szI; rw [if_neg (by omega)]
theorem two_cells {w w' : World} {b1 b2 : Nat} {u v : Value} (h1 : w.cell? ⟨b1, 0, none⟩ = some u) (l1 : b1 < w.heap.size) (h2 : w.cell? ⟨b2, 0, none⟩ = some v) (l2 : b2 < w.heap.size) (k : Later w w') :
    w'.cell? ⟨b1, 0, none⟩ = some u ∧ w'.cell? ⟨b2, 0, none⟩ = some v :=
  ⟨by rw [k.cell (p := ⟨b1, 0, none⟩) l1]; exact h1, by rw [k.cell (p := ⟨b2, 0, none⟩) l2]; exact h2⟩
theorem i64w {a : Int} (h : (Lit.int .i64 a).wf = true) : -9223372036854775808 ≤ a ∧ a ≤ 9223372036854775807 := by
  simpa [Lit.wf, IntKind.min, IntKind.max, IntKind.signed, IntKind.bits] using h
end Go.Proofs.Ytdhoiiejcmnmbaa
namespace Go.Proofs.Ytdhoiiejcmnmbaa
open Go.RowKit
set_option maxHeartbeats 2000000
set_option linter.unusedVariables false
set_option linter.unusedSimpArgs false
theorem isRow_leE {k : IntKind} {w : World} {a : Option Addr} {len cap : Nat} {zs : List Int} (h : IsRow k w a len cap zs) : len ≤ cap := by
  rcases h with ⟨rfl, rfl, rfl, rfl⟩ | ⟨x, rfl, hl, _⟩
  · exact Nat.le_refl _
  · exact hl
theorem l_eqIE (a b : Option Addr) (n cap m cap' : Nat) (l : List Int) (w : World) (hs : Sl w a n l) (ht : Sl w b m l) :
    Calls Try.prog 36 #[.slice a n cap, .slice b m cap'] w fun e w' => e = .returned (.bool true) ∧ Later w w' :=
  (l_eqInt64S a b n cap m cap' l w hs ht).mono fun e w' ⟨he, q, hq⟩ => ⟨he, by rw [hq]; exact (Later.refl _).drewN q⟩
theorem later_gE {w w' : World} (h : Later w w') (row : Option Nat) : w.grownBy w' row := ⟨h.os, h.tape, h.output, h.size, fun k hk _ => h.block k hk⟩
theorem Own.keptE {w w' : World} {base : Nat} {v : Value} {l : List Int} {row : Option Nat} (h : Own w base v l) (hg : w.grownBy w' row) (hr : ∀ k, v.ownBlock = some k → row ≠ some k) : Own w' base v l := by
  refine ⟨h.1.kept hg ?_, h.2⟩
  cases hv : v.ownBlock with
  | none => exact .inl rfl
  | some k => exact .inr (fun e => hr k hv e.symm)
theorem Own.laterE {w w' : World} {base : Nat} {v : Value} {l : List Int} (h : Own w base v l) (k : Later w w') : Own w' base v l := h.keptE (later_gE k none) (fun _ _ e => by cases e)
theorem Sl.laterE {w w' : World} {a : Option Addr} {n : Nat} {l : List Int} (h : Sl w a n l) (hb : Later w w') : Sl w' a n l := sl_later h hb
theorem later_growE {w wr w5 : World} {row : Option Nat} (W : Later w wr) (hg : wr.grownBy w5 row) (hr : ∀ k, row = some k → w.heap.size ≤ k) : Later w w5 := Below.grown W hg W.size hr
theorem own_slE {w : World} {base g n cap : Nat} {l : List Int} (h : Own w base (.slice (some ⟨g, 0, none⟩) n cap) l) (hl : l.length = n) : Sl w (some ⟨g, 0, none⟩) n l := by
  obtain ⟨a, c, e, s, _⟩ := h.sl
  rw [hl] at e s
  cases e; exact s
end Go.Proofs.Ytdhoiiejcmnmbaa
namespace Go.Proofs.Ytdhoiiejcmnmbaa
open Go.RowKit
set_option maxHeartbeats 2000000
set_option linter.unusedVariables false
set_option linter.unusedSimpArgs false
/-- the list l, of which k elements are marked -/
def mrk (l : List Int) (k : Nat) : List Int := (List.range l.length).map fun j => if j < k then 1 + (j : Int) else gx l j
theorem mrk_len (l : List Int) (k : Nat) : (mrk l k).length = l.length := by simp [mrk]
theorem mrk_get (l : List Int) (k j : Nat) (h : j < l.length) : (mrk l k)[j]? = some (if j < k then 1 + (j : Int) else gx l j) := by simp [mrk, h]
theorem mrk_0 (l : List Int) : mrk l 0 = l := by
  apply List.ext_getElem?
  intro j
  by_cases h : j < l.length
  · rw [mrk_get l 0 j h, if_neg (by omega), List.getElem?_eq_getElem h, gx_of l j h]
  · rw [List.getElem?_eq_none (by rw [mrk_len]; omega), List.getElem?_eq_none (by omega)]
theorem mrk_set (l : List Int) (k : Nat) (hk : k < l.length) : (mrk l k).set k (1 + (k : Int)) = mrk l (k + 1) := by
  apply List.ext_getElem?
  intro j
  by_cases h : j < l.length
  · rw [List.getElem?_set, mrk_len, mrk_get l k j h, mrk_get l (k + 1) j h]
    by_cases e : k = j
    · subst e; simp [h]
    · rw [if_neg e]
      by_cases c : j < k
      · rw [if_pos c, if_pos (by omega)]
      · rw [if_neg c, if_neg (by omega)]
  · rw [List.getElem?_eq_none (by simp [mrk]; omega), List.getElem?_eq_none (by simp [mrk]; omega)]
theorem mrk_gx (l : List Int) (k : Nat) (h : k < l.length) : gx (mrk l l.length) k = 1 + (k : Int) := by
  rw [gx_of _ _ (by rw [mrk_len]; exact h)]
  simp [mrk, h]
/-- what marking leaves -/
def Marked (w : World) (base : Nat) (v : Value) (l : List Int) (e : Ending) (w' : World) : Prop :=
  e = .returned (.int .i64 (1 + (l.length : Int))) ∧ Own w' base v (mrk l l.length) ∧ w.grownBy w' v.ownBlock
theorem mrk_in (l : List Int) (k : Nat) (hl : l.length ≤ 1000000000) (h : ∀ x ∈ l, InR x) : ∀ x ∈ mrk l k, InR x := by
  intro x hx
  obtain ⟨j, hj, rfl⟩ := List.mem_map.1 hx
  rw [List.mem_range] at hj
  by_cases c : j < k
  · simp only [if_pos c]; exact ⟨by omega, by omega⟩
  · simp only [if_neg c]; exact h _ (gx_mem l j hj)
end Go.Proofs.Ytdhoiiejcmnmbaa
namespace Go.Proofs.Ytdhoiiejcmnmbaa
open Go.RowKit
set_option maxHeartbeats 2000000
set_option linter.unusedVariables false
set_option linter.unusedSimpArgs false
def CopiedO (w : World) (n : Nat) (l : List Int) (e : Ending) (w' : World) : Prop :=
  ∃ g, e = .returned (.slice (some ⟨g, 0, none⟩) n n) ∧ w.heap.size ≤ g ∧ g < w'.heap.size ∧ Own w' w.heap.size (.slice (some ⟨g, 0, none⟩) n n) l ∧ Below w.heap.size w w'
theorem l_toInt64O (a : Option Addr) (n cap : Nat) (l : List Int) (w : World) (hs : Sl w a n l) (hn : n ≤ 1048576) :
    Calls Try.prog 33 #[.slice a n cap] w (CopiedO w n l) := by
  have HS := Lib.hid hs
  have HL := Lib.hid hs.1
  clear hs
  obtain ⟨i0, hi, hz0, hz1, hz2⟩ := info_parts info_i64
  have HI := Lib.hid hi; clear hi
  have HZ0 := Lib.hid hz0; clear hz0
  have HZ1 := Lib.hid hz1; clear hz1
  have HZ2 := Lib.hid hz2; clear hz2
  go_enter Try.func33, Try.ntmps33
  go_wp2_with (refine wpList_make_full _ rfl _ _ _ rfl w.heap.size 2 i0 (.int .i64 0) 1 Try.underlying42 HI.out HZ0.out HZ1.out _ _ _ _ n rfl rfl rfl rfl (by rw [HZ2.out]; omega) (by unfold maxLen; omega) (Nat.le_refl _) ?_; intro w1 hown hgrow)
  have hown' : w1.ownsRow w.heap.size 2 1 (.slice (some ⟨w.heap.size, 0, none⟩) n n) n (part l n 0) := by
    rw [part_zero, ← toList_madeCells_one]; simpa [Value.cells] using hown
  have hb1 : Below w.heap.size w w1 := (Below.refl _ _).grown hgrow (Nat.le_refl _) (by simp)
  have HO := Lib.hid hown'
  have HB := Lib.hid hb1
  clear hown hgrow hown' hb1
  go_loopw [4] (fun i wr => ∃ k : Nat, k ≤ n ∧ i = .int .i64 k ∧ wr.ownsRow w.heap.size 2 1 (.slice (some ⟨w.heap.size, 0, none⟩) n n) n (part l n k) ∧ Below w.heap.size w wr) (fun i _ => n - (intOf i).toNat)
  case atStart => exact ⟨0, by omega, rfl, HO.out, HB.out⟩
  case round =>
    clear HO HB
    obtain ⟨k, hk, rfl, ho, hb⟩ := hrel
    have HO := Lib.hid ho
    have HB := Lib.hid hb
    clear ho hb
    by_cases hlt : k < n
    · obtain ⟨b, off, rfl, hc0⟩ := HS.out.at k hlt
      have hc : wr.cell? ⟨b, off + k, none⟩ = some (.int .i64 (gx l k)) := by rw [HB.out.cell (p := ⟨b, off + k, none⟩) (cell_lt hc0)]; exact hc0
      have ht : wr.cell? ⟨w.heap.size, k, none⟩ = some (.int .i64 0) := by rw [HO.out.cellAt k (by omega)]; exact part_get l n k HL.out hlt
      have hf : wr.frozen? ⟨w.heap.size, k, none⟩ = false := HO.out.frozenAt k
      have HN : Hid ((wr.setCell ⟨w.heap.size, k, none⟩ (.int .i64 (gx l k))).ownsRow w.heap.size 2 1 (.slice (some ⟨w.heap.size, 0, none⟩) n n) n (part l n (k + 1))) := by
        refine Lib.hid ?_
        rw [← part_set l n k HL.out hlt]
        exact (HO.out.stored k _).1
      have HM : Hid (Below w.heap.size w (wr.setCell ⟨w.heap.size, k, none⟩ (.int .i64 (gx l k)))) := Lib.hid (HB.out.setCell (Nat.le_refl _) _)
      clear hc0
      go_wp2
      go_roundw
      case rel => exact ⟨k + 1, by omega, by go_num, HN.out, HM.out⟩
      case measure => simp [intOf]; omega
    · obtain rfl : n = k := by omega
      go_wp2
      go_ret
      have hown := HO.out
      rw [part_full l n HL.out] at hown
      have hlt := hown.lt w.heap.size rfl
      exact ⟨w.heap.size, rfl, Nat.le_refl _, hlt.2, ⟨by rw [HL.out]; exact hown, HS.out.2.2.2⟩, HB.out⟩
end Go.Proofs.Ytdhoiiejcmnmbaa
namespace Go.Proofs.Ytdhoiiejcmnmbaa
open Go.RowKit
set_option maxHeartbeats 2000000
set_option linter.unusedVariables false
set_option linter.unusedSimpArgs false
theorem wv_valid {x y : Int} (h1 : -1000000000000 ≤ x) (h2 : x ≤ 1000000000000) (h3 : -1000000000000 ≤ y) (h4 : y ≤ 1000000000000) : wvE x y = 0 ∧ wvL x y = x ∧ wvH x y = y := by
  have e1 := (isVB_iff x).2 ⟨h1, h2⟩
  have e2 := (isVB_iff y).2 ⟨h3, h4⟩
  simp [wvE, wvL, wvH, e1, e2]
end Go.Proofs.Ytdhoiiejcmnmbaa
namespace Go.Proofs.Ytdhoiiejcmnmbaa
open Go.RowKit
set_option maxHeartbeats 4000000
set_option linter.unusedVariables false
set_option linter.unusedSimpArgs false
/-- what a call leaves in two slots: a box with an interval, and a number -/
def Got (l : List (Nat × Nat × Value)) (w0 : World) (L H E : Int) (s5 s6 : Value) (w : World) : Prop :=
  ∃ g : Nat, s5 = .pointer (some ⟨g, 0, none⟩) ∧ s6 = .int .i64 E ∧ Held ((g, 0, .int .i64 L) :: (g, 1, .int .i64 H) :: l) w0 w
/-- a Bool in a slot -/
def GotB (l : List (Nat × Nat × Value)) (w0 : World) (b : Bool) (s5 : Value) (w : World) : Prop := s5 = .bool b ∧ Held l w0 w
/-- two numbers in slots -/
def Got2 (l : List (Nat × Nat × Value)) (w0 : World) (x y : Int) (s5 s6 : Value) (w : World) : Prop := s5 = .int .i64 x ∧ s6 = .int .i64 y ∧ Held l w0 w
theorem l_eqInterval_same (a b : Int) (w : World) : Calls Try.prog 39 #[.agg #[.int .i64 a, .int .i64 b], .agg #[.int .i64 a, .int .i64 b]] w fun e w' => e = .returned (.bool true) ∧ Later w w' :=
  (l_eqInterval a b a b w).mono fun e w' ⟨h, k⟩ => ⟨h.trans (ret_b (by simp)), k⟩
end Go.Proofs.Ytdhoiiejcmnmbaa
namespace Go.Proofs.Ytdhoiiejcmnmbaa
open Go.RowKit
set_option maxHeartbeats 4000000
set_option linter.unusedVariables false
set_option linter.unusedSimpArgs false
set_option maxRecDepth 100000 in
theorem walk_FnExactEntryBounds (a : Option Addr) (n cap : Nat) (L : List Sg) (A : Option Addr) (m capF : Nat) (Z : List Int) (p : Int) (w : World) (hcap : n ≤ cap) (hs : Sgs w a n L) (u1 : IsRow .i64 w A m capF Z) (u2 : (Lit.int .i64 p).wf = true) :
    Calls Try.prog 15 #[.agg #[.slice a n cap], .slice A m capF, .int .i64 p] w fun e w' => e = .returned (.bool true) ∧ Later w w' := by
  have HS := Lib.hid hs
  have hn := hs.2.1
  have hcF := isRow_leE u1
  obtain ⟨F, hF⟩ : ∃ F, F = Z.take m := ⟨_, rfl⟩
  have HF := Lib.hid (isRow_sl u1)
  rw [← hF] at HF
  have hm := HF.out.2.1
  obtain ⟨hp, hp2⟩ := i64w u2
  clear hs u1 u2 hF
  have HMS := fun q1 q2 w h1 h2 => s_EntryBounds q1 n n L q2 m m F p w h1 h2 hp hp2
  have HMI := fun q1 q2 w h1 h2 => i_EntryBounds q1 n n L q2 m m F p w h1 h2 (Nat.le_refl _) (Nat.le_refl _)
  generalize ebL L F p = lo at *
  generalize ebH L F p = hi at *
  generalize ebE L F p = ce at *
  have e1 : (ce != ce) = false := by simp
  by_cases hbm : 1048576 < m
  · go_enter Try.func15, Try.ntmps15
    go_wp2
    go_ret
    exact ⟨rfl, (by repeat (first | (with_reducible exact Later.refl _) | (with_reducible exact Hid.out (by assumption)) | (with_reducible refine Later.alloc ?_ _) | (with_reducible refine Later.setCell ?_ (by simp; omega) _) | (with_reducible refine Later.setCell ?_ (by simp) _) | (with_reducible refine Later.drewN ?_ _) | (with_reducible refine Later.drew ?_) | (with_reducible refine Later.trans ?_ (Hid.out (by assumption)))))⟩
  by_cases hbig : 1048576 < n
  · have hz := Lib.hid (szI_big hbig)
    go_enter Try.func15, Try.ntmps15
    go_wp2_with (go_at_call 30; refine (l_szLayout a n cap _ hn).mono ?_; rw [hz.out]; rintro e w1 ⟨rfl, hb⟩; have H := Lib.hid hb; clear hb)
    go_ret
    exact ⟨rfl, (by repeat (first | (with_reducible exact Later.refl _) | (with_reducible exact Hid.out (by assumption)) | (with_reducible refine Later.alloc ?_ _) | (with_reducible refine Later.setCell ?_ (by simp; omega) _) | (with_reducible refine Later.setCell ?_ (by simp) _) | (with_reducible refine Later.drewN ?_ _) | (with_reducible refine Later.drew ?_) | (with_reducible refine Later.trans ?_ (Hid.out (by assumption)))))⟩
  have hle : n ≤ 1048576 := by omega
  have hlm : m ≤ 1048576 := by omega
  have HSZ := fun w => l_szLayout a n cap w hn
  rw [szI_ok hle] at HSZ
  clear hbig hbm
  go_enter Try.func15, Try.ntmps15
  go_upto_region 1 with (fail)
  refine into (Held [(w.heap.size, 0, .slice a n cap)] w) (held_box (held_start w) w.heap.size [.slice a n cap] _ rfl) ?_
  intro w1 h1
  have H1 := Lib.hid h1
  clear h1
  obtain ⟨k0, _⟩ := Held.s1 H1.out
  have zz0 := H1.out.lt (w.heap.size) 0 (.slice a n cap) (by simp)
  go_wp2_with fail
  refine (HSZ _).mono ?_
  rintro e w2 ⟨rfl, hb⟩
  have hb : Later w1 w2 := hb
  have H2 := Lib.hid (H1.out.later hb)
  skip
  clear hb k0
  obtain ⟨k0, _⟩ := Held.s1 H2.out
  have zz0 := H2.out.lt (w.heap.size) 0 (.slice a n cap) (by simp)
  go_wp2_with fail
  refine (l_toLayout a n cap L _ (HS.out.later H2.out.is) hle).mono ?_
  rintro e w3 ⟨g2, rfl, hg2, hr2, hb⟩
  have hb : Later w2 w3 := hb
  have H3 := Lib.hid (H2.out.later hb)
  have S2 := Lib.hid (hr2.sgs HS.out.1 (by omega) HS.out.2.2.2)
  clear hb k0 hr2 hg2
  obtain ⟨k0, _⟩ := Held.s1 H3.out
  have zz0 := H3.out.lt (w.heap.size) 0 (.slice a n cap) (by simp)
  go_wp2_with fail
  refine (l_toInt64S A m capF F _ (HF.out.later H3.out.is) hlm).mono ?_
  rintro e w4 ⟨g3, rfl, hg3, hr3, hs3, hb⟩
  have hb : Later w3 w4 := hb
  have H4 := Lib.hid (H3.out.later hb)
  have S2_4 := Lib.hid (S2.out.later hb)
  have F3 := Lib.hid hs3
  clear hb k0 hr3 hg3 hs3
  obtain ⟨k0, _⟩ := Held.s1 H4.out
  have zz0 := H4.out.lt (w.heap.size) 0 (.slice a n cap) (by simp)
  go_wp2_with fail
  refine (HMS _ _ _ S2_4.out F3.out).mono ?_
  rintro e w5 ⟨rfl, hb⟩
  have hb : Later w4 w5 := hb
  have H5 := Lib.hid (H4.out.later hb)
  have S2_4_5 := Lib.hid (S2_4.out.later hb)
  have F3_5 := Lib.hid (F3.out.later hb)
  skip
  clear hb k0
  obtain ⟨k0, _⟩ := Held.s1 H5.out
  have zz0 := H5.out.lt (w.heap.size) 0 (.slice a n cap) (by simp)
  go_wp2_with fail
  have HT : Hid (Held [(w5.heap.size, 0, .int .i64 lo), (w5.heap.size, 1, .int .i64 hi), (w.heap.size, 0, .slice a n cap)] w (w5.alloc (.cells #[.int .i64 lo, .int .i64 hi] 25))) := Lib.hid (held_box H5.out w5.heap.size [.int .i64 lo, .int .i64 hi] 25 rfl)
  refine (l_toLayout a n cap L _ (HS.out.later HT.out.is) hle).mono ?_
  rintro e w6 ⟨g5, rfl, hg5, hr5, hb⟩
  have hb : Later (w5.alloc (.cells #[.int .i64 lo, .int .i64 hi] 25)) w6 := hb
  have H6 := Lib.hid (HT.out.later hb)
  have S5 := Lib.hid (hr5.sgs HS.out.1 (by omega) HS.out.2.2.2)
  clear hb k0 hr5 hg5
  obtain ⟨k0, k1, k2, _⟩ := Held.s3 H6.out
  have zz0 := H6.out.lt (w5.heap.size) 0 (.int .i64 lo) (by simp)
  have zz1 := H6.out.lt (w.heap.size) 0 (.slice a n cap) (by simp)
  go_wp2_with fail
  have HT : Hid (Held [(w6.heap.size, 0, .slice (some ⟨g5, 0, none⟩) n n), (w5.heap.size, 0, .int .i64 lo), (w5.heap.size, 1, .int .i64 hi), (w.heap.size, 0, .slice a n cap)] w (w6.alloc (.cells #[.slice (some ⟨g5, 0, none⟩) n n] 47))) := Lib.hid (held_box H6.out w6.heap.size [.slice (some ⟨g5, 0, none⟩) n n] 47 rfl)
  refine (l_toInt64S A m capF F _ (HF.out.later HT.out.is) hlm).mono ?_
  rintro e w7 ⟨g6, rfl, hg6, hr6, hs6, hb⟩
  have hb : Later (w6.alloc (.cells #[.slice (some ⟨g5, 0, none⟩) n n] 47)) w7 := hb
  have H7 := Lib.hid (HT.out.later hb)
  have S5_7 := Lib.hid ((S5.out.later ((Later.refl _).alloc _)).later hb)
  have F6 := Lib.hid hs6
  clear hb k0 k1 k2 hr6 hg6 hs6
  obtain ⟨k0, k1, k2, k3, _⟩ := Held.s4 H7.out
  have zz0 := H7.out.lt (w6.heap.size) 0 (.slice (some ⟨g5, 0, none⟩) n n) (by simp)
  have zz1 := H7.out.lt (w5.heap.size) 0 (.int .i64 lo) (by simp)
  have zz2 := H7.out.lt (w.heap.size) 0 (.slice a n cap) (by simp)
  go_wp2_with fail
  refine (HMI _ _ _ S5_7.out F6.out).mono ?_
  rintro e w8 ⟨rfl, hb⟩
  have hb : Later w7 w8 := hb
  have H8 := Lib.hid (H7.out.later hb)
  have S5_7_8 := Lib.hid (S5_7.out.later hb)
  have F6_8 := Lib.hid (F6.out.later hb)
  skip
  clear hb k0 k1 k2 k3
  obtain ⟨k0, k1, k2, k3, _⟩ := Held.s4 H8.out
  have zz0 := H8.out.lt (w6.heap.size) 0 (.slice (some ⟨g5, 0, none⟩) n n) (by simp)
  have zz1 := H8.out.lt (w5.heap.size) 0 (.int .i64 lo) (by simp)
  have zz2 := H8.out.lt (w.heap.size) 0 (.slice a n cap) (by simp)
  go_wp2_with fail
  have HT : Hid (Held [(w8.heap.size, 0, .int .i64 lo), (w8.heap.size, 1, .int .i64 hi), (w6.heap.size, 0, .slice (some ⟨g5, 0, none⟩) n n), (w5.heap.size, 0, .int .i64 lo), (w5.heap.size, 1, .int .i64 hi), (w.heap.size, 0, .slice a n cap)] w (w8.alloc (.cells #[.int .i64 lo, .int .i64 hi] 25))) := Lib.hid (held_box H8.out w8.heap.size [.int .i64 lo, .int .i64 hi] 25 rfl)
  refine (l_eqInterval_same _ _ _).mono ?_
  rintro e w9 ⟨rfl, hb⟩
  have hb : Later (w8.alloc (.cells #[.int .i64 lo, .int .i64 hi] 25)) w9 := hb
  have H9 := Lib.hid (HT.out.later hb)
  have S5_7_8_9 := Lib.hid ((S5_7_8.out.later ((Later.refl _).alloc _)).later hb)
  have F6_8_9 := Lib.hid ((F6_8.out.later ((Later.refl _).alloc _)).later hb)
  skip
  clear hb k0 k1 k2 k3
  obtain ⟨k0, k1, k2, k3, k4, k5, _⟩ := Held.s6 H9.out
  have zz0 := H9.out.lt (w8.heap.size) 0 (.int .i64 lo) (by simp)
  have zz1 := H9.out.lt (w6.heap.size) 0 (.slice (some ⟨g5, 0, none⟩) n n) (by simp)
  have zz2 := H9.out.lt (w5.heap.size) 0 (.int .i64 lo) (by simp)
  have zz3 := H9.out.lt (w.heap.size) 0 (.slice a n cap) (by simp)
  go_wp2_with fail
  go_region_held3 (fun w' => w'.cell? ⟨w8.heap.size, 0, none⟩ = some (.int .i64 lo) ∧ w'.cell? ⟨w8.heap.size, 1, none⟩ = some (.int .i64 hi) ∧ w'.cell? ⟨w6.heap.size, 0, none⟩ = some (.slice (some ⟨g5, 0, none⟩) n n) ∧ w'.cell? ⟨w5.heap.size, 0, none⟩ = some (.int .i64 lo) ∧ w'.cell? ⟨w5.heap.size, 1, none⟩ = some (.int .i64 hi) ∧ w'.cell? ⟨w.heap.size, 0, none⟩ = some (.slice a n cap) ∧ Held [(w8.heap.size, 0, .int .i64 lo), (w8.heap.size, 1, .int .i64 hi), (w6.heap.size, 0, .slice (some ⟨g5, 0, none⟩) n n), (w5.heap.size, 0, .int .i64 lo), (w5.heap.size, 1, .int .i64 hi), (w.heap.size, 0, .slice a n cap)] w w') (exact Held.s6 (Held.later H9.out (by repeat (first | exact Later.refl _ | refine Later.drew ?_ | refine Later.drewN ?_ _ | refine Later.alloc ?_ _ | refine Later.trans ?_ (Hid.out (by assumption))))))
    (first
      | (go_at_call 32; refine (l_toLayout a n cap L _ (HS.out.later (Held.is (Held.later H9.out (by repeat (first | exact Later.refl _ | refine Later.drew ?_ | refine Later.drewN ?_ _ | refine Later.alloc ?_ _ | refine Later.trans ?_ (Hid.out (by assumption))))))) hle).mono ?_; rintro e wp ⟨gp, rfl, hgp, hrp, hbp⟩; have HP := Lib.hid hbp; have SP := Lib.hid (hrp.sgs HS.out.1 (by omega) HS.out.2.2.2); clear hbp hrp hgp)
      | (go_at_call 35; refine (l_eqLayout_same _ _ n n n n L _ (S5_7_8_9.out.later (by repeat (first | exact Later.refl _ | refine Later.drew ?_ | refine Later.drewN ?_ _ | refine Later.alloc ?_ _ | refine Later.trans ?_ (Hid.out (by assumption))))) (SP.out.later (by repeat (first | exact Later.refl _ | refine Later.drew ?_ | refine Later.drewN ?_ _ | refine Later.alloc ?_ _ | refine Later.trans ?_ (Hid.out (by assumption)))))).mono ?_; rintro e wq ⟨rfl, hbq⟩; have HQ := Lib.hid hbq; clear hbq))
  all_goals
    go_wp2_with fail
    refine calls_into (fun W => Later w9 W) (by repeat (first | exact Later.refl _ | refine Later.drew ?_ | refine Later.drewN ?_ _ | refine Later.alloc ?_ _ | refine Later.trans ?_ (Hid.out (by assumption)))) ?_
    intro W hb
    have WW : Hid (Later w W) := Lib.hid (H9.out.is.trans hb)
    have FW := Lib.hid (F6_8_9.out.later hb)
    clear hb
    refine (l_toInt64S A m capF F _ (HF.out.later WW.out) hlm).mono ?_
    rintro e w10 ⟨g10, rfl, hg10, hr10, hs10, hb⟩
    have hb : Later W w10 := hb
    have W10 : Hid (Later w w10) := Lib.hid (WW.out.trans hb)
    have F10 := Lib.hid hs10
    have G10 := Lib.hid (FW.out.later hb)
    clear hb hg10 hr10 hs10
    go_wp2_with fail
    refine (l_eqIE _ _ m m m m F _ G10.out F10.out).mono ?_
    rintro e w11 ⟨rfl, hb⟩
    have W11 : Hid (Later w w11) := Lib.hid (W10.out.trans hb)
    clear hb
    go_wp2_with fail
    go_ret
    exact ⟨rfl, W11.out⟩
set_option maxRecDepth 100000 in
theorem walk_FnExactMayEnter (a : Option Addr) (n cap : Nat) (L : List Sg) (A : Option Addr) (m capF : Nat) (Z : List Int) (p : Int) (x y : Int) (w : World) (hcap : n ≤ cap) (hs : Sgs w a n L) (u1 : IsRow .i64 w A m capF Z) (u2 : (Lit.int .i64 p).wf = true) (u3 : (Lit.int .i64 x).wf = true) (u4 : (Lit.int .i64 y).wf = true) :
    Calls Try.prog 16 #[.agg #[.slice a n cap], .slice A m capF, .int .i64 p, .agg #[.int .i64 x, .int .i64 y]] w fun e w' => e = .returned (.bool true) ∧ Later w w' := by
  have HS := Lib.hid hs
  have hn := hs.2.1
  have hcF := isRow_leE u1
  obtain ⟨F, hF⟩ : ∃ F, F = Z.take m := ⟨_, rfl⟩
  have HF := Lib.hid (isRow_sl u1)
  rw [← hF] at HF
  have hm := HF.out.2.1
  obtain ⟨hp, hp2⟩ := i64w u2
  clear hs u1 u2 hF
  clear u3 u4
  have HMS := fun q1 q2 w h1 h2 => s_MayEnter q1 n n L q2 m m F p x y w h1 h2 hp hp2
  have HMI := fun q1 q2 w h1 h2 => i_MayEnter q1 n n L q2 m m F p x y w h1 h2 (Nat.le_refl _) (Nat.le_refl _)
  generalize meB L F p x y = rv at *
  generalize meE L F p x y = ce at *
  have e0 : (rv != rv) = false := by simp
  have e1 : (ce != ce) = false := by simp
  by_cases hbm : 1048576 < m
  · go_enter Try.func16, Try.ntmps16
    go_wp2
    go_ret
    exact ⟨rfl, (by repeat (first | (with_reducible exact Later.refl _) | (with_reducible exact Hid.out (by assumption)) | (with_reducible refine Later.alloc ?_ _) | (with_reducible refine Later.setCell ?_ (by simp; omega) _) | (with_reducible refine Later.setCell ?_ (by simp) _) | (with_reducible refine Later.drewN ?_ _) | (with_reducible refine Later.drew ?_) | (with_reducible refine Later.trans ?_ (Hid.out (by assumption)))))⟩
  by_cases hbig : 1048576 < n
  · have hz := Lib.hid (szI_big hbig)
    go_enter Try.func16, Try.ntmps16
    go_wp2_with (go_at_call 30; refine (l_szLayout a n cap _ hn).mono ?_; rw [hz.out]; rintro e w1 ⟨rfl, hb⟩; have H := Lib.hid hb; clear hb)
    go_ret
    exact ⟨rfl, (by repeat (first | (with_reducible exact Later.refl _) | (with_reducible exact Hid.out (by assumption)) | (with_reducible refine Later.alloc ?_ _) | (with_reducible refine Later.setCell ?_ (by simp; omega) _) | (with_reducible refine Later.setCell ?_ (by simp) _) | (with_reducible refine Later.drewN ?_ _) | (with_reducible refine Later.drew ?_) | (with_reducible refine Later.trans ?_ (Hid.out (by assumption)))))⟩
  have hle : n ≤ 1048576 := by omega
  have hlm : m ≤ 1048576 := by omega
  have HSZ := fun w => l_szLayout a n cap w hn
  rw [szI_ok hle] at HSZ
  clear hbig hbm
  go_enter Try.func16, Try.ntmps16
  go_upto_region 1 with (fail)
  refine into (Held [(w.heap.size + 1, 0, .int .i64 x), (w.heap.size + 1, 1, .int .i64 y), (w.heap.size, 0, .slice a n cap)] w) (held_box (held_box (held_start w) w.heap.size [.slice a n cap] _ rfl) (w.heap.size + 1) [.int .i64 x, .int .i64 y] _ (by simp)) ?_
  intro w1 h1
  have H1 := Lib.hid h1
  clear h1
  obtain ⟨k0, k1, k2, _⟩ := Held.s3 H1.out
  have zz0 := H1.out.lt (w.heap.size + 1) 0 (.int .i64 x) (by simp)
  have zz1 := H1.out.lt (w.heap.size) 0 (.slice a n cap) (by simp)
  go_wp2_with fail
  refine (HSZ _).mono ?_
  rintro e w2 ⟨rfl, hb⟩
  have hb : Later w1 w2 := hb
  have H2 := Lib.hid (H1.out.later hb)
  skip
  clear hb k0 k1 k2
  go_wp2_with fail
  go_cut [10, 11] (fun s1 s2 W => s1 = .bool rv ∧ s2 = .int .i64 ce ∧ Held [(w.heap.size + 1, 0, .int .i64 x), (w.heap.size + 1, 1, .int .i64 y), (w.heap.size, 0, .slice a n cap)] w W)
  case first =>
    go_region_held3 (fun w' => w'.cell? ⟨w.heap.size + 1, 0, none⟩ = some (.int .i64 x) ∧ w'.cell? ⟨w.heap.size + 1, 1, none⟩ = some (.int .i64 y) ∧ w'.cell? ⟨w.heap.size, 0, none⟩ = some (.slice a n cap) ∧ Held [(w.heap.size + 1, 0, .int .i64 x), (w.heap.size + 1, 1, .int .i64 y), (w.heap.size, 0, .slice a n cap)] w w') (exact Held.s3 (Held.later H2.out (by repeat (first | exact Later.refl _ | refine Later.drew ?_ | refine Later.drewN ?_ _ | refine Later.alloc ?_ _ | refine Later.trans ?_ (Hid.out (by assumption))))))
      (first
        | (go_at_call 32; refine (l_toLayout a n cap L _ (HS.out.later (Held.is (Held.later H2.out (by repeat (first | exact Later.refl _ | refine Later.drew ?_ | refine Later.drewN ?_ _ | refine Later.alloc ?_ _ | refine Later.trans ?_ (Hid.out (by assumption))))))) hle).mono ?_; rintro e wp ⟨gp, rfl, hgp, hrp, hbp⟩; have HP := Lib.hid hbp; have SP := Lib.hid (hrp.sgs HS.out.1 (by omega) HS.out.2.2.2); clear hbp hrp hgp)
        | (go_at_call 33; refine (l_toInt64S A m capF F _ (HF.out.later (Held.is (Held.later H2.out (by repeat (first | exact Later.refl _ | refine Later.drew ?_ | refine Later.drewN ?_ _ | refine Later.alloc ?_ _ | refine Later.trans ?_ (Hid.out (by assumption))))))) hlm).mono ?_; rintro e wi ⟨gi, rfl, hgi, hri, hsi, hbi⟩; have HI : Hid (Later _ wi) := Lib.hid hbi; have FI := Lib.hid hsi; clear hbi hri hgi hsi)
        | (go_at_call 38; refine (l_toInterval _ _ _).mono ?_; rintro e wt ⟨rfl, hbt⟩; have HT := Lib.hid hbt; clear hbt)
        | (go_at_call 53; refine (HMS _ _ _ (SP.out.later (by repeat (first | exact Later.refl _ | refine Later.drew ?_ | refine Later.drewN ?_ _ | refine Later.alloc ?_ _ | refine Later.trans ?_ (Hid.out (by assumption))))) (FI.out.later (by repeat (first | exact Later.refl _ | refine Later.drew ?_ | refine Later.drewN ?_ _ | refine Later.alloc ?_ _ | refine Later.trans ?_ (Hid.out (by assumption)))))).mono ?_; rintro e wq ⟨rfl, hbq⟩; have HQ := Lib.hid hbq; clear hbq))
    all_goals
      go_wp2_with fail
      go_meet
      exact ⟨rfl, rfl, Held.later H2.out (by repeat (first | exact Later.refl _ | refine Later.drew ?_ | refine Later.drewN ?_ _ | refine Later.alloc ?_ _ | refine Later.trans ?_ (Hid.out (by assumption))))⟩
  case rest =>
    obtain ⟨rfl, rfl, h9⟩ := hcut
    obtain ⟨w3, rfl⟩ : ∃ w3, w3 = wc := ⟨_, rfl⟩
    have H3 := Lib.hid h9
    clear h9
    obtain ⟨k0, k1, k2, _⟩ := Held.s3 H3.out
    have zz0 := H3.out.lt (w.heap.size + 1) 0 (.int .i64 x) (by simp)
    have zz1 := H3.out.lt (w.heap.size) 0 (.slice a n cap) (by simp)
    go_wp2_with fail
    refine (l_toLayout a n cap L _ (HS.out.later H3.out.is) hle).mono ?_
    rintro e w4 ⟨g5, rfl, hg5, hr5, hb⟩
    have hb : Later w3 w4 := hb
    have H4 := Lib.hid (H3.out.later hb)
    have S5 := Lib.hid (hr5.sgs HS.out.1 (by omega) HS.out.2.2.2)
    clear hb k0 k1 k2 hr5 hg5
    obtain ⟨k0, k1, k2, _⟩ := Held.s3 H4.out
    have zz0 := H4.out.lt (w.heap.size + 1) 0 (.int .i64 x) (by simp)
    have zz1 := H4.out.lt (w.heap.size) 0 (.slice a n cap) (by simp)
    go_wp2_with fail
    have HT : Hid (Held [(w4.heap.size, 0, .slice (some ⟨g5, 0, none⟩) n n), (w.heap.size + 1, 0, .int .i64 x), (w.heap.size + 1, 1, .int .i64 y), (w.heap.size, 0, .slice a n cap)] w (w4.alloc (.cells #[.slice (some ⟨g5, 0, none⟩) n n] 47))) := Lib.hid (held_box H4.out w4.heap.size [.slice (some ⟨g5, 0, none⟩) n n] 47 rfl)
    refine (l_toInt64S A m capF F _ (HF.out.later HT.out.is) hlm).mono ?_
    rintro e w5 ⟨g6, rfl, hg6, hr6, hs6, hb⟩
    have hb : Later (w4.alloc (.cells #[.slice (some ⟨g5, 0, none⟩) n n] 47)) w5 := hb
    have H5 := Lib.hid (HT.out.later hb)
    have S5_5 := Lib.hid ((S5.out.later ((Later.refl _).alloc _)).later hb)
    have F6 := Lib.hid hs6
    clear hb k0 k1 k2 hr6 hg6 hs6
    obtain ⟨k0, k1, k2, k3, _⟩ := Held.s4 H5.out
    have zz0 := H5.out.lt (w4.heap.size) 0 (.slice (some ⟨g5, 0, none⟩) n n) (by simp)
    have zz1 := H5.out.lt (w.heap.size + 1) 0 (.int .i64 x) (by simp)
    have zz2 := H5.out.lt (w.heap.size) 0 (.slice a n cap) (by simp)
    go_upto_region 10 with (fail)
    go_cut [14, 15] (fun s1 s2 W => s1 = .bool rv ∧ s2 = .int .i64 ce ∧ Held [(w4.heap.size, 0, .slice (some ⟨g5, 0, none⟩) n n), (w.heap.size + 1, 0, .int .i64 x), (w.heap.size + 1, 1, .int .i64 y), (w.heap.size, 0, .slice a n cap)] w W ∧ Later w5 W)
    case first =>
      go_region_held3 (fun w' => w'.cell? ⟨w4.heap.size, 0, none⟩ = some (.slice (some ⟨g5, 0, none⟩) n n) ∧ w'.cell? ⟨w.heap.size + 1, 0, none⟩ = some (.int .i64 x) ∧ w'.cell? ⟨w.heap.size + 1, 1, none⟩ = some (.int .i64 y) ∧ w'.cell? ⟨w.heap.size, 0, none⟩ = some (.slice a n cap) ∧ Held [(w4.heap.size, 0, .slice (some ⟨g5, 0, none⟩) n n), (w.heap.size + 1, 0, .int .i64 x), (w.heap.size + 1, 1, .int .i64 y), (w.heap.size, 0, .slice a n cap)] w w') (exact Held.s4 (Held.later H5.out (by repeat (first | exact Later.refl _ | refine Later.drew ?_ | refine Later.drewN ?_ _ | refine Later.alloc ?_ _ | refine Later.trans ?_ (Hid.out (by assumption))))))
        (first
          | (go_at_call 38; refine (l_toInterval _ _ _).mono ?_; rintro e wt ⟨rfl, hbt⟩; have HT := Lib.hid hbt; clear hbt)
          | (go_at_call 51; refine (HMI _ _ _ (S5_5.out.later (by repeat (first | exact Later.refl _ | refine Later.drew ?_ | refine Later.drewN ?_ _ | refine Later.alloc ?_ _ | refine Later.trans ?_ (Hid.out (by assumption))))) (F6.out.later (by repeat (first | exact Later.refl _ | refine Later.drew ?_ | refine Later.drewN ?_ _ | refine Later.alloc ?_ _ | refine Later.trans ?_ (Hid.out (by assumption)))))).mono ?_; rintro e wq ⟨rfl, hbq⟩; have HQ := Lib.hid hbq; clear hbq))
      all_goals
        go_wp2_with fail
        go_meet
        exact ⟨rfl, rfl, Held.later H5.out (by repeat (first | exact Later.refl _ | refine Later.drew ?_ | refine Later.drewN ?_ _ | refine Later.alloc ?_ _ | refine Later.trans ?_ (Hid.out (by assumption)))), (by repeat (first | exact Later.refl _ | refine Later.drew ?_ | refine Later.drewN ?_ _ | refine Later.alloc ?_ _ | refine Later.trans ?_ (Hid.out (by assumption))))⟩
    case rest =>
      obtain ⟨rfl, rfl, h9, hl9⟩ := hcut
      clear k0 k1 k2 k3
      obtain ⟨w6, rfl⟩ : ∃ w6, w6 = wc := ⟨_, rfl⟩
      have H6 := Lib.hid h9
      have S5_5_6 := Lib.hid (S5_5.out.later hl9)
      have F6_6 := Lib.hid (F6.out.later hl9)
      clear h9 hl9
      obtain ⟨k0, k1, k2, k3, _⟩ := Held.s4 H6.out
      have zz0 := H6.out.lt (w4.heap.size) 0 (.slice (some ⟨g5, 0, none⟩) n n) (by simp)
      have zz1 := H6.out.lt (w.heap.size + 1) 0 (.int .i64 x) (by simp)
      have zz2 := H6.out.lt (w.heap.size) 0 (.slice a n cap) (by simp)
      go_wp2_with fail
      go_region_held3 (fun w' => w'.cell? ⟨w4.heap.size, 0, none⟩ = some (.slice (some ⟨g5, 0, none⟩) n n) ∧ w'.cell? ⟨w.heap.size + 1, 0, none⟩ = some (.int .i64 x) ∧ w'.cell? ⟨w.heap.size + 1, 1, none⟩ = some (.int .i64 y) ∧ w'.cell? ⟨w.heap.size, 0, none⟩ = some (.slice a n cap) ∧ Held [(w4.heap.size, 0, .slice (some ⟨g5, 0, none⟩) n n), (w.heap.size + 1, 0, .int .i64 x), (w.heap.size + 1, 1, .int .i64 y), (w.heap.size, 0, .slice a n cap)] w w') (exact Held.s4 (Held.later H6.out (by repeat (first | exact Later.refl _ | refine Later.drew ?_ | refine Later.drewN ?_ _ | refine Later.alloc ?_ _ | refine Later.trans ?_ (Hid.out (by assumption))))))
        (first
          | (go_at_call 32; refine (l_toLayout a n cap L _ (HS.out.later (Held.is (Held.later H6.out (by repeat (first | exact Later.refl _ | refine Later.drew ?_ | refine Later.drewN ?_ _ | refine Later.alloc ?_ _ | refine Later.trans ?_ (Hid.out (by assumption))))))) hle).mono ?_; rintro e wp ⟨gp, rfl, hgp, hrp, hbp⟩; have HP := Lib.hid hbp; have SP := Lib.hid (hrp.sgs HS.out.1 (by omega) HS.out.2.2.2); clear hbp hrp hgp)
          | (go_at_call 35; refine (l_eqLayout_same _ _ n n n n L _ (S5_5_6.out.later (by repeat (first | exact Later.refl _ | refine Later.drew ?_ | refine Later.drewN ?_ _ | refine Later.alloc ?_ _ | refine Later.trans ?_ (Hid.out (by assumption))))) (SP.out.later (by repeat (first | exact Later.refl _ | refine Later.drew ?_ | refine Later.drewN ?_ _ | refine Later.alloc ?_ _ | refine Later.trans ?_ (Hid.out (by assumption)))))).mono ?_; rintro e wq ⟨rfl, hbq⟩; have HQ := Lib.hid hbq; clear hbq))
      all_goals
        go_wp2_with fail
        refine calls_into (fun W => Later w6 W) (by repeat (first | exact Later.refl _ | refine Later.drew ?_ | refine Later.drewN ?_ _ | refine Later.alloc ?_ _ | refine Later.trans ?_ (Hid.out (by assumption)))) ?_
        intro W hb
        have WW : Hid (Later w W) := Lib.hid (H6.out.is.trans hb)
        have FW := Lib.hid (F6_6.out.later hb)
        clear hb
        refine (l_toInt64S A m capF F _ (HF.out.later WW.out) hlm).mono ?_
        rintro e w10 ⟨g10, rfl, hg10, hr10, hs10, hb⟩
        have hb : Later W w10 := hb
        have W10 : Hid (Later w w10) := Lib.hid (WW.out.trans hb)
        have F10 := Lib.hid hs10
        have G10 := Lib.hid (FW.out.later hb)
        clear hb hg10 hr10 hs10
        go_wp2_with fail
        refine (l_eqIE _ _ m m m m F _ G10.out F10.out).mono ?_
        rintro e w11 ⟨rfl, hb⟩
        have W11 : Hid (Later w w11) := Lib.hid (W10.out.trans hb)
        clear hb
        go_wp2_with fail
        go_ret
        exact ⟨rfl, W11.out⟩
end Go.Proofs.Ytdhoiiejcmnmbaa
namespace Go.Proofs.Ytdhoiiejcmnmbaa
open Go.RowKit
set_option maxHeartbeats 4000000
set_option linter.unusedVariables false
set_option linter.unusedSimpArgs false
/-- what is known of a train that may enter -/
theorem may_facts {L : List Sg} {F : List Int} {b f h c n : Nat} {y : Sg} {R : List Sg} {p q : Int} (B : Bl L F b f h c n y R) (he : enB p q = true) (hm : meB L F b p q = true) :
    alE R p q c = 0 ∧ enB (p + clL R c) (q + clH R c) = true ∧ (brk y.k = true → 1 ≤ wkL y ∧ q + clH R c ≤ wkL y) := by
  unfold meB okK at hm
  simp at hm
  obtain ⟨_, ⟨h1, _⟩, h2, h3⟩ := hm
  have e1 : loK L F b = ndN R c := by unfold loK; rw [← B.Re, ← B.cn]
  rw [e1] at h2
  have hab := (enB_iff p q).1 he
  have hcl := fun j (hj : j ≤ c) => cl_bd R B.Rok j (by rw [B.Rl]; exact hj)
  have hhi : q ≤ hgK R c ∧ (brk y.k = true → q + clH R c ≤ wkL y) := by
    unfold hiK at h3
    rw [← B.ye, ← B.Re, ← B.cn] at h3
    split at h3
    · exact ⟨by omega, fun _ => by omega⟩
    · rename_i h; exact ⟨h3, fun h' => absurd h' h⟩
  have hal : alE R p q c = 0 := by
    unfold alE
    rw [fstB_zero]
    intro k hk
    unfold cdK codE
    have g1 := ndN_ge R c k hk
    have g2 := hgK_at R c k hk
    rw [if_neg (by omega), if_pos (by omega)]
  refine ⟨hal, ?_, fun hb => ⟨?_, hhi.2 hb⟩⟩
  · rw [enB_iff]
    have g1 := ndN_end R c
    have g2 := hgK_end R c
    have g3 := hcl c (Nat.le_refl _)
    omega
  · unfold slowB at h1
    rw [← B.ye, hb] at h1
    simpa using h1
/-- the last energy of a run -/
theorem fl_last (R : List Sg) (p q : Int) (c : Nat) : gx (flF R p q (c + 1)) (c * 2) = p + clL R (c + 1) ∧ gx (flF R p q (c + 1)) (c * 2 + 1) = q + clH R (c + 1) := by
  have hl := flF_len R p q c
  rw [flF_succ]
  refine ⟨?_, ?_⟩
  · unfold gx; simp [List.getElem?_append, hl]
  · unfold gx; simp [List.getElem?_append, hl] <;> (try rw [if_neg (by omega)]) <;> (try simp [show c * 2 + 1 - c * 2 = 1 by omega])
set_option maxRecDepth 100000 in
theorem i_stopInHolding (a : Option Addr) (n cap : Nat) (L : List Sg) (F : List Int) (b : Nat) (p q : Int) (w : World) (hs : Sgs w a n L) (hcn : n ≤ cap) (hv : layB L = true) (hk : bkC L F = true) (hb : b < F.length) (he : enB p q = true) (hm : meB L F b p q = true) :
    Calls Try.prog 101 #[.agg #[.slice a n cap], scV (sec L F b), .agg #[.int .i64 p, .int .i64 q]] w fun e w' => e = .returned (.int .i64 (sbH L F b q)) ∧ Later w w' := by
  obtain ⟨f, h, c, y, R, hB⟩ := bl_of hv hk hb hs.1
  have HSC : scV (sec L F b) = .agg #[.int .i64 b, .int .i64 f, .int .i64 h, .int .i64 (stK L F b), .int .i64 (lnK L F b)] := by
    unfold scV sec; rw [hB.end', hB.fe]; simp
  rw [HSC]
  have HS := Lib.hid hs; have HB := Lib.hid hB
  have hfh := hB.le; have hhn := hB.lt; have h24 := hB.n24
  have hch : c = h - f := hB.ce
  obtain ⟨m1, m2, m3⟩ := may_facts hB he hm
  have hcI : (h : Int) - f = (c : Int) := by omega
  have hsg : sgE L (f : Int) (c : Int) = 0 := by unfold sgE; rw [if_pos hv, if_pos]; have := hs.1; omega
  have eR : runS L f c = R := by rw [hB.Re, hB.fe, hB.cn]; rfl
  obtain ⟨n1, n2, n3⟩ := ea_fin he hsg (by rw [eR]; exact m1)
  rw [eR] at n3
  have HEA := fun w (h : Sgs w a n L) => i_EnergyAlong a n cap L (f : Int) (c : Int) p q w h
  unfold GivesI at HEA
  rw [n1, n2, n3, ← hcI] at HEA
  have HSB : Hid (sbH L F b q = if brk y.k = true then cei ((q + clH R c) * y.l) (wkL y) else y.l) := Lib.hid (by unfold sbH; rw [← hB.ye, ← hB.Re, ← hB.cn])
  have HSD := i_StoppingDistance y (p + clL R c) (q + clH R c)
  have hyk := hB.yk
  generalize stK L F b = st
  generalize lnK L F b = ln
  clear hs hB HSC hv hk n1 n2 n3 m1 hsg
  go_enter Try.func101, Try.ntmps101
  go_upto_region 1 with (fail)
  refine into (fun W => Held [(w.heap.size + 1, 0, .int .i64 b), (w.heap.size + 1, 1, .int .i64 f), (w.heap.size + 1, 2, .int .i64 h), (w.heap.size + 1, 3, .int .i64 st), (w.heap.size + 1, 4, .int .i64 ln), (w.heap.size, 0, .slice a n cap)] w W ∧ Fr (w.heap.size + 1 + 1) [.int .i64 p, .int .i64 q] W) ⟨?_, ?_⟩ ?_
  · exact (held_box (held_box (held_start w) w.heap.size [.slice a n cap] _ rfl) (w.heap.size + 1) [.int .i64 b, .int .i64 f, .int .i64 h, .int .i64 st, .int .i64 ln] _ (by simp)).alloc _
  · have F1 := fr_alloc (X := (w.alloc (.cells [Value.slice a n cap].toArray 47)).alloc (.cells [Value.int .i64 b, .int .i64 f, .int .i64 h, .int .i64 st, .int .i64 ln].toArray 106)) (l := [.int .i64 p, .int .i64 q]) (T := 25) (Later.refl _)
    simp only [World.size_alloc] at F1
    exact F1
  rintro W ⟨hW, hF⟩
  obtain ⟨u1, u2, u3, u4, u5, u6, _⟩ := Held.s6 hW
  obtain ⟨r1, r2, r3, r4⟩ := Fr.o2 hF
  have z1 := hW.lt (w.heap.size + 1) 0 (.int .i64 b) (by simp)
  have z0 := hW.lt w.heap.size 0 (.slice a n cap) (by simp)
  have z2 := hF.lt
  have HW := Lib.hid hW.is
  have FW := Lib.hid hF
  obtain ⟨b0, o0, rfl, hb0, hc7⟩ := (HS.out.later hW.is).at h hhn
  obtain ⟨c0, c1, c2, c3, c4, c5, c6⟩ := hc7
  rw [show sx L h = y by rw [HB.out.ye, HB.out.he]; rfl] at c0 c1 c2 c3 c4 c5 c6
  clear hW hF
  rcases hyk with k1 | k1
  · have hbk : brk y.k = false := by rw [brk_no]; omega
    have e1 : Hid (sbH L F b q = y.l) := Lib.hid (by rw [HSB.out, hbk]; rfl)
    have hk1 : (y.k == 1) = true := by simpa using k1
    clear k1 hbk
    go_wp2_with fail
    go_ret
    exact ⟨ret_i64 e1.out.symm, (by repeat (first | (with_reducible exact Later.refl _) | (with_reducible exact Hid.out (by assumption)) | (with_reducible refine Later.alloc ?_ _) | (with_reducible refine Later.setCell ?_ (by simp; omega) _) | (with_reducible refine Later.setCell ?_ (by simp) _) | (with_reducible refine Later.drewN ?_ _) | (with_reducible refine Later.drew ?_) | (with_reducible refine Later.trans ?_ (Hid.out (by assumption)))))⟩
  · have hbk : brk y.k = true := by rw [brk_iff]; exact k1
    obtain ⟨w1, w2⟩ := m3 hbk
    have hk1 : (y.k == 1) = false := by simp; omega
    have hsl : slE y = 0 := by
      have eb : brE y = 0 := by unfold brE; rw [if_pos HB.out.ysg, if_pos hbk]
      unfold slE; rw [if_pos eb, if_pos w1]
    have ed : dsE y (p + clL R c) (q + clH R c) = 0 := by unfold dsE; rw [if_pos m2, hsl]
    have eh : dsH y (p + clL R c) (q + clH R c) = cei ((q + clH R c) * y.l) (wkL y) := by unfold dsH; rw [ed]; rfl
    have e1 : Hid (sbH L F b q = cei ((q + clH R c) * y.l) (wkL y)) := Lib.hid (by rw [HSB.out, if_pos hbk])
    rw [ed, eh] at HSD
    generalize cei ((q + clH R c) * y.l) (wkL y) = D at *
    generalize dsL y (p + clL R c) (q + clH R c) = D0 at *
    clear k1 hbk w1 w2 hsl ed eh m2 m3
    have hwrp : IntKind.i64.wrap ((h : Int) - f) = (h : Int) - f := IntWalk.i64_in _ ⟨by omega, by omega⟩
    rcases Nat.eq_zero_or_pos c with hc0 | hc0
    · subst hc0
      rw [clL_0, clH_0, Int.add_zero, Int.add_zero] at HSD
      clear hcI hch eR
      go_wp2_with (first | (go_at_call 124; refine (HEA _ (HS.out.later (HW.out.trans (by repeat (first | (with_reducible exact Later.refl _) | (with_reducible exact Hid.out (by assumption)) | (with_reducible refine Later.alloc ?_ _) | (with_reducible refine Later.setCell ?_ (by simp; omega) _) | (with_reducible refine Later.setCell ?_ (by simp) _) | (with_reducible refine Later.drewN ?_ _) | (with_reducible refine Later.drew ?_) | (with_reducible refine Later.trans ?_ (Hid.out (by assumption)))))))).mono ?_; rintro e w6 ⟨v, rfl, ho, hb⟩; obtain ⟨ea, ec, rfl, hec, hwd, _⟩ := ho.wd; have WD := Lib.hid hwd; have FW6 := Lib.hid (fr_later FW.out (show Later W w6 from Later.trans (by repeat (first | (with_reducible exact Later.refl _) | (with_reducible exact Hid.out (by assumption)) | (with_reducible refine Later.alloc ?_ _) | (with_reducible refine Later.setCell ?_ (by simp; omega) _) | (with_reducible refine Later.setCell ?_ (by simp) _) | (with_reducible refine Later.drewN ?_ _) | (with_reducible refine Later.drew ?_) | (with_reducible refine Later.trans ?_ (Hid.out (by assumption))))) hb)); have HW6 : Hid (Later w w6) := Lib.hid (HW.out.trans (Later.trans (by repeat (first | (with_reducible exact Later.refl _) | (with_reducible exact Hid.out (by assumption)) | (with_reducible refine Later.alloc ?_ _) | (with_reducible refine Later.setCell ?_ (by simp; omega) _) | (with_reducible refine Later.setCell ?_ (by simp) _) | (with_reducible refine Later.drewN ?_ _) | (with_reducible refine Later.drew ?_) | (with_reducible refine Later.trans ?_ (Hid.out (by assumption))))) hb)); obtain ⟨H, hcc, hff, hzz⟩ := later_facts hb; clear hb ho hwd; (try simp only [World.size_alloc] at hzz); (try (have hy0 : w.heap.size < w6.heap.size := (by omega))); (try (have hy1 : w.heap.size + 1 < w6.heap.size := (by omega))); (try (have hy2 : w.heap.size + 1 + 1 < w6.heap.size := (by omega))); (try (have hy3 : W.heap.size < w6.heap.size := (by omega)))) | (go_at_call 41; refine (HSD _).mono ?_; rintro e w7 ⟨rfl, hb⟩; have H7 := Lib.hid hb; clear hb))
      go_ret
      exact ⟨ret_i64 e1.out.symm, (by repeat (first | (with_reducible exact Later.refl _) | (with_reducible exact Hid.out (by assumption)) | (with_reducible refine Later.alloc ?_ _) | (with_reducible refine Later.setCell ?_ (by simp; omega) _) | (with_reducible refine Later.setCell ?_ (by simp) _) | (with_reducible refine Later.drewN ?_ _) | (with_reducible refine Later.drew ?_) | (with_reducible refine Later.trans ?_ (Hid.out (by assumption)))))⟩
    · obtain ⟨k, rfl⟩ : ∃ k, c = k + 1 := ⟨c - 1, by omega⟩
      have fl := fl_last R p q k
      obtain ⟨N, hN⟩ : ∃ N, N = k + 1 := ⟨_, rfl⟩
      rw [← hN] at HEA HSD fl
      have hkN : k < N := by omega
      have hN1 : ((N : Nat) : Int) - 1 = (k : Int) := by omega
      have hN0 : 0 < N := by omega
      have hN24 : N ≤ 24 := by omega
      obtain ⟨fl1, fl2⟩ := fl
      generalize flF R p q N = E at *
      generalize p + clL R N = P at *
      generalize q + clH R N = Q at *
      clear hcI hch eR hN HB
      go_wp2_with (first | (go_at_call 124; refine (HEA _ (HS.out.later (HW.out.trans (by repeat (first | (with_reducible exact Later.refl _) | (with_reducible exact Hid.out (by assumption)) | (with_reducible refine Later.alloc ?_ _) | (with_reducible refine Later.setCell ?_ (by simp; omega) _) | (with_reducible refine Later.setCell ?_ (by simp) _) | (with_reducible refine Later.drewN ?_ _) | (with_reducible refine Later.drew ?_) | (with_reducible refine Later.trans ?_ (Hid.out (by assumption)))))))).mono ?_; rintro e w6 ⟨v, rfl, ho, hb⟩; obtain ⟨ea, ec, rfl, hec, hwd, _⟩ := ho.wd; have WD := Lib.hid hwd; have FW6 := Lib.hid (fr_later FW.out (show Later W w6 from Later.trans (by repeat (first | (with_reducible exact Later.refl _) | (with_reducible exact Hid.out (by assumption)) | (with_reducible refine Later.alloc ?_ _) | (with_reducible refine Later.setCell ?_ (by simp; omega) _) | (with_reducible refine Later.setCell ?_ (by simp) _) | (with_reducible refine Later.drewN ?_ _) | (with_reducible refine Later.drew ?_) | (with_reducible refine Later.trans ?_ (Hid.out (by assumption))))) hb)); have HW6 : Hid (Later w w6) := Lib.hid (HW.out.trans (Later.trans (by repeat (first | (with_reducible exact Later.refl _) | (with_reducible exact Hid.out (by assumption)) | (with_reducible refine Later.alloc ?_ _) | (with_reducible refine Later.setCell ?_ (by simp; omega) _) | (with_reducible refine Later.setCell ?_ (by simp) _) | (with_reducible refine Later.drewN ?_ _) | (with_reducible refine Later.drew ?_) | (with_reducible refine Later.trans ?_ (Hid.out (by assumption))))) hb)); obtain ⟨H, hcc, hff, hzz⟩ := later_facts hb; clear hb ho hwd; (try simp only [World.size_alloc] at hzz); (try (have hy0 : w.heap.size < w6.heap.size := (by omega))); (try (have hy1 : w.heap.size + 1 < w6.heap.size := (by omega))); (try (have hy2 : w.heap.size + 1 + 1 < w6.heap.size := (by omega))); (try (have hy3 : W.heap.size < w6.heap.size := (by omega))); obtain ⟨be, oe, rfl, g1, g2⟩ := WD.out.two k hkN; rw [fl1] at g1; rw [fl2] at g2; obtain ⟨r1, r2, r3, r4⟩ := Fr.o2 FW6.out) | (go_at_call 41; refine (HSD _).mono ?_; rintro e w7 ⟨rfl, hb⟩; have H7 := Lib.hid hb; clear hb))
      go_ret
      exact ⟨ret_i64 e1.out.symm, (by repeat (first | (with_reducible exact Later.refl _) | (with_reducible exact HW6.out) | (with_reducible refine Later.setCell ?_ (by simp <;> omega) _) | (with_reducible refine Later.drew ?_) | (with_reducible refine Later.alloc ?_ _) | (with_reducible refine Later.trans ?_ (Hid.out (by assumption)))))⟩
theorem sbH_bd {L : List Sg} {F : List Int} {b f h c n : Nat} {y : Sg} {R : List Sg} {p q : Int} (B : Bl L F b f h c n y R) (he : enB p q = true) (hm : meB L F b p q = true) : -4000000000000000 ≤ sbH L F b q ∧ sbH L F b q ≤ 4000000000000000 := by
  obtain ⟨_, m2, m3⟩ := may_facts B he hm
  have hl := ((sgB_iff y).1 B.ysg).2.1
  have he2 := (enB_iff _ _).1 m2
  have hw := wk_bd y B.ysg
  unfold sbH
  rw [← B.ye, ← B.Re, ← B.cn]
  split
  · rename_i hb
    have h1 := (m3 hb).1
    have hn := nn_mul (q + clH R c) y.l (by omega) (by omega) hl.1 hl.2
    rw [cei_nn _ _ hn.1 (by omega)]
    exact tdiv_bd _ _ 4000000000000000 (by omega) (by omega)
  · omega
theorem lnK_bd {L : List Sg} {F : List Int} {b f h c n : Nat} {y : Sg} {R : List Sg} (B : Bl L F b f h c n y R) (hn : L.length = n) : upL L h - upL L f + y.l = lnK L F b ∧ 0 ≤ lnK L F b ∧ lnK L F b ≤ 5000000 := by
  have e1 : lnK L F b = upL L (h + 1) - upL L f := by unfold lnK; rw [B.end', B.fe]
  have e2 := upL_succ L h (by have := B.lt; omega)
  rw [show sx L h = y by rw [B.ye, B.he]; rfl] at e2
  have hf := up_bd L f (by have := B.le; have := B.lt; omega) (okB_le L L.length f (by have := B.le; have := B.lt; omega) B.ok)
  have hh := up_bd L (h + 1) (by have := B.lt; omega) (okB_le L L.length (h + 1) (by have := B.lt; omega) B.ok)
  have hm := upL_mono L f (h + 1) (by have := B.le; omega) (by have := B.lt; omega) B.ok
  have h24 := B.n24; have hlt := B.lt
  omega
end Go.Proofs.Ytdhoiiejcmnmbaa
namespace Go.Proofs.Ytdhoiiejcmnmbaa
open Go.RowKit
set_option maxHeartbeats 4000000
set_option linter.unusedVariables false
set_option linter.unusedSimpArgs false
theorem meE_in {L : List Sg} {F : List Int} {p x y : Int} (h : meE L F p x y = 0) : enB x y = true ∧ fndE L F (isNo p) = 0 := by
  unfold meE at h
  cases he : enB x y
  · rw [he] at h; cases h
  · rw [he] at h; exact ⟨rfl, h⟩
set_option maxRecDepth 100000 in
theorem i_StopBound (a : Option Addr) (n cap : Nat) (L : List Sg) (A : Option Addr) (m capF : Nat) (F : List Int) (p x y : Int) (w : World) (hs : Sgs w a n L) (hf : Sl w A m F) (hcn : n ≤ cap) (hcF : m ≤ capF) :
    Calls Try.prog 55 #[.agg #[.slice a n cap], .slice A m capF, .int .i64 p, .agg #[.int .i64 x, .int .i64 y]] w fun e w' => e = .returned (.tuple #[.int .i64 (sbV L F p x y), .int .i64 (sbE L F p x y)]) ∧ Later w w' := by
  have HM := fun w h1 h2 => i_MayEnter a n cap L A m capF F p x y w h1 h2 hcn hcF
  have HC := fun w h1 h2 => i_sectionNumbered a n cap L A m capF F p w h1 h2 hcn hcF
  have HS := Lib.hid hs; have HF := Lib.hid hf
  by_cases h0 : meE L F p x y = 0
  · cases hb0 : meB L F p x y
    · have e1 : Hid (sbE L F p x y = 5) := Lib.hid (by unfold sbE; rw [if_pos h0, hb0]; rfl)
      have e2 : Hid (sbV L F p x y = 0) := Lib.hid (by unfold sbV; rw [e1.out]; rfl)
      rw [h0, hb0] at HM
      clear hs hf h0 hb0
      go_enter Try.func55, Try.ntmps55
      go_wp2_with (go_at_call 51; refine (HM _ (HS.out.later (by repeat (first | (with_reducible exact Later.refl _) | (with_reducible exact Hid.out (by assumption)) | (with_reducible refine Later.alloc ?_ _) | (with_reducible refine Later.setCell ?_ (by simp; omega) _) | (with_reducible refine Later.setCell ?_ (by simp) _) | (with_reducible refine Later.drewN ?_ _) | (with_reducible refine Later.drew ?_) | (with_reducible refine Later.trans ?_ (Hid.out (by assumption)))))) (HF.out.later (by repeat (first | (with_reducible exact Later.refl _) | (with_reducible exact Hid.out (by assumption)) | (with_reducible refine Later.alloc ?_ _) | (with_reducible refine Later.setCell ?_ (by simp; omega) _) | (with_reducible refine Later.setCell ?_ (by simp) _) | (with_reducible refine Later.drewN ?_ _) | (with_reducible refine Later.drew ?_) | (with_reducible refine Later.trans ?_ (Hid.out (by assumption))))))).mono ?_; rintro e w1 ⟨rfl, hb⟩; obtain ⟨H, hcc, hff, hzz⟩ := later_facts hb; clear hb; (try simp at hzz))
      go_ret2
      exact ⟨ret_2i e2.out.symm e1.out.symm, (by repeat (first | (with_reducible exact Later.refl _) | (with_reducible exact Hid.out (by assumption)) | (with_reducible refine Later.alloc ?_ _) | (with_reducible refine Later.setCell ?_ (by simp; omega) _) | (with_reducible refine Later.setCell ?_ (by simp) _) | (with_reducible refine Later.drewN ?_ _) | (with_reducible refine Later.drew ?_) | (with_reducible refine Later.trans ?_ (Hid.out (by assumption)))))⟩
    · obtain ⟨he, hf0⟩ := meE_in h0
      have e1 : Hid (sbE L F p x y = 0) := Lib.hid (by unfold sbE; rw [if_pos h0, hb0]; rfl)
      rw [h0, hb0] at HM
      obtain ⟨b, rfl, hbl, hv, hk, hsec⟩ := isNo_cases hf0
      rw [hf0, hsec] at HC
      obtain ⟨f, h, c, z, R, hB⟩ := bl_of hv hk hbl hs.1
      have HT := fun w (h1 : Sgs w a n L) => i_stopInHolding a n cap L F b x y w h1 hcn hv hk hbl he hb0
      have hbd := sbH_bd hB he hb0
      obtain ⟨l1, l2, l3⟩ := lnK_bd hB hs.1
      have e2 : Hid (sbV L F b x y = lnK L F b - z.l + sbH L F b y) := Lib.hid (by unfold sbV; rw [e1.out, ← l1]; show upL L (hoK L F b) - upL L (fstK F b) + sbH L F b y = _; rw [← hB.he, ← hB.fe]; omega)
      have hzl := ((sgB_iff z).1 hB.ysg).2.1
      have HSC : scV (sec L F b) = .agg #[.int .i64 b, .int .i64 f, .int .i64 h, .int .i64 (stK L F b), .int .i64 (lnK L F b)] := by
        unfold scV sec; rw [hB.end', hB.fe]; simp
      rw [HSC] at HC HT
      have HB := Lib.hid hB
      have hhn := hB.lt; have h24 := hB.n24
      generalize sbH L F b y = D at *
      generalize stK L F b = st at *
      generalize lnK L F b = ln at *
      clear hs hf h0 hb0 hf0 hsec hB HSC hv hk he l1
      go_enter Try.func55, Try.ntmps55
      go_upto_region 1 with (fail)
      refine into (Held [(w.heap.size + 1, 0, .int .i64 x), (w.heap.size + 1, 1, .int .i64 y), (w.heap.size, 0, .slice a n cap)] w) (held_box (held_box (held_start w) w.heap.size [.slice a n cap] _ rfl) (w.heap.size + 1) [.int .i64 x, .int .i64 y] _ (by simp)) ?_
      intro W hW
      obtain ⟨k0, k1, k2, _⟩ := Held.s3 hW
      have z0 := hW.lt w.heap.size 0 (.slice a n cap) (by simp)
      have z1 := hW.lt (w.heap.size + 1) 0 (.int .i64 x) (by simp)
      have HW := Lib.hid hW
      clear hW
      go_wp2_with (first
          | (go_at_call 51; refine (HM _ (HS.out.later (HW.out.is.trans (by repeat (first | (with_reducible exact Later.refl _) | (with_reducible exact Hid.out (by assumption)) | (with_reducible refine Later.alloc ?_ _) | (with_reducible refine Later.setCell ?_ (by simp; omega) _) | (with_reducible refine Later.setCell ?_ (by simp) _) | (with_reducible refine Later.drewN ?_ _) | (with_reducible refine Later.drew ?_) | (with_reducible refine Later.trans ?_ (Hid.out (by assumption))))))) (HF.out.later (HW.out.is.trans (by repeat (first | (with_reducible exact Later.refl _) | (with_reducible exact Hid.out (by assumption)) | (with_reducible refine Later.alloc ?_ _) | (with_reducible refine Later.setCell ?_ (by simp; omega) _) | (with_reducible refine Later.setCell ?_ (by simp) _) | (with_reducible refine Later.drewN ?_ _) | (with_reducible refine Later.drew ?_) | (with_reducible refine Later.trans ?_ (Hid.out (by assumption)))))))).mono ?_; rintro e w1 ⟨rfl, hb⟩; have H1 : Hid (Later W w1) := Lib.hid (Later.trans (by repeat (first | (with_reducible exact Later.refl _) | (with_reducible exact Hid.out (by assumption)) | (with_reducible refine Later.alloc ?_ _) | (with_reducible refine Later.setCell ?_ (by simp; omega) _) | (with_reducible refine Later.setCell ?_ (by simp) _) | (with_reducible refine Later.drewN ?_ _) | (with_reducible refine Later.drew ?_) | (with_reducible refine Later.trans ?_ (Hid.out (by assumption))))) hb); obtain ⟨H, hcc, hff, hzz⟩ := later_facts hb; clear hb; (try simp only [World.size_alloc] at hzz); have hy0 : w.heap.size < w1.heap.size := (by omega); have hy1 : w.heap.size + 1 < w1.heap.size := (by omega))
          | (go_at_call 93; refine (HC _ (HS.out.later (HW.out.is.trans (by repeat (first | (with_reducible exact Later.refl _) | (with_reducible exact Hid.out (by assumption)) | (with_reducible refine Later.alloc ?_ _) | (with_reducible refine Later.setCell ?_ (by simp; omega) _) | (with_reducible refine Later.setCell ?_ (by simp) _) | (with_reducible refine Later.drewN ?_ _) | (with_reducible refine Later.drew ?_) | (with_reducible refine Later.trans ?_ (Hid.out (by assumption))))))) (HF.out.later (HW.out.is.trans (by repeat (first | (with_reducible exact Later.refl _) | (with_reducible exact Hid.out (by assumption)) | (with_reducible refine Later.alloc ?_ _) | (with_reducible refine Later.setCell ?_ (by simp; omega) _) | (with_reducible refine Later.setCell ?_ (by simp) _) | (with_reducible refine Later.drewN ?_ _) | (with_reducible refine Later.drew ?_) | (with_reducible refine Later.trans ?_ (Hid.out (by assumption)))))))).mono ?_; rintro e w2 ⟨rfl, hb⟩; have H2 : Hid (Later W w2) := Lib.hid (H1.out.trans hb); obtain ⟨H, hcc, hff, hzz⟩ := later_facts hb; clear hb; (try simp only [World.size_alloc] at hzz); have hy0 : w.heap.size < w2.heap.size := (by omega); have hy1 : w.heap.size + 1 < w2.heap.size := (by omega)))
      have h8 : Held [(w2.heap.size, 0, .int .i64 b), (w2.heap.size, 1, .int .i64 f), (w2.heap.size, 2, .int .i64 h), (w2.heap.size, 3, .int .i64 st), (w2.heap.size, 4, .int .i64 ln), (w.heap.size + 1, 0, .int .i64 x), (w.heap.size + 1, 1, .int .i64 y), (w.heap.size, 0, .slice a n cap)] w (w2.alloc (.cells #[.int .i64 b, .int .i64 f, .int .i64 h, .int .i64 st, .int .i64 ln] 106)) := held_box (HW.out.later H2.out) w2.heap.size [.int .i64 b, .int .i64 f, .int .i64 h, .int .i64 st, .int .i64 ln] _ rfl
      obtain ⟨b0, o0, rfl, _, hc7⟩ := (HS.out.later h8.is).at h hhn
      have c1 := hc7.2.1
      rw [show sx L h = z by rw [HB.out.ye, HB.out.he]; rfl] at c1
      have h9 := held_more h8 b0 (o0 + h * 7 + 1) _ c1 (sg_cell_lt c1)
      refine into (Held ((b0, o0 + h * 7 + 1, .int .i64 z.l) :: [(w2.heap.size, 0, .int .i64 b), (w2.heap.size, 1, .int .i64 f), (w2.heap.size, 2, .int .i64 h), (w2.heap.size, 3, .int .i64 st), (w2.heap.size, 4, .int .i64 ln), (w.heap.size + 1, 0, .int .i64 x), (w.heap.size + 1, 1, .int .i64 y), (w.heap.size, 0, .slice (some ⟨b0, o0, none⟩) n cap)]) w) (by repeat (first | exact h9 | refine Held.drew ?_ | refine Held.drewN ?_ _)) ?_
      clear h8 h9 hc7 c1 k0 k1 k2 z0 z1 hcc hff hzz
      intro W3 hW3
      have H3 := Lib.hid hW3
      clear hW3
      have w1 : IntKind.i64.wrap (ln - z.l) = ln - z.l := IntWalk.i64_in _ ⟨by omega, by omega⟩
      have w2' : IntKind.i64.wrap (ln - z.l + D) = ln - z.l + D := IntWalk.i64_in _ ⟨by omega, by omega⟩
      go_region_held3 (fun w' => w'.cell? ⟨b0, o0 + h * 7 + 1, none⟩ = some (.int .i64 z.l) ∧ w'.cell? ⟨w2.heap.size, 0, none⟩ = some (.int .i64 b) ∧ w'.cell? ⟨w2.heap.size, 1, none⟩ = some (.int .i64 f) ∧ w'.cell? ⟨w2.heap.size, 2, none⟩ = some (.int .i64 h) ∧ w'.cell? ⟨w2.heap.size, 3, none⟩ = some (.int .i64 st) ∧ w'.cell? ⟨w2.heap.size, 4, none⟩ = some (.int .i64 ln) ∧ w'.cell? ⟨w.heap.size + 1, 0, none⟩ = some (.int .i64 x) ∧ w'.cell? ⟨w.heap.size + 1, 1, none⟩ = some (.int .i64 y) ∧ w'.cell? ⟨w.heap.size, 0, none⟩ = some (.slice (some ⟨b0, o0, none⟩) n cap) ∧ Held ((b0, o0 + h * 7 + 1, .int .i64 z.l) :: [(w2.heap.size, 0, .int .i64 b), (w2.heap.size, 1, .int .i64 f), (w2.heap.size, 2, .int .i64 h), (w2.heap.size, 3, .int .i64 st), (w2.heap.size, 4, .int .i64 ln), (w.heap.size + 1, 0, .int .i64 x), (w.heap.size + 1, 1, .int .i64 y), (w.heap.size, 0, .slice (some ⟨b0, o0, none⟩) n cap)]) w w') (exact Held.s9 (Held.later H3.out (by repeat (first | (with_reducible exact Later.refl _) | (with_reducible exact Hid.out (by assumption)) | (with_reducible refine Later.alloc ?_ _) | (with_reducible refine Later.setCell ?_ (by simp; omega) _) | (with_reducible refine Later.setCell ?_ (by simp) _) | (with_reducible refine Later.drewN ?_ _) | (with_reducible refine Later.drew ?_) | (with_reducible refine Later.trans ?_ (Hid.out (by assumption)))))))
        (first
          | (go_at_call 101; refine (HT _ (HS.out.later (Held.is (Held.later H3.out (by repeat (first | (with_reducible exact Later.refl _) | (with_reducible exact Hid.out (by assumption)) | (with_reducible refine Later.alloc ?_ _) | (with_reducible refine Later.setCell ?_ (by simp; omega) _) | (with_reducible refine Later.setCell ?_ (by simp) _) | (with_reducible refine Later.drewN ?_ _) | (with_reducible refine Later.drew ?_) | (with_reducible refine Later.trans ?_ (Hid.out (by assumption))))))))).mono ?_; rintro e w5 ⟨rfl, hb⟩; have H5 := Lib.hid hb; clear hb))
      all_goals
        go_wp2_with fail
        go_ret2
        exact ⟨ret_2i e2.out.symm e1.out.symm, H3.out.is.trans (by repeat (first | (with_reducible exact Later.refl _) | (with_reducible exact Hid.out (by assumption)) | (with_reducible refine Later.alloc ?_ _) | (with_reducible refine Later.setCell ?_ (by simp; omega) _) | (with_reducible refine Later.setCell ?_ (by simp) _) | (with_reducible refine Later.drewN ?_ _) | (with_reducible refine Later.drew ?_) | (with_reducible refine Later.trans ?_ (Hid.out (by assumption)))))⟩
  · have e1 : Hid (sbE L F p x y = meE L F p x y) := Lib.hid (by unfold sbE; rw [if_neg h0])
    have e2 : Hid (sbV L F p x y = 0) := Lib.hid (by unfold sbV okV; rw [e1.out, if_neg h0])
    have hbf : meB L F p x y = false := by unfold meB; simp [h0]
    rw [hbf] at HM
    generalize meE L F p x y = ce at *
    have hne : (ce != 0) = true := by simpa using h0
    clear hs hf h0 hbf
    go_enter Try.func55, Try.ntmps55
    go_wp2_with (go_at_call 51; refine (HM _ (HS.out.later (by repeat (first | (with_reducible exact Later.refl _) | (with_reducible exact Hid.out (by assumption)) | (with_reducible refine Later.alloc ?_ _) | (with_reducible refine Later.setCell ?_ (by simp; omega) _) | (with_reducible refine Later.setCell ?_ (by simp) _) | (with_reducible refine Later.drewN ?_ _) | (with_reducible refine Later.drew ?_) | (with_reducible refine Later.trans ?_ (Hid.out (by assumption)))))) (HF.out.later (by repeat (first | (with_reducible exact Later.refl _) | (with_reducible exact Hid.out (by assumption)) | (with_reducible refine Later.alloc ?_ _) | (with_reducible refine Later.setCell ?_ (by simp; omega) _) | (with_reducible refine Later.setCell ?_ (by simp) _) | (with_reducible refine Later.drewN ?_ _) | (with_reducible refine Later.drew ?_) | (with_reducible refine Later.trans ?_ (Hid.out (by assumption))))))).mono ?_; rintro e w1 ⟨rfl, hb⟩; obtain ⟨H, hcc, hff, hzz⟩ := later_facts hb; clear hb; (try simp at hzz))
    go_ret2
    exact ⟨ret_2i e2.out.symm e1.out.symm, (by repeat (first | (with_reducible exact Later.refl _) | (with_reducible exact Hid.out (by assumption)) | (with_reducible refine Later.alloc ?_ _) | (with_reducible refine Later.setCell ?_ (by simp; omega) _) | (with_reducible refine Later.setCell ?_ (by simp) _) | (with_reducible refine Later.drewN ?_ _) | (with_reducible refine Later.drew ?_) | (with_reducible refine Later.trans ?_ (Hid.out (by assumption)))))⟩
end Go.Proofs.Ytdhoiiejcmnmbaa
namespace Go.Proofs.Ytdhoiiejcmnmbaa
open Go.RowKit
set_option maxHeartbeats 4000000
set_option linter.unusedVariables false
set_option linter.unusedSimpArgs false
/-- the boxes of the walk: the layout's, the energy's -/
structure SbS (w : World) (a : Option Addr) (n cap : Nat) (L : List Sg) (x y : Int) (W : World) : Prop where
  l : Fr w.heap.size [.slice a n cap] W
  e : Fr (w.heap.size + 1) [.int .i64 x, .int .i64 y] W
  sg : Sgs W a n L
  lt : Later w W
theorem SbS.later {w : World} {a : Option Addr} {n cap : Nat} {L : List Sg} {x y : Int} {W W' : World} (h : SbS w a n cap L x y W) (k : Later W W') : SbS w a n cap L x y W' :=
  ⟨fr_later h.l k, fr_later h.e k, h.sg.later k, h.lt.trans k⟩
theorem SbS.setE {w : World} {a : Option Addr} {n cap : Nat} {L : List Sg} {x y : Int} {W : World} (h : SbS w a n cap L x y W) (ha : ∀ z, a = some z → z.block < w.heap.size) (x' y' : Int) :
    SbS w a n cap L x' y' ((W.setCell ⟨w.heap.size + 1, 0, none⟩ (.int .i64 x')).setCell ⟨w.heap.size + 1, 1, none⟩ (.int .i64 y')) := by
  have ne : ∀ m, m ≠ w.heap.size + 1 → (some (w.heap.size + 1) : Option Nat) ≠ some m := fun m hm e => hm (Option.some.inj e).symm
  have k : W.grownBy ((W.setCell ⟨w.heap.size + 1, 0, none⟩ (.int .i64 x')).setCell ⟨w.heap.size + 1, 1, none⟩ (.int .i64 y')) (some (w.heap.size + 1)) := grown_set1 (grown_set W (w.heap.size + 1) 0 _) 1 _
  exact ⟨fr_kept h.l k (ne _ (by omega)), fr_set (fr_set h.e 0 _) 1 _, sgs_kept h.sg k (fun z e => ne _ (by have := ha z e; omega)), later_kept h.lt k (fun j e => by cases e; omega)⟩
set_option maxRecDepth 100000 in
theorem s_StopBound (a : Option Addr) (n cap : Nat) (L : List Sg) (A : Option Addr) (m capF : Nat) (F : List Int) (p x y : Int) (w : World) (hs : Sgs w a n L) (hf : Sl w A m F) (hp : -9223372036854775808 ≤ p) (hp2 : p ≤ 9223372036854775807) :
    Calls Try.prog 54 #[.agg #[.slice a n cap], .slice A m capF, .int .i64 p, .agg #[.int .i64 x, .int .i64 y]] w fun e w' => e = .returned (.tuple #[.int .i64 (sbV L F p x y), .int .i64 (sbE L F p x y)]) ∧ Later w w' := by
  have HM := fun w h1 h2 => s_MayEnter a n cap L A m capF F p x y w h1 h2 hp hp2
  have HS := Lib.hid hs; have HF := Lib.hid hf
  by_cases h0 : meE L F p x y = 0
  · cases hb0 : meB L F p x y
    · have e1 : Hid (sbE L F p x y = 5) := Lib.hid (by unfold sbE; rw [if_pos h0, hb0]; rfl)
      have e2 : Hid (sbV L F p x y = 0) := Lib.hid (by unfold sbV; rw [e1.out]; rfl)
      rw [h0, hb0] at HM
      clear hs hf h0 hb0 hp hp2
      go_enter Try.func54, Try.ntmps54
      go_wp2_with (go_at_call 53; refine (HM _ (HS.out.later (by repeat (first | (with_reducible exact Later.refl _) | (with_reducible exact Hid.out (by assumption)) | (with_reducible refine Later.alloc ?_ _) | (with_reducible refine Later.setCell ?_ (by simp; omega) _) | (with_reducible refine Later.setCell ?_ (by simp) _) | (with_reducible refine Later.drewN ?_ _) | (with_reducible refine Later.drew ?_) | (with_reducible refine Later.trans ?_ (Hid.out (by assumption)))))) (HF.out.later (by repeat (first | (with_reducible exact Later.refl _) | (with_reducible exact Hid.out (by assumption)) | (with_reducible refine Later.alloc ?_ _) | (with_reducible refine Later.setCell ?_ (by simp; omega) _) | (with_reducible refine Later.setCell ?_ (by simp) _) | (with_reducible refine Later.drewN ?_ _) | (with_reducible refine Later.drew ?_) | (with_reducible refine Later.trans ?_ (Hid.out (by assumption))))))).mono ?_; rintro e w1 ⟨rfl, hb⟩; obtain ⟨H, hcc, hff, hzz⟩ := later_facts hb; clear hb; (try simp at hzz))
      go_ret2
      exact ⟨ret_2i e2.out.symm e1.out.symm, (by repeat (first | (with_reducible exact Later.refl _) | (with_reducible exact Hid.out (by assumption)) | (with_reducible refine Later.alloc ?_ _) | (with_reducible refine Later.setCell ?_ (by simp; omega) _) | (with_reducible refine Later.setCell ?_ (by simp) _) | (with_reducible refine Later.drewN ?_ _) | (with_reducible refine Later.drew ?_) | (with_reducible refine Later.trans ?_ (Hid.out (by assumption)))))⟩
    · obtain ⟨he, hf0⟩ := meE_in h0
      have e1 : Hid (sbE L F p x y = 0) := Lib.hid (by unfold sbE; rw [if_pos h0, hb0]; rfl)
      rw [h0, hb0] at HM
      obtain ⟨b, rfl, hbl, hv, hk, hsec⟩ := isNo_cases hf0
      have hbm : b < m := by rw [← hf.1]; exact hbl
      have HEND := fun w (h1 : Sgs w a n L) (h2 : Sl w A m F) => s_l04End a n cap L A m capF F b w h1 h2 hk hbm
      obtain ⟨f, h, c, z, R, hB⟩ := bl_of hv hk hbl hs.1
      rw [hB.end', show ((h + 1 : Nat) : Int) = (h : Int) + 1 by omega] at HEND
      have hmf := may_facts hB he hb0
      have hab := (enB_iff x y).1 he
      have e2 : Hid (sbV L F b x y = upL L h - upL L f + sbH L F b y) := Lib.hid (by unfold sbV; rw [e1.out]; show upL L (hoK L F b) - upL L (fstK F b) + sbH L F b y = _; rw [← hB.he, ← hB.fe])
      have e3 : Hid (sbH L F b y = if brk z.k = true then cei ((y + clH R c) * z.l) (wkL z) else z.l) := Lib.hid (by unfold sbH; rw [← hB.ye, ← hB.Re, ← hB.cn])
      have HB := Lib.hid hB
      have hfh := hB.le; have hhn := hB.lt; have h24 := hB.n24
      have hch : c = h - f := hB.ce
      obtain ⟨bF, oF, rfl, ck⟩ := hf.at b hbm
      rw [(blk_bd hk b hbl).1, ← hB.fe] at ck
      have HCK := Lib.hid ck
      have HLn := Lib.hid hs.1
      have hbF := cell_lt ck
      obtain ⟨b0, o0, rfl, hb0', _⟩ := hs.at 0 (by omega)
      have HA : Hid (∀ u, some (⟨b0, o0, none⟩ : Addr) = some u → u.block < w.heap.size) := Lib.hid (fun u e => by cases e; exact hb0')
      clear hs hf h0 hf0 hsec hB hv hk he hp hp2 ck
      go_enter Try.func54, Try.ntmps54
      go_upto_region 1 with (fail)
      refine into (fun W => SbS w (some ⟨b0, o0, none⟩) n cap L x y W) ⟨?_, ?_, HS.out.later (by repeat (first | (with_reducible exact Later.refl _) | (with_reducible exact Hid.out (by assumption)) | (with_reducible refine Later.alloc ?_ _) | (with_reducible refine Later.setCell ?_ (by simp; omega) _) | (with_reducible refine Later.setCell ?_ (by simp) _) | (with_reducible refine Later.drewN ?_ _) | (with_reducible refine Later.drew ?_) | (with_reducible refine Later.trans ?_ (Hid.out (by assumption))))), (by repeat (first | (with_reducible exact Later.refl _) | (with_reducible exact Hid.out (by assumption)) | (with_reducible refine Later.alloc ?_ _) | (with_reducible refine Later.setCell ?_ (by simp; omega) _) | (with_reducible refine Later.setCell ?_ (by simp) _) | (with_reducible refine Later.drewN ?_ _) | (with_reducible refine Later.drew ?_) | (with_reducible refine Later.trans ?_ (Hid.out (by assumption)))))⟩ ?_
      · exact fr_alloc (X := w) (l := [.slice (some ⟨b0, o0, none⟩) n cap]) (T := 47) (Later.alloc (Later.refl _) _)
      · have F1 := fr_alloc (X := w.alloc (.cells [Value.slice (some ⟨b0, o0, none⟩) n cap].toArray 47)) (l := [.int .i64 x, .int .i64 y]) (T := 25) (Later.refl _)
        simp only [World.size_alloc] at F1
        exact F1
      intro W hW
      have HW := Lib.hid hW
      obtain ⟨k2, _⟩ := Fr.o1 hW.l
      obtain ⟨k0, k1, r0, r1⟩ := Fr.o2 hW.e
      have z0 := hW.l.lt
      have z1 := hW.e.lt
      clear hW
      have hwp : IntKind.i64.wrap ((h : Int) + 1 - 1) = (h : Int) := by rw [show (h : Int) + 1 - 1 = h by omega]; exact IntWalk.i64_in _ ⟨by omega, by omega⟩
      have hw2 : IntKind.i64.wrap (h : Int) = (h : Int) := IntWalk.i64_in _ ⟨by omega, by omega⟩
      have hw0 : ((h : Int) + 1 - 1) = (h : Int) := by omega
      go_wp2_with (first
          | (go_at_call 53; refine (HM _ (HS.out.later (HW.out.lt.trans (by repeat (first | (with_reducible exact Later.refl _) | (with_reducible exact Hid.out (by assumption)) | (with_reducible refine Later.alloc ?_ _) | (with_reducible refine Later.setCell ?_ (by simp; omega) _) | (with_reducible refine Later.setCell ?_ (by simp) _) | (with_reducible refine Later.drewN ?_ _) | (with_reducible refine Later.drew ?_) | (with_reducible refine Later.trans ?_ (Hid.out (by assumption))))))) (HF.out.later (HW.out.lt.trans (by repeat (first | (with_reducible exact Later.refl _) | (with_reducible exact Hid.out (by assumption)) | (with_reducible refine Later.alloc ?_ _) | (with_reducible refine Later.setCell ?_ (by simp; omega) _) | (with_reducible refine Later.setCell ?_ (by simp) _) | (with_reducible refine Later.drewN ?_ _) | (with_reducible refine Later.drew ?_) | (with_reducible refine Later.trans ?_ (Hid.out (by assumption)))))))).mono ?_; rintro e w1 ⟨rfl, hb⟩; have H1 : Hid (Later W w1) := Lib.hid (Later.trans (by repeat (first | (with_reducible exact Later.refl _) | (with_reducible exact Hid.out (by assumption)) | (with_reducible refine Later.alloc ?_ _) | (with_reducible refine Later.setCell ?_ (by simp; omega) _) | (with_reducible refine Later.setCell ?_ (by simp) _) | (with_reducible refine Later.drewN ?_ _) | (with_reducible refine Later.drew ?_) | (with_reducible refine Later.trans ?_ (Hid.out (by assumption))))) hb); obtain ⟨H, hcc, hff, hzz⟩ := later_facts hb; clear hb; (try simp only [World.size_alloc] at hzz); have hy0 : w.heap.size < w1.heap.size := (by omega); have hy1 : w.heap.size + 1 < w1.heap.size := (by omega))
          | (go_at_call 99; refine (HEND _ (HS.out.later (HW.out.lt.trans (by repeat (first | (with_reducible exact Later.refl _) | (with_reducible exact Hid.out (by assumption)) | (with_reducible refine Later.alloc ?_ _) | (with_reducible refine Later.setCell ?_ (by simp; omega) _) | (with_reducible refine Later.setCell ?_ (by simp) _) | (with_reducible refine Later.drewN ?_ _) | (with_reducible refine Later.drew ?_) | (with_reducible refine Later.trans ?_ (Hid.out (by assumption))))))) (HF.out.later (HW.out.lt.trans (by repeat (first | (with_reducible exact Later.refl _) | (with_reducible exact Hid.out (by assumption)) | (with_reducible refine Later.alloc ?_ _) | (with_reducible refine Later.setCell ?_ (by simp; omega) _) | (with_reducible refine Later.setCell ?_ (by simp) _) | (with_reducible refine Later.drewN ?_ _) | (with_reducible refine Later.drew ?_) | (with_reducible refine Later.trans ?_ (Hid.out (by assumption)))))))).mono ?_; rintro e w2 ⟨rfl, hb⟩; have H2 : Hid (Later W w2) := Lib.hid (H1.out.trans hb); obtain ⟨H, hcc, hff, hzz⟩ := later_facts hb; clear hb; (try simp only [World.size_alloc] at hzz); have hy0 : w.heap.size < w2.heap.size := (by omega); have hy1 : w.heap.size + 1 < w2.heap.size := (by omega); have ck : w2.cell? ⟨bF, oF + b, none⟩ = some (.int .i64 f) := by rw [(HW.out.lt.trans H2.out).cell (p := ⟨bF, oF + b, none⟩) hbF]; exact HCK.out))
      have M2 := Lib.hid (HW.out.later H2.out)
      clear k0 k1 k2 r0 r1 z0 z1 hy0 hy1 hcc hff hzz ck hwp hw2 hw0
      go_loopw [12, 14] (fun at' i wr => ∃ j : Nat, j ≤ c ∧ i = .int .i64 ((f + j : Nat) : Int) ∧ at' = .int .i64 (upL L (f + j) - upL L f) ∧ SbS w (some ⟨b0, o0, none⟩) n cap L (x + clL R j) (y + clH R j) wr) (fun _ i _ => h - (intOf i).toNat)
      case atStart => exact ⟨0, by omega, rfl, by rw [Nat.add_zero, Int.sub_self], by rw [clL_0, clH_0, Int.add_zero, Int.add_zero]; exact M2.out⟩
      case round =>
        obtain ⟨j, hj, rfl, rfl, hM⟩ := hrel
        have M := Lib.hid hM
        clear hM M2 H1 H2
        by_cases hlt : j < c
        · have hseg : sgB (sx R j) = true := okB_at R R.length j (Nat.le_refl _) (by rw [HB.out.Rl]; exact hlt) HB.out.Rok
          obtain ⟨d1, d2, d3⟩ := cl_bd R HB.out.Rok j (by rw [HB.out.Rl]; exact hj)
          obtain ⟨d4, d5, d6⟩ := cl_bd R HB.out.Rok (j + 1) (by rw [HB.out.Rl]; exact hlt)
          obtain ⟨d7, d8, d9⟩ := ch_bd (sx R j) hseg
          obtain ⟨ab1, ab2, ab3⟩ := hab
          have hfn : f + j < n := by omega
          have hfj : f + j < h := by omega
          have hln := ((sgB_iff (sx R j)).1 hseg).2.1
          have bd1 := up_bd L (f + j) (by rw [HLn.out]; omega) (okB_le L L.length (f + j) (by rw [HLn.out]; omega) HB.out.ok)
          have bd2 := up_bd L f (by rw [HLn.out]; omega) (okB_le L L.length f (by rw [HLn.out]; omega) HB.out.ok)
          have bd3 := upL_mono L f (f + j) (by omega) (by rw [HLn.out]; omega) HB.out.ok
          have us : upL L (f + j + 1) = upL L (f + j) + (sx R j).l := by rw [upL_succ L (f + j) (by rw [HLn.out]; exact hfn), HB.out.Rat j hlt]
          obtain ⟨X, hX⟩ : ∃ X, X = x + clL R (j + 1) := ⟨_, rfl⟩
          obtain ⟨Y, hY⟩ : ∃ Y, Y = y + clH R (j + 1) := ⟨_, rfl⟩
          have q1 : x + clL R j + chL (sx R j) = X := by rw [hX, clL_succ R j (by rw [HB.out.Rl]; exact hlt)]; omega
          have q2 : y + clH R j + chH (sx R j) = Y := by rw [hY, clH_succ R j (by rw [HB.out.Rl]; exact hlt)]; omega
          have HSM := fun w => s_l06Sum (x + clL R j) (y + clH R j) (chL (sx R j)) (chH (sx R j)) w (by omega) (by omega) (by omega) (by omega) (by omega) (by omega) (by omega) (by omega)
          rw [q1, q2] at HSM
          have HCH := fun w => s_Change (sx R j) w hseg
          have HX := Lib.hid hX; have HY := Lib.hid hY
          have hwa : IntKind.i64.wrap (upL L (f + j) - upL L f + (sx R j).l) = upL L (f + j) - upL L f + (sx R j).l := IntWalk.i64_in _ ⟨by omega, by omega⟩
          obtain ⟨m1, m2, m3, m4⟩ := Fr.o2 M.out.e
          obtain ⟨n1, _⟩ := Fr.o1 M.out.l
          have zs := M.out.e.lt
          have zl := M.out.l.lt
          obtain ⟨b', o', hbb, hb', c0, c1, c2, c3, c4, c5, c6⟩ := M.out.sg.at (f + j) hfn
          simp only [Option.some.injEq, Addr.mk.injEq, and_true] at hbb
          obtain ⟨rfl, rfl⟩ := hbb
          rw [← HB.out.Rat j hlt] at c0 c1 c2 c3 c4 c5 c6
          generalize x + clL R j = P at *
          generalize y + clH R j = Q at *
          clear d1 d2 d3 d4 d5 d6 d7 d8 d9 ab1 ab2 ab3 hX hY q1 q2 bd1 bd2 bd3
          go_upto_region 11 with (fail)
          go_region_with (first
            | (go_at_call 62; refine (HCH _).mono ?_; rintro e w7 ⟨rfl, hb⟩; (first | (have M := Lib.hid (M.out.later hb)) | (have M := Lib.hid (M.out.later (later_undrew hb))) | (have M := Lib.hid (M.out.later (later_undrewN hb)))); obtain ⟨m1, m2, m3, m4⟩ := Fr.o2 M.out.e; obtain ⟨n1, _⟩ := Fr.o1 M.out.l; have zs := M.out.e.lt; have zl := M.out.l.lt; obtain ⟨b', o', hbb, hb', c0, c1, c2, c3, c4, c5, c6⟩ := M.out.sg.at (f + j) hfn; simp only [Option.some.injEq, Addr.mk.injEq, and_true] at hbb; obtain ⟨rfl, rfl⟩ := hbb; rw [← HB.out.Rat j hlt] at c0 c1 c2 c3 c4 c5 c6; clear hb)
            | (go_at_call 100; refine (HSM _).mono ?_; rintro e w7 ⟨rfl, hb⟩; (first | (have M := Lib.hid (M.out.later hb)) | (have M := Lib.hid (M.out.later (later_undrew hb))) | (have M := Lib.hid (M.out.later (later_undrewN hb)))); obtain ⟨m1, m2, m3, m4⟩ := Fr.o2 M.out.e; obtain ⟨n1, _⟩ := Fr.o1 M.out.l; have zs := M.out.e.lt; have zl := M.out.l.lt; obtain ⟨b', o', hbb, hb', c0, c1, c2, c3, c4, c5, c6⟩ := M.out.sg.at (f + j) hfn; simp only [Option.some.injEq, Addr.mk.injEq, and_true] at hbb; obtain ⟨rfl, rfl⟩ := hbb; rw [← HB.out.Rat j hlt] at c0 c1 c2 c3 c4 c5 c6; clear hb))
          all_goals
            have hn1 : ¬ b0 = w.heap.size + 1 := by omega
            have hn2 : ¬ w.heap.size + 1 = b0 := by omega
            go_wp2_with fail
            go_roundw
            case rel => exact ⟨j + 1, by omega, by go_num, by rw [show f + (j + 1) = f + j + 1 by omega, us]; go_num, by rw [← HX.out, ← HY.out]; exact (M.out.setE HA.out X Y).later (by repeat (first | exact Later.refl _ | refine Later.drew ?_ | refine Later.drewN ?_ _))⟩
            case measure => simp [intOf]; omega
        · obtain rfl : c = j := by omega
          obtain ⟨m1, m2, m3, m4⟩ := Fr.o2 M.out.e
          obtain ⟨n1, _⟩ := Fr.o1 M.out.l
          have zs := M.out.e.lt
          have zl := M.out.l.lt
          obtain ⟨b', o', hbb, hb', c0, c1, c2, c3, c4, c5, c6⟩ := M.out.sg.at h hhn
          simp only [Option.some.injEq, Addr.mk.injEq, and_true] at hbb
          obtain ⟨rfl, rfl⟩ := hbb
          rw [show sx L h = z by rw [HB.out.ye, HB.out.he]; rfl] at c0 c1 c2 c3 c4 c5 c6
          have hnf : ¬ ((f + c : Nat) : Int) < (h : Int) := by omega
          have hnc : ¬ f + c < h := by omega
          obtain ⟨_, m5, m6⟩ := hmf
          have hw := wk_bd z HB.out.ysg
          have hzl := ((sgB_iff z).1 HB.out.ysg).2.1
          have he9 := (enB_iff _ _).1 m5
          have bd1 := up_bd L (f + c) (by rw [HLn.out]; omega) (okB_le L L.length (f + c) (by rw [HLn.out]; omega) HB.out.ok)
          have bd2 := up_bd L f (by rw [HLn.out]; omega) (okB_le L L.length f (by rw [HLn.out]; omega) HB.out.ok)
          have bd3 := upL_mono L f (f + c) (by omega) (by rw [HLn.out]; omega) HB.out.ok
          have e4 : Hid (sbV L F b x y = upL L (f + c) - upL L f + sbH L F b y) := Lib.hid (by rw [e2.out, show h = f + c by omega])
          generalize hUT : upL L (f + c) - upL L f = UT at *
          have hUT0 : 0 ≤ UT := by omega
          have hUT1 : UT ≤ 5000000 := by omega
          cases hbk : brk z.k
          · have e5 : Hid (sbV L F b x y = UT + z.l) := Lib.hid (by rw [e4.out, e3.out, hbk]; rfl)
            have hwa : IntKind.i64.wrap (UT + z.l) = UT + z.l := IntWalk.i64_in _ ⟨by omega, by omega⟩
            clear hch hw he9 bd1 bd2 bd3 m5 m6 hUT
            go_wp2_with (first | (go_at_call 87; refine (s_Brake z _ hbk _).mono ?_; rintro e w3 ⟨rfl, hb⟩; have HW3 := Lib.hid (M.out.lt.trans (Later.trans (by repeat (first | (with_reducible exact Later.refl _) | (with_reducible exact Hid.out (by assumption)) | (with_reducible refine Later.alloc ?_ _) | (with_reducible refine Later.setCell ?_ (by simp; omega) _) | (with_reducible refine Later.setCell ?_ (by simp) _) | (with_reducible refine Later.drewN ?_ _) | (with_reducible refine Later.drew ?_) | (with_reducible refine Later.trans ?_ (Hid.out (by assumption))))) hb)); obtain ⟨H, hcc, hff, hzz⟩ := later_facts hb; clear hb; (try simp only [World.size_alloc] at hzz); (try (have hy1 : w.heap.size + 1 < w3.heap.size := (by omega))); (try (have hy3 : wr.heap.size < w3.heap.size := (by omega)))) | (go_at_call 86; refine (s_Work z _ HB.out.ysg).mono ?_; rintro e w4 ⟨rfl, hb⟩; have HW4 := Lib.hid (HW3.out.trans (Later.trans (by repeat (first | (with_reducible exact Later.refl _) | (with_reducible exact Hid.out (by assumption)) | (with_reducible refine Later.alloc ?_ _) | (with_reducible refine Later.setCell ?_ (by simp; omega) _) | (with_reducible refine Later.setCell ?_ (by simp) _) | (with_reducible refine Later.drewN ?_ _) | (with_reducible refine Later.drew ?_) | (with_reducible refine Later.trans ?_ (Hid.out (by assumption))))) hb)); obtain ⟨H, hcc, hff, hzz⟩ := later_facts hb; clear hb; (try simp only [World.size_alloc] at hzz); (try (have hy1 : w.heap.size + 1 < w4.heap.size := (by omega))); (try (have hy3 : wr.heap.size < w4.heap.size := (by omega)))) | (go_at_call 70; refine (HCE _).mono ?_; rintro e w5 ⟨rfl, rfl⟩))
            go_ret2
            exact ⟨ret_2i e5.out.symm e1.out.symm, (by repeat (first | (with_reducible exact Later.refl _) | (with_reducible exact Hid.out (by assumption)) | (with_reducible refine Later.alloc ?_ _) | (with_reducible refine Later.setCell ?_ (by simp; omega) _) | (with_reducible refine Later.setCell ?_ (by simp) _) | (with_reducible refine Later.drewN ?_ _) | (with_reducible refine Later.drew ?_) | (with_reducible refine Later.trans ?_ (Hid.out (by assumption)))))⟩
          · obtain ⟨w1, w2⟩ := m6 hbk
            generalize hQQ : y + clH R c = Q at *
            have hnm := nn_mul Q z.l (by omega) (by omega) hzl.1 hzl.2
            obtain ⟨B, hB⟩ : ∃ B, B = Q * z.l := ⟨_, rfl⟩
            rw [← hB] at hnm
            have hwb : IntKind.i64.wrap (Q * z.l) = B := by rw [← hB]; exact IntWalk.i64_in _ ⟨by omega, by omega⟩
            have hci := cei_nn B (wkL z) hnm.1 (by omega)
            have hcb := tdiv_bd (B + wkL z - 1) (wkL z) 4000000000000000 (by omega) (by omega)
            rw [← hci] at hcb
            have HCE := fun w => s_CeilB B (wkL z) w (by omega) (by omega) (by omega) (by omega) (by omega)
            have e5 : Hid (sbV L F b x y = UT + cei B (wkL z)) := Lib.hid (by rw [e4.out, e3.out, hbk, hB]; rfl)
            have hfd : ∀ w : World, (Instr.field 25 (.agg #[.int .i64 (wkL z), .int .i64 (wkH z)]) 0).run Try.prog w = .ok (.int .i64 (wkL z)) w := fun _ => by kernel_rfl
            have hwa : IntKind.i64.wrap (UT + cei B (wkL z)) = UT + cei B (wkL z) := IntWalk.i64_in _ ⟨by omega, by omega⟩
            generalize cei B (wkL z) = D at *
            clear hch hw he9 bd1 bd2 bd3 m5 m6 hUT hci hcb hnm w1 w2 hQQ hB
            generalize x + clL R c = P at *
            go_wp2_with (first | (go_at_call 87; refine (s_Brake z _ hbk _).mono ?_; rintro e w3 ⟨rfl, hb⟩; have HB3 := Lib.hid hb; obtain ⟨H, hcc, hff, hzz⟩ := later_facts hb; clear hb; (try simp only [World.size_alloc] at hzz); (try (have hy1 : w.heap.size + 1 < w3.heap.size := (by omega))); (try (have hy3 : wr.heap.size < w3.heap.size := (by omega)))))
            have h9 : Held [(wr.heap.size, 0, .int .i64 z.k), (wr.heap.size, 1, .int .i64 z.l), (wr.heap.size, 2, .int .i64 z.r), (wr.heap.size, 3, .int .i64 z.a), (wr.heap.size, 4, .int .i64 z.b), (wr.heap.size, 5, .int .i64 z.c), (wr.heap.size, 6, .int .i64 z.d), (w.heap.size + 1, 0, .int .i64 P), (w.heap.size + 1, 1, .int .i64 Q)] w w3 := (held_box (held_more (held_more (⟨fun u hu => by simp at hu, M.out.lt⟩ : Held [] w wr) (w.heap.size + 1) 1 _ m2 zs) (w.heap.size + 1) 0 _ m1 zs) wr.heap.size [.int .i64 z.k, .int .i64 z.l, .int .i64 z.r, .int .i64 z.a, .int .i64 z.b, .int .i64 z.c, .int .i64 z.d] _ rfl).later HB3.out
            refine into (fun W => Held [(wr.heap.size, 0, .int .i64 z.k), (wr.heap.size, 1, .int .i64 z.l), (wr.heap.size, 2, .int .i64 z.r), (wr.heap.size, 3, .int .i64 z.a), (wr.heap.size, 4, .int .i64 z.b), (wr.heap.size, 5, .int .i64 z.c), (wr.heap.size, 6, .int .i64 z.d), (w.heap.size + 1, 0, .int .i64 P), (w.heap.size + 1, 1, .int .i64 Q)] w W) (by repeat (first | exact h9 | refine Held.drew ?_ | refine Held.drewN ?_ _)) ?_
            clear h9 m1 m2 m3 m4 n1 zs zl c0 c1 c2 c3 c4 c5 c6 hcc hff hzz
            intro W9 h9
            have H9 := Lib.hid h9
            clear h9
            go_region_held3 (fun w' => w'.cell? ⟨wr.heap.size, 0, none⟩ = some (.int .i64 z.k) ∧ w'.cell? ⟨wr.heap.size, 1, none⟩ = some (.int .i64 z.l) ∧ w'.cell? ⟨wr.heap.size, 2, none⟩ = some (.int .i64 z.r) ∧ w'.cell? ⟨wr.heap.size, 3, none⟩ = some (.int .i64 z.a) ∧ w'.cell? ⟨wr.heap.size, 4, none⟩ = some (.int .i64 z.b) ∧ w'.cell? ⟨wr.heap.size, 5, none⟩ = some (.int .i64 z.c) ∧ w'.cell? ⟨wr.heap.size, 6, none⟩ = some (.int .i64 z.d) ∧ w'.cell? ⟨w.heap.size + 1, 0, none⟩ = some (.int .i64 P) ∧ w'.cell? ⟨w.heap.size + 1, 1, none⟩ = some (.int .i64 Q) ∧ Held [(wr.heap.size, 0, .int .i64 z.k), (wr.heap.size, 1, .int .i64 z.l), (wr.heap.size, 2, .int .i64 z.r), (wr.heap.size, 3, .int .i64 z.a), (wr.heap.size, 4, .int .i64 z.b), (wr.heap.size, 5, .int .i64 z.c), (wr.heap.size, 6, .int .i64 z.d), (w.heap.size + 1, 0, .int .i64 P), (w.heap.size + 1, 1, .int .i64 Q)] w w') (exact Held.s9 (Held.later H9.out (by repeat (first | (with_reducible exact Later.refl _) | (with_reducible exact Hid.out (by assumption)) | (with_reducible refine Later.alloc ?_ _) | (with_reducible refine Later.setCell ?_ (by simp; omega) _) | (with_reducible refine Later.setCell ?_ (by simp) _) | (with_reducible refine Later.drewN ?_ _) | (with_reducible refine Later.drew ?_) | (with_reducible refine Later.trans ?_ (Hid.out (by assumption)))))))
              (first
                | (go_at_call 86; refine (s_Work z _ HB.out.ysg).mono ?_; rintro e w4 ⟨rfl, hb⟩; have H4 := Lib.hid hb; clear hb)
                | (go_at_call 70; refine (HCE _).mono ?_; rintro e w5 ⟨rfl, rfl⟩))
            all_goals
              go_wp2_with fail
              go_ret2
              exact ⟨ret_2i e5.out.symm e1.out.symm, H9.out.is.trans (by repeat (first | (with_reducible exact Later.refl _) | (with_reducible exact Hid.out (by assumption)) | (with_reducible refine Later.alloc ?_ _) | (with_reducible refine Later.setCell ?_ (by simp; omega) _) | (with_reducible refine Later.setCell ?_ (by simp) _) | (with_reducible refine Later.drewN ?_ _) | (with_reducible refine Later.drew ?_) | (with_reducible refine Later.trans ?_ (Hid.out (by assumption)))))⟩
  · have e1 : Hid (sbE L F p x y = meE L F p x y) := Lib.hid (by unfold sbE; rw [if_neg h0])
    have e2 : Hid (sbV L F p x y = 0) := Lib.hid (by unfold sbV okV; rw [e1.out, if_neg h0])
    have hbf : meB L F p x y = false := by unfold meB; simp [h0]
    rw [hbf] at HM
    generalize meE L F p x y = ce at *
    have hne : (ce != 0) = true := by simpa using h0
    have hne2 : (ce == 0) = false := by simpa using h0
    clear hs hf h0 hbf hp hp2
    go_enter Try.func54, Try.ntmps54
    go_wp2_with (go_at_call 53; refine (HM _ (HS.out.later (by repeat (first | (with_reducible exact Later.refl _) | (with_reducible exact Hid.out (by assumption)) | (with_reducible refine Later.alloc ?_ _) | (with_reducible refine Later.setCell ?_ (by simp; omega) _) | (with_reducible refine Later.setCell ?_ (by simp) _) | (with_reducible refine Later.drewN ?_ _) | (with_reducible refine Later.drew ?_) | (with_reducible refine Later.trans ?_ (Hid.out (by assumption)))))) (HF.out.later (by repeat (first | (with_reducible exact Later.refl _) | (with_reducible exact Hid.out (by assumption)) | (with_reducible refine Later.alloc ?_ _) | (with_reducible refine Later.setCell ?_ (by simp; omega) _) | (with_reducible refine Later.setCell ?_ (by simp) _) | (with_reducible refine Later.drewN ?_ _) | (with_reducible refine Later.drew ?_) | (with_reducible refine Later.trans ?_ (Hid.out (by assumption))))))).mono ?_; rintro e w1 ⟨rfl, hb⟩; obtain ⟨H, hcc, hff, hzz⟩ := later_facts hb; clear hb; (try simp at hzz))
    go_ret2
    exact ⟨ret_2i e2.out.symm e1.out.symm, (by repeat (first | (with_reducible exact Later.refl _) | (with_reducible exact Hid.out (by assumption)) | (with_reducible refine Later.alloc ?_ _) | (with_reducible refine Later.setCell ?_ (by simp; omega) _) | (with_reducible refine Later.setCell ?_ (by simp) _) | (with_reducible refine Later.drewN ?_ _) | (with_reducible refine Later.drew ?_) | (with_reducible refine Later.trans ?_ (Hid.out (by assumption)))))⟩
end Go.Proofs.Ytdhoiiejcmnmbaa
namespace Go.Proofs.Ytdhoiiejcmnmbaa
open Go.RowKit
set_option maxHeartbeats 4000000
set_option linter.unusedVariables false
set_option linter.unusedSimpArgs false
set_option maxRecDepth 100000 in
theorem walk_FnExactStopBound (a : Option Addr) (n cap : Nat) (L : List Sg) (A : Option Addr) (m capF : Nat) (Z : List Int) (p : Int) (x y : Int) (w : World) (hcap : n ≤ cap) (hs : Sgs w a n L) (u1 : IsRow .i64 w A m capF Z) (u2 : (Lit.int .i64 p).wf = true) (u3 : (Lit.int .i64 x).wf = true) (u4 : (Lit.int .i64 y).wf = true) :
    Calls Try.prog 17 #[.agg #[.slice a n cap], .slice A m capF, .int .i64 p, .agg #[.int .i64 x, .int .i64 y]] w fun e w' => e = .returned (.bool true) ∧ Later w w' := by
  have HS := Lib.hid hs
  have hn := hs.2.1
  have hcF := isRow_leE u1
  obtain ⟨F, hF⟩ : ∃ F, F = Z.take m := ⟨_, rfl⟩
  have HF := Lib.hid (isRow_sl u1)
  rw [← hF] at HF
  have hm := HF.out.2.1
  obtain ⟨hp, hp2⟩ := i64w u2
  clear hs u1 u2 hF
  clear u3 u4
  have HMS := fun q1 q2 w h1 h2 => s_StopBound q1 n n L q2 m m F p x y w h1 h2 hp hp2
  have HMI := fun q1 q2 w h1 h2 => i_StopBound q1 n n L q2 m m F p x y w h1 h2 (Nat.le_refl _) (Nat.le_refl _)
  generalize sbV L F p x y = rv at *
  generalize sbE L F p x y = ce at *
  have e0 : (rv != rv) = false := by simp
  have e1 : (ce != ce) = false := by simp
  by_cases hbm : 1048576 < m
  · go_enter Try.func17, Try.ntmps17
    go_wp2
    go_ret
    exact ⟨rfl, (by repeat (first | (with_reducible exact Later.refl _) | (with_reducible exact Hid.out (by assumption)) | (with_reducible refine Later.alloc ?_ _) | (with_reducible refine Later.setCell ?_ (by simp; omega) _) | (with_reducible refine Later.setCell ?_ (by simp) _) | (with_reducible refine Later.drewN ?_ _) | (with_reducible refine Later.drew ?_) | (with_reducible refine Later.trans ?_ (Hid.out (by assumption)))))⟩
  by_cases hbig : 1048576 < n
  · have hz := Lib.hid (szI_big hbig)
    go_enter Try.func17, Try.ntmps17
    go_wp2_with (go_at_call 30; refine (l_szLayout a n cap _ hn).mono ?_; rw [hz.out]; rintro e w1 ⟨rfl, hb⟩; have H := Lib.hid hb; clear hb)
    go_ret
    exact ⟨rfl, (by repeat (first | (with_reducible exact Later.refl _) | (with_reducible exact Hid.out (by assumption)) | (with_reducible refine Later.alloc ?_ _) | (with_reducible refine Later.setCell ?_ (by simp; omega) _) | (with_reducible refine Later.setCell ?_ (by simp) _) | (with_reducible refine Later.drewN ?_ _) | (with_reducible refine Later.drew ?_) | (with_reducible refine Later.trans ?_ (Hid.out (by assumption)))))⟩
  have hle : n ≤ 1048576 := by omega
  have hlm : m ≤ 1048576 := by omega
  have HSZ := fun w => l_szLayout a n cap w hn
  rw [szI_ok hle] at HSZ
  clear hbig hbm
  go_enter Try.func17, Try.ntmps17
  go_upto_region 1 with (fail)
  refine into (Held [(w.heap.size + 1, 0, .int .i64 x), (w.heap.size + 1, 1, .int .i64 y), (w.heap.size, 0, .slice a n cap)] w) (held_box (held_box (held_start w) w.heap.size [.slice a n cap] _ rfl) (w.heap.size + 1) [.int .i64 x, .int .i64 y] _ (by simp)) ?_
  intro w1 h1
  have H1 := Lib.hid h1
  clear h1
  obtain ⟨k0, k1, k2, _⟩ := Held.s3 H1.out
  have zz0 := H1.out.lt (w.heap.size + 1) 0 (.int .i64 x) (by simp)
  have zz1 := H1.out.lt (w.heap.size) 0 (.slice a n cap) (by simp)
  go_wp2_with fail
  refine (HSZ _).mono ?_
  rintro e w2 ⟨rfl, hb⟩
  have hb : Later w1 w2 := hb
  have H2 := Lib.hid (H1.out.later hb)
  skip
  clear hb k0 k1 k2
  go_wp2_with fail
  go_cut [10, 11] (fun s1 s2 W => s1 = .int .i64 rv ∧ s2 = .int .i64 ce ∧ Held [(w.heap.size + 1, 0, .int .i64 x), (w.heap.size + 1, 1, .int .i64 y), (w.heap.size, 0, .slice a n cap)] w W)
  case first =>
    go_region_held3 (fun w' => w'.cell? ⟨w.heap.size + 1, 0, none⟩ = some (.int .i64 x) ∧ w'.cell? ⟨w.heap.size + 1, 1, none⟩ = some (.int .i64 y) ∧ w'.cell? ⟨w.heap.size, 0, none⟩ = some (.slice a n cap) ∧ Held [(w.heap.size + 1, 0, .int .i64 x), (w.heap.size + 1, 1, .int .i64 y), (w.heap.size, 0, .slice a n cap)] w w') (exact Held.s3 (Held.later H2.out (by repeat (first | exact Later.refl _ | refine Later.drew ?_ | refine Later.drewN ?_ _ | refine Later.alloc ?_ _ | refine Later.trans ?_ (Hid.out (by assumption))))))
      (first
        | (go_at_call 32; refine (l_toLayout a n cap L _ (HS.out.later (Held.is (Held.later H2.out (by repeat (first | exact Later.refl _ | refine Later.drew ?_ | refine Later.drewN ?_ _ | refine Later.alloc ?_ _ | refine Later.trans ?_ (Hid.out (by assumption))))))) hle).mono ?_; rintro e wp ⟨gp, rfl, hgp, hrp, hbp⟩; have HP := Lib.hid hbp; have SP := Lib.hid (hrp.sgs HS.out.1 (by omega) HS.out.2.2.2); clear hbp hrp hgp)
        | (go_at_call 33; refine (l_toInt64S A m capF F _ (HF.out.later (Held.is (Held.later H2.out (by repeat (first | exact Later.refl _ | refine Later.drew ?_ | refine Later.drewN ?_ _ | refine Later.alloc ?_ _ | refine Later.trans ?_ (Hid.out (by assumption))))))) hlm).mono ?_; rintro e wi ⟨gi, rfl, hgi, hri, hsi, hbi⟩; have HI : Hid (Later _ wi) := Lib.hid hbi; have FI := Lib.hid hsi; clear hbi hri hgi hsi)
        | (go_at_call 38; refine (l_toInterval _ _ _).mono ?_; rintro e wt ⟨rfl, hbt⟩; have HT := Lib.hid hbt; clear hbt)
        | (go_at_call 54; refine (HMS _ _ _ (SP.out.later (by repeat (first | exact Later.refl _ | refine Later.drew ?_ | refine Later.drewN ?_ _ | refine Later.alloc ?_ _ | refine Later.trans ?_ (Hid.out (by assumption))))) (FI.out.later (by repeat (first | exact Later.refl _ | refine Later.drew ?_ | refine Later.drewN ?_ _ | refine Later.alloc ?_ _ | refine Later.trans ?_ (Hid.out (by assumption)))))).mono ?_; rintro e wq ⟨rfl, hbq⟩; have HQ := Lib.hid hbq; clear hbq))
    all_goals
      go_wp2_with fail
      go_meet
      exact ⟨rfl, rfl, Held.later H2.out (by repeat (first | exact Later.refl _ | refine Later.drew ?_ | refine Later.drewN ?_ _ | refine Later.alloc ?_ _ | refine Later.trans ?_ (Hid.out (by assumption))))⟩
  case rest =>
    obtain ⟨rfl, rfl, h9⟩ := hcut
    obtain ⟨w3, rfl⟩ : ∃ w3, w3 = wc := ⟨_, rfl⟩
    have H3 := Lib.hid h9
    clear h9
    obtain ⟨k0, k1, k2, _⟩ := Held.s3 H3.out
    have zz0 := H3.out.lt (w.heap.size + 1) 0 (.int .i64 x) (by simp)
    have zz1 := H3.out.lt (w.heap.size) 0 (.slice a n cap) (by simp)
    go_wp2_with fail
    refine (l_toLayout a n cap L _ (HS.out.later H3.out.is) hle).mono ?_
    rintro e w4 ⟨g5, rfl, hg5, hr5, hb⟩
    have hb : Later w3 w4 := hb
    have H4 := Lib.hid (H3.out.later hb)
    have S5 := Lib.hid (hr5.sgs HS.out.1 (by omega) HS.out.2.2.2)
    clear hb k0 k1 k2 hr5 hg5
    obtain ⟨k0, k1, k2, _⟩ := Held.s3 H4.out
    have zz0 := H4.out.lt (w.heap.size + 1) 0 (.int .i64 x) (by simp)
    have zz1 := H4.out.lt (w.heap.size) 0 (.slice a n cap) (by simp)
    go_wp2_with fail
    have HT : Hid (Held [(w4.heap.size, 0, .slice (some ⟨g5, 0, none⟩) n n), (w.heap.size + 1, 0, .int .i64 x), (w.heap.size + 1, 1, .int .i64 y), (w.heap.size, 0, .slice a n cap)] w (w4.alloc (.cells #[.slice (some ⟨g5, 0, none⟩) n n] 47))) := Lib.hid (held_box H4.out w4.heap.size [.slice (some ⟨g5, 0, none⟩) n n] 47 rfl)
    refine (l_toInt64S A m capF F _ (HF.out.later HT.out.is) hlm).mono ?_
    rintro e w5 ⟨g6, rfl, hg6, hr6, hs6, hb⟩
    have hb : Later (w4.alloc (.cells #[.slice (some ⟨g5, 0, none⟩) n n] 47)) w5 := hb
    have H5 := Lib.hid (HT.out.later hb)
    have S5_5 := Lib.hid ((S5.out.later ((Later.refl _).alloc _)).later hb)
    have F6 := Lib.hid hs6
    clear hb k0 k1 k2 hr6 hg6 hs6
    obtain ⟨k0, k1, k2, k3, _⟩ := Held.s4 H5.out
    have zz0 := H5.out.lt (w4.heap.size) 0 (.slice (some ⟨g5, 0, none⟩) n n) (by simp)
    have zz1 := H5.out.lt (w.heap.size + 1) 0 (.int .i64 x) (by simp)
    have zz2 := H5.out.lt (w.heap.size) 0 (.slice a n cap) (by simp)
    go_upto_region 10 with (fail)
    go_cut [14, 15] (fun s1 s2 W => s1 = .int .i64 rv ∧ s2 = .int .i64 ce ∧ Held [(w4.heap.size, 0, .slice (some ⟨g5, 0, none⟩) n n), (w.heap.size + 1, 0, .int .i64 x), (w.heap.size + 1, 1, .int .i64 y), (w.heap.size, 0, .slice a n cap)] w W ∧ Later w5 W)
    case first =>
      go_region_held3 (fun w' => w'.cell? ⟨w4.heap.size, 0, none⟩ = some (.slice (some ⟨g5, 0, none⟩) n n) ∧ w'.cell? ⟨w.heap.size + 1, 0, none⟩ = some (.int .i64 x) ∧ w'.cell? ⟨w.heap.size + 1, 1, none⟩ = some (.int .i64 y) ∧ w'.cell? ⟨w.heap.size, 0, none⟩ = some (.slice a n cap) ∧ Held [(w4.heap.size, 0, .slice (some ⟨g5, 0, none⟩) n n), (w.heap.size + 1, 0, .int .i64 x), (w.heap.size + 1, 1, .int .i64 y), (w.heap.size, 0, .slice a n cap)] w w') (exact Held.s4 (Held.later H5.out (by repeat (first | exact Later.refl _ | refine Later.drew ?_ | refine Later.drewN ?_ _ | refine Later.alloc ?_ _ | refine Later.trans ?_ (Hid.out (by assumption))))))
        (first
          | (go_at_call 38; refine (l_toInterval _ _ _).mono ?_; rintro e wt ⟨rfl, hbt⟩; have HT := Lib.hid hbt; clear hbt)
          | (go_at_call 55; refine (HMI _ _ _ (S5_5.out.later (by repeat (first | exact Later.refl _ | refine Later.drew ?_ | refine Later.drewN ?_ _ | refine Later.alloc ?_ _ | refine Later.trans ?_ (Hid.out (by assumption))))) (F6.out.later (by repeat (first | exact Later.refl _ | refine Later.drew ?_ | refine Later.drewN ?_ _ | refine Later.alloc ?_ _ | refine Later.trans ?_ (Hid.out (by assumption)))))).mono ?_; rintro e wq ⟨rfl, hbq⟩; have HQ := Lib.hid hbq; clear hbq))
      all_goals
        go_wp2_with fail
        go_meet
        exact ⟨rfl, rfl, Held.later H5.out (by repeat (first | exact Later.refl _ | refine Later.drew ?_ | refine Later.drewN ?_ _ | refine Later.alloc ?_ _ | refine Later.trans ?_ (Hid.out (by assumption)))), (by repeat (first | exact Later.refl _ | refine Later.drew ?_ | refine Later.drewN ?_ _ | refine Later.alloc ?_ _ | refine Later.trans ?_ (Hid.out (by assumption))))⟩
    case rest =>
      obtain ⟨rfl, rfl, h9, hl9⟩ := hcut
      clear k0 k1 k2 k3
      obtain ⟨w6, rfl⟩ : ∃ w6, w6 = wc := ⟨_, rfl⟩
      have H6 := Lib.hid h9
      have S5_5_6 := Lib.hid (S5_5.out.later hl9)
      have F6_6 := Lib.hid (F6.out.later hl9)
      clear h9 hl9
      obtain ⟨k0, k1, k2, k3, _⟩ := Held.s4 H6.out
      have zz0 := H6.out.lt (w4.heap.size) 0 (.slice (some ⟨g5, 0, none⟩) n n) (by simp)
      have zz1 := H6.out.lt (w.heap.size + 1) 0 (.int .i64 x) (by simp)
      have zz2 := H6.out.lt (w.heap.size) 0 (.slice a n cap) (by simp)
      go_wp2_with fail
      go_region_held3 (fun w' => w'.cell? ⟨w4.heap.size, 0, none⟩ = some (.slice (some ⟨g5, 0, none⟩) n n) ∧ w'.cell? ⟨w.heap.size + 1, 0, none⟩ = some (.int .i64 x) ∧ w'.cell? ⟨w.heap.size + 1, 1, none⟩ = some (.int .i64 y) ∧ w'.cell? ⟨w.heap.size, 0, none⟩ = some (.slice a n cap) ∧ Held [(w4.heap.size, 0, .slice (some ⟨g5, 0, none⟩) n n), (w.heap.size + 1, 0, .int .i64 x), (w.heap.size + 1, 1, .int .i64 y), (w.heap.size, 0, .slice a n cap)] w w') (exact Held.s4 (Held.later H6.out (by repeat (first | exact Later.refl _ | refine Later.drew ?_ | refine Later.drewN ?_ _ | refine Later.alloc ?_ _ | refine Later.trans ?_ (Hid.out (by assumption))))))
        (first
          | (go_at_call 32; refine (l_toLayout a n cap L _ (HS.out.later (Held.is (Held.later H6.out (by repeat (first | exact Later.refl _ | refine Later.drew ?_ | refine Later.drewN ?_ _ | refine Later.alloc ?_ _ | refine Later.trans ?_ (Hid.out (by assumption))))))) hle).mono ?_; rintro e wp ⟨gp, rfl, hgp, hrp, hbp⟩; have HP := Lib.hid hbp; have SP := Lib.hid (hrp.sgs HS.out.1 (by omega) HS.out.2.2.2); clear hbp hrp hgp)
          | (go_at_call 35; refine (l_eqLayout_same _ _ n n n n L _ (S5_5_6.out.later (by repeat (first | exact Later.refl _ | refine Later.drew ?_ | refine Later.drewN ?_ _ | refine Later.alloc ?_ _ | refine Later.trans ?_ (Hid.out (by assumption))))) (SP.out.later (by repeat (first | exact Later.refl _ | refine Later.drew ?_ | refine Later.drewN ?_ _ | refine Later.alloc ?_ _ | refine Later.trans ?_ (Hid.out (by assumption)))))).mono ?_; rintro e wq ⟨rfl, hbq⟩; have HQ := Lib.hid hbq; clear hbq))
      all_goals
        go_wp2_with fail
        refine calls_into (fun W => Later w6 W) (by repeat (first | exact Later.refl _ | refine Later.drew ?_ | refine Later.drewN ?_ _ | refine Later.alloc ?_ _ | refine Later.trans ?_ (Hid.out (by assumption)))) ?_
        intro W hb
        have WW : Hid (Later w W) := Lib.hid (H6.out.is.trans hb)
        have FW := Lib.hid (F6_6.out.later hb)
        clear hb
        refine (l_toInt64S A m capF F _ (HF.out.later WW.out) hlm).mono ?_
        rintro e w10 ⟨g10, rfl, hg10, hr10, hs10, hb⟩
        have hb : Later W w10 := hb
        have W10 : Hid (Later w w10) := Lib.hid (WW.out.trans hb)
        have F10 := Lib.hid hs10
        have G10 := Lib.hid (FW.out.later hb)
        clear hb hg10 hr10 hs10
        go_wp2_with fail
        refine (l_eqIE _ _ m m m m F _ G10.out F10.out).mono ?_
        rintro e w11 ⟨rfl, hb⟩
        have W11 : Hid (Later w w11) := Lib.hid (W10.out.trans hb)
        clear hb
        go_wp2_with fail
        go_ret
        exact ⟨rfl, W11.out⟩
end Go.Proofs.Ytdhoiiejcmnmbaa
