/- Contracts of chapter 4: the program's look-ups. -/
import Derived.Test.YtnmlkigpiaekjaaBkF
import Derived.IntWalk
namespace Go.Proofs.Ytnmlkigpiaekjaa
open Go.RowKit
set_option maxHeartbeats 4000000
set_option linter.unusedVariables false
set_option linter.unusedSimpArgs false
theorem hasW_sec {L : List Sg} {F : List Int} (h : bkB L F = true) (p : Int) (i : Nat) (hi : i < F.length) : hasW p (sec L F i) = hasP p (sec L F i) := by
  obtain ⟨hl, hk⟩ := bkB_lay h
  obtain ⟨_, h24, ho, _⟩ := (layB_iff L).1 hl
  obtain ⟨g1, g2, g3⟩ := blk_bd hk i hi
  have u := up_bd L (endK L F i) g3 (okB_le L L.length _ g3 ho)
  have e : wrap64 ((sec L F i).s + (sec L F i).e) = (sec L F i).s + (sec L F i).e := by
    have e2 : (sec L F i).s + (sec L F i).e = upL L (endK L F i) := stK_end L F i
    rw [e2]
    exact IntWalk.wrap64_in _ (by omega)
  unfold hasW hasP
  rw [e]
theorem find_congr {m : Nat} {q q' : Nat → Bool} (h : ∀ i, i < m → q i = q' i) : (List.range m).find? q = (List.range m).find? q' := by
  have : ∀ l : List Nat, (∀ i ∈ l, q i = q' i) → l.find? q = l.find? q' := by
    intro l
    induction l with
    | nil => intro _; rfl
    | cons x l ih =>
      intro hl
      rw [List.find?_cons, List.find?_cons, hl x (by simp), ih (fun i hi => hl i (by simp [hi]))]
  exact this _ (fun i hi => h i (List.mem_range.1 hi))
theorem fnd_W {L : List Sg} {F : List Int} (p : Int) : fndC L F (hasW p) = fndC L F (hasP p) ∧ fndE L F (hasW p) = fndE L F (hasP p) := by
  cases hb : bkB L F
  · exact ⟨by rw [(fndC_bad hb).1, (fndC_bad hb).1], by rw [(fndC_bad hb).2, (fndC_bad hb).2]⟩
  · have e : fnd L F (hasW p) = fnd L F (hasP p) := find_congr (fun i hi => hasW_sec hb p i hi)
    unfold fndC fndE
    rw [e]
    exact ⟨rfl, rfl⟩
theorem i_sectionNumbered (a : Option Addr) (n cap : Nat) (L : List Sg) (A : Option Addr) (m capF : Nat) (F : List Int) (p : Int) (w : World) (hs : Sgs w a n L) (hf : Sl w A m F) (hcn : n ≤ cap) (hcF : m ≤ capF) :
    Calls Try.prog 63 #[.agg #[.slice a n cap], .slice A m capF, .int .i64 p] w fun e w' => e = .returned (.tuple #[scV (fndC L F (isNo p)), .int .i64 (fndE L F (isNo p))]) ∧ Later w w' := by
  have HS := Lib.hid hs; have HF := Lib.hid hf
  clear hs hf
  go_enter Try.func63, Try.ntmps63
  go_wp2_with fail
  refine (f_isNo a n cap L A m capF F p (w.heap.size + 1) _ (HS.out.later (by repeat (first | (with_reducible exact Later.refl _) | (with_reducible exact Hid.out (by assumption)) | (with_reducible refine Later.alloc ?_ _) | (with_reducible refine Later.setCell ?_ (by simp; omega) _) | (with_reducible refine Later.setCell ?_ (by simp) _) | (with_reducible refine Later.drewN ?_ _) | (with_reducible refine Later.drew ?_) | (with_reducible refine Later.trans ?_ (Hid.out (by assumption)))))) (HF.out.later (by repeat (first | (with_reducible exact Later.refl _) | (with_reducible exact Hid.out (by assumption)) | (with_reducible refine Later.alloc ?_ _) | (with_reducible refine Later.setCell ?_ (by simp; omega) _) | (with_reducible refine Later.setCell ?_ (by simp) _) | (with_reducible refine Later.drewN ?_ _) | (with_reducible refine Later.drew ?_) | (with_reducible refine Later.trans ?_ (Hid.out (by assumption)))))) hcn hcF (by rw [World.cell?_alloc_lt _ _ ⟨w.heap.size + 1, 0, none⟩ (by simp)]; simp)).mono ?_
  rintro e w1 ⟨rfl, hb⟩
  obtain ⟨HH, hcc, hff, hzz⟩ := later_facts hb
  have H1 := Lib.hid (show Later w w1 from Later.trans (by repeat (first | (with_reducible exact Later.refl _) | (with_reducible exact Hid.out (by assumption)) | (with_reducible refine Later.alloc ?_ _) | (with_reducible refine Later.setCell ?_ (by simp; omega) _) | (with_reducible refine Later.setCell ?_ (by simp) _) | (with_reducible refine Later.drewN ?_ _) | (with_reducible refine Later.drew ?_) | (with_reducible refine Later.trans ?_ (Hid.out (by assumption))))) hb)
  have hz : w.heap.size + 1 + 1 < w1.heap.size := by have := hb.size; simp at this; omega
  clear hb
  unfold scV
  go_wp2_with fail
  refine bodyPost_ret (v := .tuple #[.agg #[.int .i64 (fndC L F (isNo p)).n, .int .i64 (fndC L F (isNo p)).f, .int .i64 (fndC L F (isNo p)).l, .int .i64 (fndC L F (isNo p)).s, .int .i64 (fndC L F (isNo p)).e], .int .i64 (fndE L F (isNo p))]) (by simp [results, Try.results63, go_sem, scV, *] <;> omega) rfl ⟨rfl, (by repeat (first | (with_reducible exact Later.refl _) | (with_reducible exact Hid.out (by assumption)) | (with_reducible refine Later.alloc ?_ _) | (with_reducible refine Later.setCell ?_ (by simp; omega) _) | (with_reducible refine Later.setCell ?_ (by simp) _) | (with_reducible refine Later.drewN ?_ _) | (with_reducible refine Later.drew ?_) | (with_reducible refine Later.trans ?_ (Hid.out (by assumption)))))⟩
end Go.Proofs.Ytnmlkigpiaekjaa
