/- The laws' helpers on programs: copies of lines and of whole programs. -/
import Derived.Test.YtokipobjpinhmaaDoorPsy
namespace Go.Proofs.YtokipobjpinhmaaDoor
open Go.RowKit Go.Shelf
set_option maxHeartbeats 8000000
set_option maxRecDepth 100000
set_option linter.unusedVariables false
set_option linter.unusedSimpArgs false
theorem info_lneQ : (Tryd.prog.info? 75).map (fun i => (i.zero, i.size, i.bytes)) = some (some (.agg #[.string ⟨#[]⟩, .slice none 0 0]), 2, 40) := by kernel_rfl
/-- a copy of a list of lines -/
def CopiedM (w : World) (n : Nat) (M : List Lne) (e : Ending) (w' : World) : Prop :=
  ∃ g, e = .returned (.slice (some ⟨g, 0, none⟩) n n) ∧ w.heap.size ≤ g ∧ Wrt w' g ∧ Lnb w.heap.size w' (some ⟨g, 0, none⟩) n M ∧ Later w w'
/-- the first k lines are there, behind the cells C of block g -/
def LnsAt (g : Nat) (w : World) (C : List Value) (M : List Lne) (k : Nat) : Prop :=
  ∀ j, j < k → ∃ ta tc, C[j * 2]? = some (.string (tx (ltx M j))) ∧ C[j * 2 + 1]? = some (.slice ta (lrx M j).length tc) ∧ Trs w ta (lrx M j).length (lrx M j) ∧ ∀ x, ta = some x → g < x.block ∧ Wrt w x.block
theorem LnsAt.later {g : Nat} {w w' : World} {C : List Value} {M : List Lne} {k : Nat} (h : LnsAt g w C M k) (hb : Later w w') : LnsAt g w' C M k := fun j hj => by
  obtain ⟨ta, tc, h1, h2, h3, h4⟩ := h j hj
  exact ⟨ta, tc, h1, h2, h3.later hb, fun x e => ⟨(h4 x e).1, (h4 x e).2.later hb⟩⟩
theorem LnsAt.step {g : Nat} {w : World} {C : List Value} {M : List Lne} {k n : Nat} (h : LnsAt g w C M k) (hC : C.length = n * 2) (hk : k < n) (ta : Option Addr) (tc : Nat) (ht : Trs w ta (lrx M k).length (lrx M k)) (hb : ∀ x, ta = some x → g < x.block ∧ Wrt w x.block) (s : ByteArray) (hs : s = tx (ltx M k)) (m : Nat) (hm : m = (lrx M k).length) :
    LnsAt g ((w.setCell ⟨g, k * 2, none⟩ (.string s)).setCell ⟨g, k * 2 + 1, none⟩ (.slice ta m tc)) ((C.set (k * 2) (.string s)).set (k * 2 + 1) (.slice ta m tc)) M (k + 1) := by
  subst hs; subst hm
  intro j hj
  have two : ∀ {a : Option Addr} {q : Nat} {L : List Trm}, Trs w a q L → (∀ x, a = some x → g < x.block) → Trs ((w.setCell ⟨g, k * 2, none⟩ (.string (tx (ltx M k)))).setCell ⟨g, k * 2 + 1, none⟩ (.slice ta (lrx M k).length tc)) a q L := fun h1 h2 =>
    (h1.setO (fun x e => Nat.ne_of_gt (h2 x e)) _).setO (fun x e => Nat.ne_of_gt (h2 x e)) _
  by_cases e : j = k
  · subst e
    refine ⟨ta, tc, ?_, ?_, two ht (fun x e => (hb x e).1), fun x e => ⟨(hb x e).1, ((hb x e).2.set _ _).set _ _⟩⟩
    · rw [List.getElem?_set, if_neg (by omega), List.getElem?_set, if_pos rfl, if_pos (by omega)]
    · rw [List.getElem?_set, if_pos rfl, List.length_set, if_pos (by omega)]
  · obtain ⟨ua, uc, h1, h2, h3, h4⟩ := h j (by omega)
    refine ⟨ua, uc, ?_, ?_, two h3 (fun x e => (h4 x e).1), fun x e => ⟨(h4 x e).1, ((h4 x e).2.set _ _).set _ _⟩⟩
    · rw [List.getElem?_set, if_neg (by omega), List.getElem?_set, if_neg (by omega)]; exact h1
    · rw [List.getElem?_set, if_neg (by omega), List.getElem?_set, if_neg (by omega)]; exact h2
theorem l_toLineS (a : Option Addr) (n cap : Nat) (M : List Lne) (w : World) (hs : Lns w a n M) (hn : n ≤ 1048576) :
    Calls Tryd.prog 64 #[.slice a n cap] w (CopiedM w n M) := by
  have HS := Lib.hid hs
  have HL := Lib.hid hs.1
  have HI2 := Lib.hid hs.2.2.2
  clear hs
  obtain ⟨i0, hi, hz0, hz1, hz2⟩ := info_parts info_lneQ
  have HI := Lib.hid hi; clear hi
  have HZ0 := Lib.hid hz0; clear hz0
  have HZ1 := Lib.hid hz1; clear hz1
  have HZ2 := Lib.hid hz2; clear hz2
  go_enter Tryd.func64, Tryd.ntmps64
  go_wp2_with (refine wpList_make_full _ rfl _ _ _ rfl w.heap.size 75 i0 (.agg #[.string ⟨#[]⟩, .slice none 0 0]) 2 Tryd.underlying25 HI.out HZ0.out HZ1.out _ _ _ _ n rfl rfl rfl rfl (by rw [HZ2.out]; omega) (by unfold maxLen; omega) (Nat.le_refl _) ?_; intro w1 hown hgrow)
  obtain ⟨C, hC, hown⟩ : ∃ C : List Value, C.length = n * 2 ∧ w1.ownsRow w.heap.size 75 2 (.slice (some ⟨w.heap.size, 0, none⟩) n n) n C := ⟨_, by simp [madeCells], hown⟩
  have HC := Lib.hid hC
  have HO := Lib.hid hown
  have HB : Hid (Later w w1) := Lib.hid ((Below.refl _ _).grown hgrow (Nat.le_refl _) (by simp))
  clear hown hgrow hC
  go_loopw [4] (fun i wr => ∃ k : Nat, k ≤ n ∧ i = .int .i64 k ∧ (∃ C : List Value, C.length = n * 2 ∧ wr.ownsRow w.heap.size 75 2 (.slice (some ⟨w.heap.size, 0, none⟩) n n) n C ∧ LnsAt w.heap.size wr C M k) ∧ Later w wr) (fun i _ => n - (intOf i).toNat)
  case atStart => exact ⟨0, by omega, rfl, ⟨C, HC.out, HO.out, fun j hj => by omega⟩, HB.out⟩
  case round =>
    clear HO HB HC
    clear C
    obtain ⟨k, hk, rfl, ⟨C, hC, ho, hla⟩, hb⟩ := hrel
    have HR := Lib.hid ho
    have HW := Lib.hid hb
    have HC := Lib.hid hC
    have LA := Lib.hid hla
    have hsz := (ho.lt w.heap.size rfl).2
    clear ho hb hC hla
    by_cases hlt : k < n
    · obtain ⟨b', off', sa, sc, rfl, c0, c1, c2⟩ := (HS.out.later HW.out).2.2.1 k hlt
      have hq2 := (HS.out.rng k hlt).2
      have TT := Lib.hid (fun W h => l_toLine (ltx M k) sa (lrx M k).length sc (lrx M k) W h hq2)
      have ST := Lib.hid c2
      obtain ⟨y, hy⟩ : ∃ y, y = tx (ltx M k) := ⟨_, rfl⟩
      obtain ⟨q, hq⟩ : ∃ y, y = (lrx M k).length := ⟨_, rfl⟩
      have HY := Lib.hid hy
      have HQ := Lib.hid hq
      rw [← hy] at c0
      rw [← hq] at c1 TT ST hq2
      have TT2 : Hid (∀ W, Trs W sa q (lrx M k) → Calls Tryd.prog 104 #[.agg #[.string y, .slice sa q sc]] W (CopiedL W (ltx M k) q (lrx M k))) := Lib.hid (by rw [hy]; exact TT.out)
      clear hy hq c2 TT
      go_wp2_with fail
      refine (TT2.out _ (ST.out.later (by repeat (first | (with_reducible exact Later.refl _) | (with_reducible exact Hid.out (by assumption)) | (with_reducible refine Later.alloc ?_ _) | (with_reducible refine Later.setCell ?_ (by simp; omega) _) | (with_reducible refine Later.setCell ?_ (by simp) _) | (with_reducible refine Later.drewN ?_ _) | (with_reducible refine Later.drew ?_) | (with_reducible refine Later.trans ?_ (Hid.out (by assumption))))))).mono ?_
      rintro e w2 ⟨g, rfl, hg1, hg2, ht2, hb2⟩
      rw [← HY.out]
      have H2 := Lib.hid (Later.trans HW.out hb2)
      have T2 := Lib.hid ht2
      have LA2 := Lib.hid (LA.out.later hb2)
      have R2 := Lib.hid (HR.out.kept (row := none) (grown_of_later hb2 none) (.inr (fun e => by cases e)))
      have hsz2 : w.heap.size < w2.heap.size := (R2.out.lt w.heap.size rfl).2
      have GB : Hid (∀ x, some (⟨g, 0, none⟩ : Addr) = some x → w.heap.size < x.block ∧ Wrt w2 x.block) := Lib.hid (fun x e => by cases e; have := hb2.size; exact ⟨by simp at hg1 ⊢; omega, hg2⟩)
      obtain ⟨z0, hz0⟩ : ∃ z, C[k * 2]? = some z := ⟨_, List.getElem?_eq_getElem (by rw [HC.out]; omega)⟩
      obtain ⟨z1, hz1⟩ : ∃ z, C[k * 2 + 1]? = some z := ⟨_, List.getElem?_eq_getElem (by rw [HC.out]; omega)⟩
      have u0 : w2.cell? ⟨w.heap.size, k * 2, none⟩ = some z0 := by rw [R2.out.cellAt (k * 2) (by omega)]; exact hz0
      have u1 : w2.cell? ⟨w.heap.size, k * 2 + 1, none⟩ = some z1 := by rw [R2.out.cellAt (k * 2 + 1) (by omega)]; exact hz1
      have g0 : w2.frozen? ⟨w.heap.size, k * 2, none⟩ = false := R2.out.frozenAt _
      have g1 : w2.frozen? ⟨w.heap.size, k * 2 + 1, none⟩ = false := R2.out.frozenAt _
      clear hb2 c0 c1 ht2 HR hz0 hz1 hg1 hg2 LA
      go_wp2_with fail
      go_roundw
      case rel =>
        refine ⟨k + 1, by omega, by go_num, ⟨_, ?_, ((R2.out.stored _ _).1.stored _ _).1, ?_⟩, (by repeat (first | (with_reducible exact Hid.out (by assumption)) | (with_reducible refine Later.setCell ?_ (Nat.le_refl _) _) | (with_reducible refine Later.drewN ?_ _) | (with_reducible refine Later.drew ?_)))⟩
        · rw [List.length_set, List.length_set]; exact HC.out
        · exact LA2.out.step HC.out hlt _ _ (by rw [← HQ.out]; exact T2.out) GB.out _ HY.out _ HQ.out
      case measure => simp [intOf]; omega
    · obtain rfl : k = n := by omega
      have hlt2 := hsz
      have HWT : Hid (Wrt wr w.heap.size) := Lib.hid ⟨hsz, fun j => HR.out.frozenAt _⟩
      go_wp2
      go_ret
      refine ⟨w.heap.size, rfl, Nat.le_refl _, HWT.out, ⟨HL.out, by omega, fun x e => by cases e; exact Nat.le_refl _, fun j hj => ?_, HI2.out⟩, HW.out⟩
      obtain ⟨ta, tc, h1, h2, h3, h4⟩ := LA.out j hj
      refine ⟨w.heap.size, 0, ta, tc, rfl, ?_, ?_, h3, fun x e => ⟨Nat.le_of_lt (h4 x e).1, (h4 x e).2, Nat.ne_of_gt (h4 x e).1⟩⟩
      · rw [Nat.zero_add, HR.out.cellAt (j * 2) (by omega)]; exact h1
      · rw [Nat.zero_add, HR.out.cellAt (j * 2 + 1) (by omega)]; exact h2
end Go.Proofs.YtokipobjpinhmaaDoor
