/- Contracts of chapter 5: loads of blocks: the program's function. | Marks that the exact laws write into lists of int64, and find again. | Copies of slices of int64 that may be written; marks from any number on. | Marks that the exact laws write into layouts. | The walks of the exact laws of chapter 5 on occupied blocks and their loads. -/
import Derived.Test.YtehinlecppbjeaaMgOdD1
import Derived.Maps.RangeWalk
import Derived.Test.YtehinlecppbjeaaOwn
import Derived.Test.YtehinlecppbjeaaMem
import Derived.Test.YtehinlecppbjeaaSgK
import Derived.Test.YtehinlecppbjeaaGrown
import Derived.Test.YtehinlecppbjeaaExT
import Derived.Test.YtehinlecppbjeaaSgC
namespace Go.Proofs.Ytehinlecppbjeaa
open Go.RowKit Go.Shelf Go.Maps
set_option maxHeartbeats 4000000
set_option linter.unusedVariables false
set_option linter.unusedSimpArgs false
theorem plainElem_bool_inv {H : Type} {P : Program} {e : TypeId} (he : P.underlying e = some .bool) {v : Value} {z : DataW H × List MemPlace} (h : plainElem P e v = some z) : ∃ c, v = .bool c := by
  unfold plainElem at h
  rw [he] at h
  cases v <;> simp at h
  exact ⟨_, rfl⟩
/-- the keys that have come -/
def doneF {H : Type} (D : DataW H) (left : Lit → Bool) (c : Nat) : Bool := has D (.int .i64 c) && !left (.int .i64 c)
theorem doneF_0 {H : Type} (D : DataW H) : doneF D (has D) = fun _ => false := by funext c; simp [doneF]
theorem doneF_step {H : Type} {D : DataW H} {left : Lit → Bool} {x : Nat} (hh : has D (.int .i64 x) = true) (c : Nat) : doneF D (fun z => left z && !z.sameKey (.int .i64 x)) c = (doneF D left c || c == x) := by
  unfold doneF
  by_cases e : c = x
  · subst e; simp [hh, Lit.sameKey]
  · have e2 : ¬ ((c : Int) = (x : Int)) := by omega
    simp [Lit.sameKey, e, e2]
theorem doneF_no {H : Type} {D : DataW H} {left : Lit → Bool} {x : Nat} (hl : left (.int .i64 x) = true) : doneF D left x = false := by simp [doneF, hl]
theorem doneF_all {H : Type} {L : List Sg} {F : List Int} {p q : Int} {D : DataW H} {left : Lit → Bool} (hD : OccD L F p q D) (hl : ∀ kl, left kl = false) (c : Nat) (hc : c < F.length) : doneF D left c = ocB L F p q c := by
  unfold doneF
  rw [hl, Bool.not_false, Bool.and_true, Bool.eq_iff_iff, hD.2.2, ocK_mem]
  constructor
  · rintro ⟨b, e, _, h⟩; have : c = b := by omega
    rw [this]; exact h
  · intro h; exact ⟨c, rfl, hc, h⟩
theorem Own.keptN {w w' : World} {base g n cap : Nat} {l : List Int} {row : Option Nat} (h : Own w base (.slice (some ⟨g, 0, none⟩) n cap) l) (hg : w.grownBy w' row) (hr : row ≠ some g) : Own w' base (.slice (some ⟨g, 0, none⟩) n cap) l :=
  ⟨h.1.kept hg (.inr (fun e => hr e.symm)), h.2⟩
set_option maxRecDepth 100000 in
theorem i_BlockLoads (a : Option Addr) (n cap : Nat) (L : List Sg) (A : Option Addr) (m capF : Nat) (F : List Int) (aP : Option Addr) (mP capP : Nat) (P : List Int) (q : Int) (w : World) (hs : Sgs w a n L) (hf : Sl w A m F) (hp : Sl w aP mP P) (hcn : n ≤ cap) (hcF : m ≤ capF) :
    Calls Try.prog 34 #[.agg #[.slice a n cap], .slice A m capF, .slice aP mP capP, .int .i64 q] w (GivesC w (ldV L F P q) (ldE L F P q)) := by
  have HS := Lib.hid hs; have HF := Lib.hid hf; have HM := Lib.hid hf.1; have HP := Lib.hid hp; have HMP := Lib.hid hp.1
  have KB : Hid (∀ W', Later (w.alloc (.cells #[.slice a n cap] 26)) W' → W'.cell? ⟨w.heap.size, 0, none⟩ = some (.slice a n cap)) := Lib.hid (fun W' k => by rw [k.cell (p := ⟨w.heap.size, 0, none⟩) (by simp)]; simp)
  have hmp := hp.2.1
  clear hs hf hp
  cases hb : bkB L F
  · have HT : Hid (ldV L F P q = [] ∧ ldE L F P q = 1) := Lib.hid (by
      have : ldE L F P q = 1 := by unfold ldE; rw [hb]; simp
      unfold ldV; rw [this]; simp)
    go_enter Try.func34, Try.ntmps34
    go_wp2_with fail
    refine (i_trackOfBlocks a n cap L A m capF F _ (HS.out.later (by repeat (first | (with_reducible exact Later.refl _) | (with_reducible exact Hid.out (by assumption)) | (with_reducible refine Later.alloc ?_ _) | (with_reducible refine Later.setCell ?_ (by simp; omega) _) | (with_reducible refine Later.setCell ?_ (by simp) _) | (with_reducible refine Later.drewN ?_ _) | (with_reducible refine Later.drew ?_) | (with_reducible refine Later.trans ?_ (Hid.out (by assumption)))))) (HF.out.later (by repeat (first | (with_reducible exact Later.refl _) | (with_reducible exact Hid.out (by assumption)) | (with_reducible refine Later.alloc ?_ _) | (with_reducible refine Later.setCell ?_ (by simp; omega) _) | (with_reducible refine Later.setCell ?_ (by simp) _) | (with_reducible refine Later.drewN ?_ _) | (with_reducible refine Later.drew ?_) | (with_reducible refine Later.trans ?_ (Hid.out (by assumption)))))) hcF).mono ?_
    rw [hb]
    rintro e w1 ⟨rfl, hb1⟩
    have c1 := KB.out w1 hb1
    have H1 := Lib.hid hb1
    clear hb1
    go_wp2_with fail
    go_ret2
    exact ⟨.slice none 0 0, by rw [HT.out.2]; rfl, by rw [HT.out.1]; exact own_none _ _, (by repeat (first | (with_reducible exact Later.refl _) | (with_reducible exact Hid.out (by assumption)) | (with_reducible refine Later.alloc ?_ _) | (with_reducible refine Later.setCell ?_ (by simp; omega) _) | (with_reducible refine Later.setCell ?_ (by simp) _) | (with_reducible refine Later.drewN ?_ _) | (with_reducible refine Later.drew ?_) | (with_reducible refine Later.trans ?_ (Hid.out (by assumption)))))⟩
  have HB := Lib.hid hb
  have hv := (bkB_lay hb).1
  have HV := Lib.hid hv
  have hm8 : m ≤ 8 := by have := ((bkC_iff L F).1 (bkB_lay hb).2).2.1; rw [HM.out] at this; exact this
  by_cases h4 : 4 < mP
  · have HT : Hid (ldV L F P q = [] ∧ ldE L F P q = 3) := Lib.hid (by
      have : ldE L F P q = 3 := by unfold ldE; rw [hb, if_pos rfl, if_neg (by rw [HMP.out]; omega)]
      unfold ldV; rw [this]; simp)
    clear hv
    go_enter Try.func34, Try.ntmps34
    go_wp2_with fail
    refine (i_trackOfBlocks a n cap L A m capF F _ (HS.out.later (by repeat (first | (with_reducible exact Later.refl _) | (with_reducible exact Hid.out (by assumption)) | (with_reducible refine Later.alloc ?_ _) | (with_reducible refine Later.setCell ?_ (by simp; omega) _) | (with_reducible refine Later.setCell ?_ (by simp) _) | (with_reducible refine Later.drewN ?_ _) | (with_reducible refine Later.drew ?_) | (with_reducible refine Later.trans ?_ (Hid.out (by assumption)))))) (HF.out.later (by repeat (first | (with_reducible exact Later.refl _) | (with_reducible exact Hid.out (by assumption)) | (with_reducible refine Later.alloc ?_ _) | (with_reducible refine Later.setCell ?_ (by simp; omega) _) | (with_reducible refine Later.setCell ?_ (by simp) _) | (with_reducible refine Later.drewN ?_ _) | (with_reducible refine Later.drew ?_) | (with_reducible refine Later.trans ?_ (Hid.out (by assumption)))))) hcF).mono ?_
    rw [hb]
    rintro e w1 ⟨rfl, hb1⟩
    have c1 := KB.out w1 hb1
    have H1 := Lib.hid hb1
    clear hb1
    go_wp2_with fail
    go_ret2
    exact ⟨.slice none 0 0, by rw [HT.out.2]; rfl, by rw [HT.out.1]; exact own_none _ _, (by repeat (first | (with_reducible exact Later.refl _) | (with_reducible exact Hid.out (by assumption)) | (with_reducible refine Later.alloc ?_ _) | (with_reducible refine Later.setCell ?_ (by simp; omega) _) | (with_reducible refine Later.setCell ?_ (by simp) _) | (with_reducible refine Later.drewN ?_ _) | (with_reducible refine Later.drew ?_) | (with_reducible refine Later.trans ?_ (Hid.out (by assumption)))))⟩
  cases ht : trsB (totL L) q P
  · have HT : Hid (ldV L F P q = [] ∧ ldE L F P q = 2) := Lib.hid (by
      have : ldE L F P q = 2 := by unfold ldE; rw [hb, if_pos rfl, if_pos (by rw [HMP.out]; omega), ht]; simp
      unfold ldV; rw [this]; simp)
    clear hv
    go_enter Try.func34, Try.ntmps34
    go_wp2_with fail
    refine (i_trackOfBlocks a n cap L A m capF F _ (HS.out.later (by repeat (first | (with_reducible exact Later.refl _) | (with_reducible exact Hid.out (by assumption)) | (with_reducible refine Later.alloc ?_ _) | (with_reducible refine Later.setCell ?_ (by simp; omega) _) | (with_reducible refine Later.setCell ?_ (by simp) _) | (with_reducible refine Later.drewN ?_ _) | (with_reducible refine Later.drew ?_) | (with_reducible refine Later.trans ?_ (Hid.out (by assumption)))))) (HF.out.later (by repeat (first | (with_reducible exact Later.refl _) | (with_reducible exact Hid.out (by assumption)) | (with_reducible refine Later.alloc ?_ _) | (with_reducible refine Later.setCell ?_ (by simp; omega) _) | (with_reducible refine Later.setCell ?_ (by simp) _) | (with_reducible refine Later.drewN ?_ _) | (with_reducible refine Later.drew ?_) | (with_reducible refine Later.trans ?_ (Hid.out (by assumption)))))) hcF).mono ?_
    rw [hb]
    rintro e w1 ⟨rfl, hb1⟩
    have c1 := KB.out w1 hb1
    have H1 := Lib.hid hb1
    clear hb1
    go_wp2_with fail
    refine (i_areTrains (totL L) q aP mP capP P _ (sl_lat HP.out (by repeat (first | (with_reducible exact Later.refl _) | (with_reducible exact Hid.out (by assumption)) | (with_reducible refine Later.alloc ?_ _) | (with_reducible refine Later.setCell ?_ (by simp; omega) _) | (with_reducible refine Later.setCell ?_ (by simp) _) | (with_reducible refine Later.drewN ?_ _) | (with_reducible refine Later.drew ?_) | (with_reducible refine Later.trans ?_ (Hid.out (by assumption))))))).mono ?_
    rw [ht]
    rintro e w2 ⟨rfl, rfl⟩
    go_wp2_with fail
    go_ret2
    exact ⟨.slice none 0 0, by rw [HT.out.2]; rfl, by rw [HT.out.1]; exact own_none _ _, (by repeat (first | (with_reducible exact Later.refl _) | (with_reducible exact Hid.out (by assumption)) | (with_reducible refine Later.alloc ?_ _) | (with_reducible refine Later.setCell ?_ (by simp; omega) _) | (with_reducible refine Later.setCell ?_ (by simp) _) | (with_reducible refine Later.drewN ?_ _) | (with_reducible refine Later.drew ?_) | (with_reducible refine Later.trans ?_ (Hid.out (by assumption)))))⟩
  · have HT : Hid (ldV L F P q = ldK L F P q mP ∧ ldE L F P q = 0) := Lib.hid (by
      have : ldE L F P q = 0 := by unfold ldE; rw [hb, if_pos rfl, if_pos (by rw [HMP.out]; omega), ht]; simp
      unfold ldV; rw [this, HMP.out]; simp)
    have h3 := ht
    unfold trsB at h3
    rw [Bool.and_eq_true] at h3
    obtain ⟨n1, n2, n3⟩ := (isN_iff _ _).1 h3.1
    have HAL : Hid (∀ k, k < mP → 0 ≤ gx P k ∧ gx P k < totL L) := Lib.hid (fun k hk => allP_at h3.2 k (by rw [HMP.out]; exact hk))
    have K0 : Hid (ldK L F P q 0 = List.replicate m 0) := Lib.hid (by unfold ldK; rw [HM.out, List.map_congr_left (g := fun _ => (0 : Int)) (fun b _ => ldN_0 L F P q b)]; simp [List.map_const'])
    obtain ⟨i0, hi, hz0, hz1, hz2⟩ := info_parts info_i64
    have HI := Lib.hid hi; clear hi
    have HZ0 := Lib.hid hz0; clear hz0
    have HZ1 := Lib.hid hz1; clear hz1
    have HZ2 := Lib.hid hz2; clear hz2
    clear hv h3
    go_enter Try.func34, Try.ntmps34
    go_wp2_with fail
    refine (i_trackOfBlocks a n cap L A m capF F _ (HS.out.later (by repeat (first | (with_reducible exact Later.refl _) | (with_reducible exact Hid.out (by assumption)) | (with_reducible refine Later.alloc ?_ _) | (with_reducible refine Later.setCell ?_ (by simp; omega) _) | (with_reducible refine Later.setCell ?_ (by simp) _) | (with_reducible refine Later.drewN ?_ _) | (with_reducible refine Later.drew ?_) | (with_reducible refine Later.trans ?_ (Hid.out (by assumption)))))) (HF.out.later (by repeat (first | (with_reducible exact Later.refl _) | (with_reducible exact Hid.out (by assumption)) | (with_reducible refine Later.alloc ?_ _) | (with_reducible refine Later.setCell ?_ (by simp; omega) _) | (with_reducible refine Later.setCell ?_ (by simp) _) | (with_reducible refine Later.drewN ?_ _) | (with_reducible refine Later.drew ?_) | (with_reducible refine Later.trans ?_ (Hid.out (by assumption)))))) hcF).mono ?_
    rw [hb]
    rintro e w1 ⟨rfl, hb1⟩
    have c1 := KB.out w1 hb1
    have H1 := Lib.hid hb1
    clear hb1
    go_wp2_with fail
    refine (i_areTrains (totL L) q aP mP capP P _ (sl_lat HP.out (by repeat (first | (with_reducible exact Later.refl _) | (with_reducible exact Hid.out (by assumption)) | (with_reducible refine Later.alloc ?_ _) | (with_reducible refine Later.setCell ?_ (by simp; omega) _) | (with_reducible refine Later.setCell ?_ (by simp) _) | (with_reducible refine Later.drewN ?_ _) | (with_reducible refine Later.drew ?_) | (with_reducible refine Later.trans ?_ (Hid.out (by assumption))))))).mono ?_
    rw [ht]
    rintro e w2 ⟨rfl, rfl⟩
    clear ht hb
    go_wp2_with (at_make; go_must (refine wpList_make_full _ rfl _ _ _ rfl w1.heap.size 2 i0 (.int .i64 0) 1 Try.underlying38 HI.out HZ0.out HZ1.out _ _ _ _ m rfl rfl (by omega) (by omega) (by rw [HZ2.out]; omega) (by unfold maxLen; omega) (Nat.le_refl _) ?_; intro w3 hown hgrow; have c11 : True := trivial))
    have O3 : Hid (Own w3 w1.heap.size (.slice (some ⟨w1.heap.size, 0, none⟩) m m) (ldK L F P q 0)) := Lib.hid (by
      rw [K0.out]
      refine ⟨?_, fun x hx => by rw [List.eq_of_mem_replicate hx]; exact ⟨by omega, by omega⟩⟩
      have := toList_madeCells_one (.int .i64 0) m
      simpa [Value.cells, this] using hown)
    have Z3 : Hid (Later w1 w3) := Lib.hid ((Below.refl _ _).grown hgrow (Nat.le_refl _) (by simp))
    clear hown hgrow c11 c1
    go_loopw [38] (fun i wr => ∃ k : Nat, k ≤ mP ∧ i = .int .i64 k ∧ Own wr w1.heap.size (.slice (some ⟨w1.heap.size, 0, none⟩) m m) (ldK L F P q k) ∧ Later w1 wr) (fun i _ => mP - (intOf i).toNat)
    case atStart => exact ⟨0, by omega, rfl, O3.out, Z3.out⟩
    case round =>
      obtain ⟨k, hk, rfl, ho, hlw⟩ := hrel
      have O4 := Lib.hid ho
      have HW2 := Lib.hid hlw
      have HW : Hid (Later w wr) := Lib.hid ((((Later.refl _).alloc _).trans H1.out).trans hlw)
      have cb := KB.out wr (H1.out.trans hlw)
      have hgr := (ho.1.lt w1.heap.size rfl).2
      clear ho hlw
      by_cases hlt : k < mP
      · obtain ⟨bP, oP, rfl, cP⟩ := (sl_lat HP.out HW.out).at k hlt
        obtain ⟨g0, g1⟩ := HAL.out k hlt
        go_wp2_with fail
        refine (i_occupiedBy (H := Unit) a n cap L A m capF F (gx P k) q _ (HS.out.later HW.out) (HF.out.later HW.out) hcn hcF HB.out g0 g1 n1 n3).mono ?_
        rintro e w4 ⟨b, kk, D, rfl, hown, hbz, hkk, hD, hb4⟩
        have O5 := Lib.hid (O4.out.lat hb4)
        have HW4 := Lib.hid (HW2.out.trans hb4)
        have M4 := Lib.hid hown
        have HDD := Lib.hid hD
        have hz4 := Later.size hb4
        clear hown hD hb4 cP cb
        go_wp2_with (first
          | (at_range; refine wpList_range_own _ rfl _ 97 rfl 2 4 (Maps.int_keyed Try.underlying2) Try.underlying97 _ b kk D rfl M4.out ?_; intro w5 hrg0 hg0 hs0)
          | go_in)
        have R5 := Lib.hid hrg0
        have O6 := Lib.hid (O5.out.keptN hg0 (by simp))
        have HW5 : Hid (Later w1 w5) := Lib.hid (Below.grown HW4.out hg0 HW4.out.size (by simp))
        clear hrg0 hg0 hs0
        go_frame
        go_loopw [15] (fun _ wx => ∃ (left : Lit → Bool) (cnt : Nat), wx.ranges Try.prog 2 (plainElem (H := Unit) Try.prog 4) b w4.heap.size kk D left cnt ∧ Own wx w1.heap.size (.slice (some ⟨w1.heap.size, 0, none⟩) m m) (ldQ L F P q k (doneF D left)) ∧ Later w1 wx ∧ (∀ kl, left kl = true → has D kl = true)) (fun _ wx => wx.rangeLeft b w4.heap.size)
        case atStart => exact ⟨_, _, R5.out, by rw [doneF_0, ldQ_none]; exact O6.out, HW5.out, fun _ h => h⟩
        case round =>
          obtain ⟨wx, rfl⟩ : ∃ wx, wx = wr := ⟨_, rfl⟩
          obtain ⟨left, cnt, hrg, ho, hlx, hlf⟩ := hrel
          have R6 := Lib.hid hrg
          have O7 := Lib.hid ho
          have HX := Lib.hid hlx
          have HLF := Lib.hid hlf
          clear hrg ho hlx hlf
          go_wp2_with (first
            | (at_next; refine wpList_next_ranges _ rfl _ rfl 2 (Maps.int_keyed Try.underlying2) (plainElem (H := Unit) Try.prog 4) (Value.int .i64) Value.bool (fun key kl hkey => by obtain ⟨x, rfl, _⟩ := Maps.keyOf_int_inv Try.underlying2 hkey; exact ⟨x, rfl⟩) (fun v y hv => plainElem_bool_inv Try.underlying4 hv) b w4.heap.size kk _ _ _ rfl R6.out ?_ ?_)
            | go_in)
          · intro _ hl0
            have O8 : Hid (Own wx w1.heap.size (.slice (some ⟨w1.heap.size, 0, none⟩) m m) (ldK L F P q (k + 1))) := Lib.hid (by rw [← ldQ_all (fun c hc => doneF_all HDD.out hl0 c hc)]; exact O7.out)
            clear hl0
            go_wp2_with fail
            go_roundw
            case rel => exact ⟨k + 1, by omega, by go_num, O8.out, HX.out⟩
            case measure => simp [intOf]; omega
          · intro x
            refine ⟨?_, ?_⟩
            all_goals
              intro kl yd yp w6 cnt2 hkey hlk hv hat hrg2 hlt2 hg2 hs2 hen
              obtain ⟨x', ex, rfl, _⟩ := Maps.keyOf_int_inv Try.underlying2 hkey
              cases ex
              have hhas := HLF.out _ hlk
              obtain ⟨xn, hx, hxm, _⟩ := (ocK_mem _ _ _ _ _ _).1 ((HDD.out.2.2 x).1 hhas)
              subst hx
              have HXF := Lib.hid hxm
              obtain ⟨v0, v1⟩ := ldQ_bd L F P q k (doneF D left) xn hxm
              have O8 := Lib.hid (O7.out.keptN hg2 (by intro e; have := Option.some.inj e; omega))
              have cR := O8.out.cellAt (by rw [ldQ_len]; exact HM.out) xn (by rw [ldQ_len]; exact hxm)
              have fR : w6.frozen? ⟨w1.heap.size, xn, none⟩ = false := O8.out.frozenAt (by rw [ldQ_len]; exact HM.out) xn
              have HSET := Lib.hid (ldQ_set (L := L) (P := P) (n := q) (i := k) hxm (doneF_no hlk) (fun c _ => doneF_step hhas c))
              have R8 := Lib.hid hrg2
              have HX6 : Hid (Later w1 w6) := Lib.hid (Below.grown HX.out hg2 HX.out.size (fun j e => by cases e; omega))
              have HLF6 : Hid (∀ kl, (left kl && !kl.sameKey (.int .i64 xn)) = true → has D kl = true) := Lib.hid (fun kl h => HLF.out kl (by rw [Bool.and_eq_true] at h; exact h.1))
              have HLT := Lib.hid hlt2
              have hxm2 : xn < m := by rw [← HM.out]; exact hxm
              obtain ⟨y, hy⟩ : ∃ y, y = gx (ldQ L F P q k (doneF D left)) xn := ⟨_, rfl⟩
              rw [← hy] at v0 v1 cR HSET
              clear hy hhas hlk hv hat hrg2 hlt2 hg2 hs2 hkey hxm
              go_wp2_with fail
              go_roundw
              case rel => exact ⟨_, cnt2, R8.out.kept (grown_set _ _ _ _) (by intro e; have := Option.some.inj e; omega) (by intro e; have := Option.some.inj e; omega), by rw [← HSET.out]; exact O8.out.set (by rw [ldQ_len]; exact HM.out) xn (y + 1) ⟨by omega, by omega⟩, HX6.out.setCell (p := ⟨w1.heap.size, xn, none⟩) (Nat.le_refl _) _, HLF6.out⟩
              case measure =>
                rw [(R8.out.kept (grown_set _ _ _ _) (by intro e; have := Option.some.inj e; omega) (by intro e; have := Option.some.inj e; omega)).left_eq, R6.out.left_eq]; exact HLT.out
      · obtain rfl : k = mP := by omega
        go_wp2
        go_ret2
        exact ⟨_, by rw [HT.out.2]; rfl, by rw [HT.out.1]; exact O4.out.mono (by have := H1.out.size; rw [World.size_alloc] at this; omega), HW.out⟩
end Go.Proofs.Ytehinlecppbjeaa
namespace Go.Proofs.Ytehinlecppbjeaa
open Go.RowKit
set_option maxHeartbeats 2000000
set_option linter.unusedVariables false
set_option linter.unusedSimpArgs false
/-- the list l, of which k elements are marked -/
def mrk (l : List Int) (k : Nat) : List Int := (List.range l.length).map fun j => if j < k then 1 + (j : Int) else gx l j
theorem mrk_len (l : List Int) (k : Nat) : (mrk l k).length = l.length := by simp [mrk]
theorem mrk_get (l : List Int) (k j : Nat) (h : j < l.length) : (mrk l k)[j]? = some (if j < k then 1 + (j : Int) else gx l j) := by simp [mrk, h]
theorem mrk_0 (l : List Int) : mrk l 0 = l := by
  apply List.ext_getElem?
  intro j
  by_cases h : j < l.length
  · rw [mrk_get l 0 j h, if_neg (by omega), List.getElem?_eq_getElem h, gx_of l j h]
  · rw [List.getElem?_eq_none (by rw [mrk_len]; omega), List.getElem?_eq_none (by omega)]
theorem mrk_set (l : List Int) (k : Nat) (hk : k < l.length) : (mrk l k).set k (1 + (k : Int)) = mrk l (k + 1) := by
  apply List.ext_getElem?
  intro j
  by_cases h : j < l.length
  · rw [List.getElem?_set, mrk_len, mrk_get l k j h, mrk_get l (k + 1) j h]
    by_cases e : k = j
    · subst e; simp [h]
    · rw [if_neg e]
      by_cases c : j < k
      · rw [if_pos c, if_pos (by omega)]
      · rw [if_neg c, if_neg (by omega)]
  · rw [List.getElem?_eq_none (by simp [mrk]; omega), List.getElem?_eq_none (by simp [mrk]; omega)]
theorem mrk_gx (l : List Int) (k : Nat) (h : k < l.length) : gx (mrk l l.length) k = 1 + (k : Int) := by
  rw [gx_of _ _ (by rw [mrk_len]; exact h)]
  simp [mrk, h]
/-- what marking leaves -/
def Marked (w : World) (base : Nat) (v : Value) (l : List Int) (e : Ending) (w' : World) : Prop :=
  e = .returned (.int .i64 (1 + (l.length : Int))) ∧ Own w' base v (mrk l l.length) ∧ w.grownBy w' v.ownBlock
theorem mrk_in (l : List Int) (k : Nat) (hl : l.length ≤ 1000000000) (h : ∀ x ∈ l, InR x) : ∀ x ∈ mrk l k, InR x := by
  intro x hx
  obtain ⟨j, hj, rfl⟩ := List.mem_map.1 hx
  rw [List.mem_range] at hj
  by_cases c : j < k
  · simp only [if_pos c]; exact ⟨by omega, by omega⟩
  · simp only [if_neg c]; exact h _ (gx_mem l j hj)
theorem l_markInt64S (v : Value) (base : Nat) (l : List Int) (w : World) (ho : Own w base v l) (hl : l.length ≤ 1000000000) :
    Calls Try.prog 53 #[v, .int .i64 1] w (Marked w base v l) := by
  have HI := Lib.hid ho.2
  rcases ho.1.2 with ⟨rfl, h0⟩ | ⟨g, cap, cur, rfl, hb, hg, hnc, hcm, _⟩
  · have e : l = [] := List.length_eq_zero_iff.1 h0
    subst e
    have HO := Lib.hid ho
    clear ho h0
    go_enter Try.func53, Try.ntmps53
    go_wp2
    go_loop [1, 5] (fun m i => i = .int .i64 0 ∧ m = .int .i64 1) (fun _ _ => 0)
    case atStart => exact ⟨rfl, rfl⟩
    case round =>
      obtain ⟨rfl, rfl⟩ := hrel
      go_wp2
      go_ret
      exact ⟨rfl, HO.out, ⟨rfl, rfl, rfl, Nat.le_refl _, fun _ _ _ => rfl⟩⟩
  · have HO := Lib.hid ho.1
    obtain ⟨n, hn⟩ : ∃ n, n = l.length := ⟨_, rfl⟩
    have HN := Lib.hid hn
    have O1 : Hid (w.ownsRow base 2 1 (.slice (some ⟨g, 0, none⟩) n cap) n ((mrk l 0).map (Value.int .i64))) := Lib.hid (by rw [mrk_0, HN.out]; exact ho.1)
    have hl' : n ≤ 1000000000 := by omega
    rw [← hn]
    clear hg hnc hcm ho hb hn hl
    go_enter Try.func53, Try.ntmps53
    go_wp2
    go_loopw [1, 5] (fun m i wr => ∃ k : Nat, k ≤ n ∧ i = .int .i64 k ∧ m = .int .i64 (1 + (k : Int)) ∧ wr.ownsRow base 2 1 (.slice (some ⟨g, 0, none⟩) n cap) n ((mrk l k).map (Value.int .i64)) ∧ w.grownBy wr (some g)) (fun _ i _ => n - (intOf i).toNat)
    case atStart => exact ⟨0, by omega, rfl, rfl, O1.out, ⟨rfl, rfl, rfl, Nat.le_refl _, fun _ _ _ => rfl⟩⟩
    case round =>
      obtain ⟨k, hk, rfl, rfl, ho, hg⟩ := hrel
      have HR := Lib.hid ho; have HG := Lib.hid hg
      clear ho hg
      by_cases hlt : k < n
      · obtain ⟨z, hz⟩ : ∃ z, wr.cell? ⟨g, k, none⟩ = some (.int .i64 z) := ⟨_, by rw [HR.out.cellAt k (by omega), List.getElem?_map, mrk_get l k k (by rw [← HN.out]; exact hlt)]; rfl⟩
        have hf : wr.frozen? ⟨g, k, none⟩ = false := HR.out.frozenAt k
        have hset : Hid (((mrk l k).map (Value.int .i64)).set k (.int .i64 (1 + (k : Int))) = (mrk l (k + 1)).map (Value.int .i64)) := Lib.hid (by rw [← mrk_set l k (by rw [← HN.out]; exact hlt), List.map_set])
        go_wp2
        go_roundw
        case rel => exact ⟨k + 1, by omega, by go_num, by go_num, by rw [← hset.out]; exact (HR.out.stored k _).1, grown_trans HG.out (HR.out.stored k _).2⟩
        case measure => simp [intOf]; omega
      · obtain rfl : k = n := by omega
        go_wp2
        go_ret
        refine ⟨by rw [← HN.out] <;> rfl, ⟨?_, mrk_in l _ (by rw [← HN.out]; exact hl') HI.out⟩, HG.out⟩
        rw [mrk_len, ← HN.out]; exact HR.out
theorem l_heldInt64S (v : Value) (base : Nat) (l : List Int) (w : World) (ho : Own w base v (mrk l l.length)) (hl : l.length ≤ 1000000000) :
    Calls Try.prog 54 #[v, .int .i64 1] w fun e w' => e = .returned (.int .i64 (1 + (l.length : Int))) ∧ w = w' := by
  obtain ⟨a, cap, rfl, hs, _⟩ := ho.sl
  have HS := Lib.hid hs
  have HL := Lib.hid (mrk_len l l.length)
  rw [mrk_len]
  obtain ⟨n, hn⟩ : ∃ n, n = l.length := ⟨_, rfl⟩
  have HN := Lib.hid hn
  rw [← hn] at hl ⊢
  clear hs ho hn
  go_enter Try.func54, Try.ntmps54
  go_wp2
  go_loop [1, 5] (fun m i => ∃ k : Nat, k ≤ n ∧ i = .int .i64 k ∧ m = .int .i64 (1 + (k : Int))) (fun _ i => n - (intOf i).toNat)
  case atStart => exact ⟨0, by omega, rfl, rfl⟩
  case round =>
    obtain ⟨k, hk, rfl, rfl⟩ := hrel
    by_cases hlt : k < n
    · obtain ⟨b, off, rfl, hc⟩ := HS.out.at k (by rw [HL.out, ← HN.out]; exact hlt)
      rw [mrk_gx l k (by rw [← HN.out]; exact hlt)] at hc
      go_wp2
      go_round
      case rel => exact ⟨k + 1, by omega, by go_num, by go_num⟩
      case measure => simp [intOf]; omega
    · obtain rfl : k = n := by omega
      go_wp2
      go_ret
      exact ⟨rfl, rfl⟩
end Go.Proofs.Ytehinlecppbjeaa
namespace Go.Proofs.Ytehinlecppbjeaa
open Go.RowKit
set_option maxHeartbeats 2000000
set_option linter.unusedVariables false
set_option linter.unusedSimpArgs false
def CopiedO (w : World) (n : Nat) (l : List Int) (e : Ending) (w' : World) : Prop :=
  ∃ g, e = .returned (.slice (some ⟨g, 0, none⟩) n n) ∧ w.heap.size ≤ g ∧ g < w'.heap.size ∧ Own w' w.heap.size (.slice (some ⟨g, 0, none⟩) n n) l ∧ Below w.heap.size w w'
theorem l_toInt64O (a : Option Addr) (n cap : Nat) (l : List Int) (w : World) (hs : Sl w a n l) (hn : n ≤ 1048576) :
    Calls Try.prog 50 #[.slice a n cap] w (CopiedO w n l) := by
  have HS := Lib.hid hs
  have HL := Lib.hid hs.1
  clear hs
  obtain ⟨i0, hi, hz0, hz1, hz2⟩ := info_parts info_i64
  have HI := Lib.hid hi; clear hi
  have HZ0 := Lib.hid hz0; clear hz0
  have HZ1 := Lib.hid hz1; clear hz1
  have HZ2 := Lib.hid hz2; clear hz2
  go_enter Try.func50, Try.ntmps50
  go_wp2_with (refine wpList_make_full _ rfl _ _ _ rfl w.heap.size 2 i0 (.int .i64 0) 1 Try.underlying38 HI.out HZ0.out HZ1.out _ _ _ _ n rfl rfl rfl rfl (by rw [HZ2.out]; omega) (by unfold maxLen; omega) (Nat.le_refl _) ?_; intro w1 hown hgrow)
  have hown' : w1.ownsRow w.heap.size 2 1 (.slice (some ⟨w.heap.size, 0, none⟩) n n) n (part l n 0) := by
    rw [part_zero, ← toList_madeCells_one]; simpa [Value.cells] using hown
  have hb1 : Below w.heap.size w w1 := (Below.refl _ _).grown hgrow (Nat.le_refl _) (by simp)
  have HO := Lib.hid hown'
  have HB := Lib.hid hb1
  clear hown hgrow hown' hb1
  go_loopw [4] (fun i wr => ∃ k : Nat, k ≤ n ∧ i = .int .i64 k ∧ wr.ownsRow w.heap.size 2 1 (.slice (some ⟨w.heap.size, 0, none⟩) n n) n (part l n k) ∧ Below w.heap.size w wr) (fun i _ => n - (intOf i).toNat)
  case atStart => exact ⟨0, by omega, rfl, HO.out, HB.out⟩
  case round =>
    clear HO HB
    obtain ⟨k, hk, rfl, ho, hb⟩ := hrel
    have HO := Lib.hid ho
    have HB := Lib.hid hb
    clear ho hb
    by_cases hlt : k < n
    · obtain ⟨b, off, rfl, hc0⟩ := HS.out.at k hlt
      have hc : wr.cell? ⟨b, off + k, none⟩ = some (.int .i64 (gx l k)) := by rw [HB.out.cell (p := ⟨b, off + k, none⟩) (cell_lt hc0)]; exact hc0
      have ht : wr.cell? ⟨w.heap.size, k, none⟩ = some (.int .i64 0) := by rw [HO.out.cellAt k (by omega)]; exact part_get l n k HL.out hlt
      have hf : wr.frozen? ⟨w.heap.size, k, none⟩ = false := HO.out.frozenAt k
      have HN : Hid ((wr.setCell ⟨w.heap.size, k, none⟩ (.int .i64 (gx l k))).ownsRow w.heap.size 2 1 (.slice (some ⟨w.heap.size, 0, none⟩) n n) n (part l n (k + 1))) := by
        refine Lib.hid ?_
        rw [← part_set l n k HL.out hlt]
        exact (HO.out.stored k _).1
      have HM : Hid (Below w.heap.size w (wr.setCell ⟨w.heap.size, k, none⟩ (.int .i64 (gx l k)))) := Lib.hid (HB.out.setCell (Nat.le_refl _) _)
      clear hc0
      go_wp2
      go_roundw
      case rel => exact ⟨k + 1, by omega, by go_num, HN.out, HM.out⟩
      case measure => simp [intOf]; omega
    · obtain rfl : n = k := by omega
      go_wp2
      go_ret
      have hown := HO.out
      rw [part_full l n HL.out] at hown
      have hlt := hown.lt w.heap.size rfl
      exact ⟨w.heap.size, rfl, Nat.le_refl _, hlt.2, ⟨by rw [HL.out]; exact hown, HS.out.2.2.2⟩, HB.out⟩
/-- marks from K on -/
theorem l_markK (g n cap base : Nat) (K : Int) (l : List Int) (w : World) (ho : Own w base (.slice (some ⟨g, 0, none⟩) n cap) l) (hl : l.length = n) (hn : n ≤ 1000000000) (hK : 0 ≤ K) (hK2 : K ≤ 1000000000) :
    Calls Try.prog 53 #[.slice (some ⟨g, 0, none⟩) n cap, .int .i64 K] w fun e w' => e = .returned (.int .i64 (K + (n : Int))) ∧ w.grownBy w' (some g) := by
  have O1 : Hid (w.ownsRow base 2 1 (.slice (some ⟨g, 0, none⟩) n cap) n (l.map (Value.int .i64))) := Lib.hid (by have := ho.1; rw [hl] at this; exact this)
  have HL := Lib.hid hl
  clear ho hl
  go_enter Try.func53, Try.ntmps53
  go_wp2
  go_loopw [1, 5] (fun m i wr => ∃ (k : Nat) (l' : List Int), k ≤ n ∧ i = .int .i64 k ∧ m = .int .i64 (K + (k : Int)) ∧ l'.length = n ∧ wr.ownsRow base 2 1 (.slice (some ⟨g, 0, none⟩) n cap) n (l'.map (Value.int .i64)) ∧ w.grownBy wr (some g)) (fun _ i _ => n - (intOf i).toNat)
  case atStart => exact ⟨0, l, by omega, rfl, by simp, HL.out, O1.out, ⟨rfl, rfl, rfl, Nat.le_refl _, fun _ _ _ => rfl⟩⟩
  case round =>
    obtain ⟨k, l', hk, rfl, rfl, hl', ho, hg⟩ := hrel
    have HR := Lib.hid ho; have HG := Lib.hid hg; have HL' := Lib.hid hl'
    clear ho hg hl'
    by_cases hlt : k < n
    · obtain ⟨z, hz⟩ : ∃ z, wr.cell? ⟨g, k, none⟩ = some (.int .i64 z) := ⟨_, by rw [HR.out.cellAt k (by omega), List.getElem?_map, List.getElem?_eq_getElem (by rw [HL'.out]; exact hlt)]; rfl⟩
      have hf : wr.frozen? ⟨g, k, none⟩ = false := HR.out.frozenAt k
      have hset : Hid ((l'.map (Value.int .i64)).set k (.int .i64 (K + (k : Int))) = (l'.set k (K + (k : Int))).map (Value.int .i64)) := Lib.hid (by rw [List.map_set])
      have HS2 : Hid ((l'.set k (K + (k : Int))).length = n) := Lib.hid (by rw [List.length_set]; exact HL'.out)
      go_wp2
      go_roundw
      case rel => exact ⟨k + 1, _, by omega, by go_num, by go_num, HS2.out, by rw [← hset.out]; exact (HR.out.stored k _).1, grown_trans HG.out (HR.out.stored k _).2⟩
      case measure => simp [intOf]; omega
    · obtain rfl : k = n := by omega
      go_wp2
      go_ret
      exact ⟨rfl, HG.out⟩
end Go.Proofs.Ytehinlecppbjeaa
namespace Go.Proofs.Ytehinlecppbjeaa
open Go.RowKit
set_option maxHeartbeats 2000000
set_option linter.unusedVariables false
set_option linter.unusedSimpArgs false
/-- the numbers of a row, of which those of the first k segments are marked -/
def mrkS (f : Nat → Int) (k j : Nat) : Int := if j < k * 7 then 1 + (j : Int) else f j
def MarkedS (w : World) (g n : Nat) (f : Nat → Int) (e : Ending) (w' : World) : Prop :=
  e = .returned (.int .i64 (1 + 7 * (n : Int))) ∧ SgRow w' g n (mrkS f n) ∧ w.grownBy w' (some g)
theorem grown_refl (w : World) (r : Option Nat) : w.grownBy w r := ⟨rfl, rfl, rfl, Nat.le_refl _, fun _ _ _ => rfl⟩
theorem grown_set1 {a b : World} {g : Nat} (h : a.grownBy b (some g)) (j : Nat) (u : Value) : a.grownBy (b.setCell ⟨g, j, none⟩ u) (some g) := grown_trans h (grown_set b g j u)
set_option maxRecDepth 100000 in
theorem l_markSegmentS (g n cap : Nat) (f : Nat → Int) (w : World) (hr : SgRow w g n f) (hn : n ≤ 1048576) :
    Calls Try.prog 107 #[.slice (some ⟨g, 0, none⟩) n cap, .int .i64 1] w (MarkedS w g n f) := by
  have HR := Lib.hid hr
  clear hr
  go_enter Try.func107, Try.ntmps107
  go_wp2
  go_loopw [1, 5] (fun m i wr => ∃ k : Nat, k ≤ n ∧ i = .int .i64 k ∧ m = .int .i64 (1 + 7 * (k : Int)) ∧ SgRow wr g n (mrkS f k) ∧ w.grownBy wr (some g)) (fun _ i _ => n - (intOf i).toNat)
  case atStart => exact ⟨0, by omega, rfl, rfl, HR.out.congr (fun j hj => by unfold mrkS; rw [if_neg (by omega)]), grown_refl _ _⟩
  case round =>
    clear HR
    obtain ⟨k, hk, rfl, rfl, ho, hg⟩ := hrel
    have HR := Lib.hid ho; have HG := Lib.hid hg
    clear ho hg
    by_cases hlt : k < n
    · obtain ⟨u0, u1, u2, u3, u4, u5, u6, z0, z1, z2, z3, z4, z5, z6, g0, g1, g2, g3, g4, g5, g6⟩ := HR.out.seven' k hlt
      go_wp2
      go_roundw
      case rel =>
        refine ⟨k + 1, by omega, by go_num, by go_num, HR.out.put7 k _ _ _ _ _ _ _ ?_, ?_⟩
        · intro j hj
          unfold mrkS
          by_cases h1 : j < k * 7
          · rw [if_pos (by omega), if_neg (by omega), if_neg (by omega), if_neg (by omega), if_neg (by omega), if_neg (by omega), if_neg (by omega), if_neg (by omega), if_pos h1]
          · by_cases h2 : j < (k + 1) * 7
            · rw [if_pos h2]
              obtain ⟨i, rfl⟩ : ∃ i, j = k * 7 + i := ⟨j - k * 7, by omega⟩
              have hi' : i = 0 ∨ i = 1 ∨ i = 2 ∨ i = 3 ∨ i = 4 ∨ i = 5 ∨ i = 6 := by omega
              rcases hi' with rfl | rfl | rfl | rfl | rfl | rfl | rfl <;> simp <;> omega
            · rw [if_neg h2, if_neg (by omega), if_neg (by omega), if_neg (by omega), if_neg (by omega), if_neg (by omega), if_neg (by omega), if_neg (by omega), if_neg h1]
        · exact grown_set1 (grown_set1 (grown_set1 (grown_set1 (grown_set1 (grown_set1 (grown_set1 HG.out _ _) _ _) _ _) _ _) _ _) _ _) _ _
      case measure => simp [intOf]; omega
    · obtain rfl : k = n := by omega
      go_wp2
      go_ret
      exact ⟨rfl, HR.out, HG.out⟩
def MarkedL (w : World) (g n : Nat) (f : Nat → Int) (e : Ending) (w' : World) : Prop :=
  e = .returned (.int .i64 (1 + 7 * (n : Int))) ∧ SgRow w' g n (mrkS f n) ∧ w.grownBy w' (some g)
theorem l_markLayout (g n cap : Nat) (f : Nat → Int) (w : World) (hr : SgRow w g n f) (hn : n ≤ 1048576) :
    Calls Try.prog 52 #[.agg #[.slice (some ⟨g, 0, none⟩) n cap], .int .i64 1] w (MarkedL w g n f) := by
  have HR := Lib.hid (hr.later ((Later.refl _).alloc (.cells #[.slice (some ⟨g, 0, none⟩) n cap] 26)))
  clear hr
  go_enter Try.func52, Try.ntmps52
  go_wp2_with fail
  refine (l_markSegmentS g n cap f _ HR.out hn).mono ?_
  rintro e w1 ⟨rfl, hr, hg⟩
  have R1 := Lib.hid hr
  have G1 := Lib.hid (grown_trans (World.grownBy_alloc w _ (some g)) hg)
  clear hr hg
  go_wp2
  go_ret
  exact ⟨rfl, R1.out, G1.out⟩
end Go.Proofs.Ytehinlecppbjeaa
namespace Go.Proofs.Ytehinlecppbjeaa
open Go.RowKit
set_option maxHeartbeats 4000000
set_option linter.unusedVariables false
set_option linter.unusedSimpArgs false
theorem ocV_len (L : List Sg) (F : List Int) (p n : Int) : (ocV L F p n).length ≤ 1000000 := by
  unfold ocV
  split
  · rename_i h
    have := ((bkC_iff L F).1 (bkB_lay (ocE_ok h).1).2).2.1
    have := ocK_len L F p n F.length
    omega
  · simp
theorem ldV_len (L : List Sg) (F P : List Int) (n : Int) : (ldV L F P n).length ≤ 1000000 := by
  unfold ldV
  split
  · rename_i h
    have := ((bkC_iff L F).1 (bkB_lay (ldE_ok h).1).2).2.1
    rw [ldK_len]; omega
  · simp
set_option maxRecDepth 100000 in
theorem walk_FnExactOccupiedBlocks (a : Option Addr) (n cap : Nat) (L : List Sg) (A1 : Option Addr) (m1 c1 : Nat) (Z1 : List Int) (p : Int) (q : Int) (w : World) (hcap : n ≤ cap) (hs : Sgs w a n L) (u1 : IsRow .i64 w A1 m1 c1 Z1) (u2 : (Lit.int .i64 p).wf = true) (u3 : (Lit.int .i64 q).wf = true) :
    Calls Try.prog 9 #[.agg #[.slice a n cap], .slice A1 m1 c1, .int .i64 p, .int .i64 q] w fun e w' => e = .returned (.bool true) ∧ Later w w' := by
  have HS := Lib.hid hs
  have hn := hs.2.1
  have HLn := Lib.hid hs.1
  have hle1 := isRow_leE u1
  obtain ⟨F, hF⟩ : ∃ F, F = Z1.take m1 := ⟨_, rfl⟩
  have HF := Lib.hid (isRow_sl u1)
  rw [← hF] at HF
  have hm1 := HF.out.2.1
  have HM1 := Lib.hid HF.out.1
  clear u1 hF
  obtain ⟨v2, v2'⟩ := i64w u2
  clear u2
  obtain ⟨v3, v3'⟩ := i64w u3
  clear u3
  clear hs
  have e0 : (ocE L F p q != ocE L F p q) = false := by simp
  have hlen : (ocV L F p q).length ≤ 1000000 := ocV_len L F p q
  by_cases hb1 : 1048576 < m1
  · go_enter Try.func9, Try.ntmps9
    go_wp2
    go_ret
    exact ⟨rfl, (by repeat (first | (with_reducible exact Later.refl _) | (with_reducible exact Hid.out (by assumption)) | (with_reducible refine Later.alloc ?_ _) | (with_reducible refine Later.setCell ?_ (by simp; omega) _) | (with_reducible refine Later.setCell ?_ (by simp) _) | (with_reducible refine Later.drewN ?_ _) | (with_reducible refine Later.drew ?_) | (with_reducible refine Later.trans ?_ (Hid.out (by assumption)))))⟩
  have hb1' : m1 ≤ 1048576 := by omega
  by_cases hbig : 1048576 < n
  · have hz := Lib.hid (szI_big hbig)
    go_enter Try.func9, Try.ntmps9
    go_wp2_with (go_at_call 47; refine (l_szLayout a n cap _ hn).mono ?_; rw [hz.out]; rintro e w1 ⟨rfl, hb⟩; have H := Lib.hid hb; clear hb)
    go_ret
    exact ⟨rfl, (by repeat (first | (with_reducible exact Later.refl _) | (with_reducible exact Hid.out (by assumption)) | (with_reducible refine Later.alloc ?_ _) | (with_reducible refine Later.setCell ?_ (by simp; omega) _) | (with_reducible refine Later.setCell ?_ (by simp) _) | (with_reducible refine Later.drewN ?_ _) | (with_reducible refine Later.drew ?_) | (with_reducible refine Later.trans ?_ (Hid.out (by assumption)))))⟩
  have hle : n ≤ 1048576 := by omega
  have hz := Lib.hid (szI_ok hle)
  clear hbig hb1
  go_enter Try.func9, Try.ntmps9
  go_wp2_with fail
  refine (l_szLayout a n cap _ hn).mono ?_
  rw [hz.out]
  rintro e w1 ⟨rfl, hb⟩
  have b1 : w.heap.size < w1.heap.size := by have := hb.size; simp at this; omega
  have c1 : w1.cell? ⟨w.heap.size, 0, none⟩ = some (.slice a n cap) := by rw [hb.cell (p := ⟨w.heap.size, 0, none⟩) (by simp)]; simp
  have W1 : Hid (Later w w1) := Lib.hid (((Later.refl _).alloc _).trans hb)
  clear hb
  go_wp2_with fail
  refine (l_toLayout a n cap L _ (HS.out.later W1.out) hle).mono ?_
  rintro e w2 ⟨g, rfl, hg, hr, hb⟩
  have hb : Later w1 w2 := hb
  have z2 := hb.size
  have b2 : w.heap.size < w2.heap.size := Nat.lt_of_lt_of_le b1 z2
  have c2 : w2.cell? ⟨w.heap.size, 0, none⟩ = some (.slice a n cap) := by rw [hb.cell (p := ⟨w.heap.size, 0, none⟩) b1]; exact c1
  have W2 : Hid (Later w w2) := Lib.hid (W1.out.trans hb)
  have S0 := Lib.hid (hr.sgs HS.out.1 (by omega) HS.out.2.2.2)
  clear hb c1 hr hg
  go_wp2_with fail
  refine (l_toInt64S A1 m1 c1 F _ (HF.out.laterE W2.out) hb1').mono ?_
  rintro e w3 ⟨g1, rfl, hg, hr, hs, hb⟩
  have hb : Later w2 w3 := hb
  have z3 := hb.size
  have b3 : w.heap.size < w3.heap.size := Nat.lt_of_lt_of_le b2 z3
  have c3 : w3.cell? ⟨w.heap.size, 0, none⟩ = some (.slice a n cap) := by rw [hb.cell (p := ⟨w.heap.size, 0, none⟩) b2]; exact c2
  have W3 : Hid (Later w w3) := Lib.hid (W2.out.trans hb)
  have S0_3 := Lib.hid (S0.out.later hb)
  have T1 := Lib.hid hs
  clear hb c2 hg hr hs
  go_wp2_with fail
  refine (s_OccupiedBlocks _ n n L _ m1 m1 F p q _ S0_3.out T1.out).mono ?_
  rintro e w4 ⟨vs, rfl, hos, hb⟩
  have hb : Later w3 w4 := hb
  have z4 := hb.size
  have b4 : w.heap.size < w4.heap.size := Nat.lt_of_lt_of_le b3 z4
  have c4 : w4.cell? ⟨w.heap.size, 0, none⟩ = some (.slice a n cap) := by rw [hb.cell (p := ⟨w.heap.size, 0, none⟩) b3]; exact c3
  have W4 : Hid (Later w w4) := Lib.hid (W3.out.trans hb)
  have S0_4 := Lib.hid (S0_3.out.later hb)
  have T1_4 := Lib.hid (T1.out.laterE hb)
  have OS := Lib.hid hos
  have RS := Lib.hid hos.lt
  clear hb c3 hos
  go_wp2_with fail
  refine (l_toLayout a n cap L _ (HS.out.later W4.out) hle).mono ?_
  rintro e w5 ⟨gx0, rfl, hgx, hr, hb⟩
  have hb : Later w4 w5 := hb
  have z5 := hb.size
  have b5 : w.heap.size < w5.heap.size := Nat.lt_of_lt_of_le b4 z5
  have c5 : w5.cell? ⟨w.heap.size, 0, none⟩ = some (.slice a n cap) := by rw [hb.cell (p := ⟨w.heap.size, 0, none⟩) b4]; exact c4
  have W5 : Hid (Later w w5) := Lib.hid (W4.out.trans hb)
  have OS_5 := Lib.hid (OS.out.laterE hb)
  have X0 := Lib.hid hr
  have X0l := hr.lt
  clear hb c4 hr
  go_wp2_with fail
  refine (l_toInt64O A1 m1 c1 F _ (HF.out.laterE (W5.out.alloc _)) hb1').mono ?_
  rintro e w6 ⟨y1, rfl, hy1, hy1', ho, hb⟩
  have hb : Later (w5.alloc (.cells #[.slice (some ⟨gx0, 0, none⟩) n n] 26)) w6 := hb
  have z6 : w5.heap.size + 1 ≤ w6.heap.size := by have := hb.size; rw [World.size_alloc] at this; exact this
  have b6 : w5.heap.size < w6.heap.size := by omega
  have c6 : w6.cell? ⟨w.heap.size, 0, none⟩ = some (.slice a n cap) := (hb.cell (p := ⟨w.heap.size, 0, none⟩) (by rw [World.size_alloc]; exact Nat.lt_succ_of_lt b5)).trans ((World.cell?_alloc_lt w5 _ ⟨w.heap.size, 0, none⟩ b5).trans c5)
  have d6 : w6.cell? ⟨w5.heap.size, 0, none⟩ = some (.slice (some ⟨gx0, 0, none⟩) n n) := by rw [hb.cell (p := ⟨w5.heap.size, 0, none⟩) (by simp)]; simp
  have W6 : Hid (Later w w6) := Lib.hid ((W5.out.alloc _).trans hb)
  have hbx : Later w5 w6 := ((Later.refl _).alloc _).trans hb
  have OS_6 := Lib.hid (OS_5.out.laterE hbx)
  have X0_6 := Lib.hid (X0.out.later hbx)
  have Y1 := Lib.hid ho
  rw [World.size_alloc] at hy1
  clear hb hbx c5 ho
  go_wp2_with fail
  refine (i_OccupiedBlocks _ n n L _ m1 m1 F p q _ (X0_6.out.sgs HS.out.1 (by omega) HS.out.2.2.2) (own_slE Y1.out HM1.out) (Nat.le_refl _) (Nat.le_refl _) ⟨v2, v2'⟩).mono ?_
  rintro e w7 ⟨vi, rfl, hoi, hb⟩
  have hb : Later w6 w7 := hb
  have z7 := hb.size
  have b7 : w5.heap.size < w7.heap.size := Nat.lt_of_lt_of_le b6 z7
  obtain ⟨c7, d7⟩ := two_cells c6 (Nat.lt_trans b5 b6) d6 b6 hb
  have W7 : Hid (Later w w7) := Lib.hid (W6.out.trans hb)
  have OS_7 := Lib.hid (OS_6.out.laterE hb)
  have X0_7 := Lib.hid (X0_6.out.later hb)
  have Y1_7 := Lib.hid (Y1.out.laterE hb)
  have OI := Lib.hid hoi
  have RI := Lib.hid hoi.lt
  clear hb c6 d6 hoi
  obtain ⟨aS, ks, rfl, s1, _⟩ := OS_7.out.sl
  obtain ⟨ai, ki, rfl, s2, _⟩ := OI.out.sl
  have S1 := Lib.hid s1; have S2 := Lib.hid s2
  clear s1 s2
  go_wp2_with fail
  refine (l_eqIE _ _ _ _ _ _ _ _ S2.out S1.out).mono ?_
  rintro e w8 ⟨rfl, hb⟩
  have hb : Later w7 w8 := hb
  have z8 := hb.size
  have b8 : w5.heap.size < w8.heap.size := Nat.lt_of_lt_of_le b7 z8
  obtain ⟨c8, d8⟩ := two_cells c7 (Nat.lt_trans b5 b7) d7 b7 hb
  have W8 : Hid (Later w w8) := Lib.hid (W7.out.trans hb)
  have OS_8 := Lib.hid (OS_7.out.laterE hb)
  have X0_8 := Lib.hid (X0_7.out.later hb)
  have Y1_8 := Lib.hid (Y1_7.out.laterE hb)
  have OI_8 := Lib.hid (OI.out.laterE hb)
  skip
  clear hb c7 d7 S1 S2
  have K8 := Lib.hid (And.intro c8 d8)
  clear c8 d8
  obtain ⟨c8, d8⟩ := K8.out
  go_wp2_with fail
  go_region_held3 (fun w' => w'.cell? ⟨w.heap.size, 0, none⟩ = some (.slice a n cap) ∧ w'.cell? ⟨w5.heap.size, 0, none⟩ = some (.slice (some ⟨gx0, 0, none⟩) n n))
    (exact two_cells K8.out.1 (Nat.lt_trans b5 b8) K8.out.2 b8 (by repeat (first | (with_reducible exact Later.refl _) | (with_reducible exact Hid.out (by assumption)) | (with_reducible refine Later.alloc ?_ _) | (with_reducible refine Later.setCell ?_ (by simp; omega) _) | (with_reducible refine Later.setCell ?_ (by simp) _) | (with_reducible refine Later.drewN ?_ _) | (with_reducible refine Later.drew ?_) | (with_reducible refine Later.trans ?_ (Hid.out (by assumption))))))
    (first
      | (go_at_call 48; refine (l_toLayout a n cap L _ (HS.out.later (by repeat (first | (with_reducible exact Later.refl _) | (with_reducible exact Hid.out (by assumption)) | (with_reducible refine Later.alloc ?_ _) | (with_reducible refine Later.setCell ?_ (by simp; omega) _) | (with_reducible refine Later.setCell ?_ (by simp) _) | (with_reducible refine Later.drewN ?_ _) | (with_reducible refine Later.drew ?_) | (with_reducible refine Later.trans ?_ (Hid.out (by assumption)))))) hle).mono ?_; rintro e wp ⟨gp, rfl, hgp, hrp, hbp⟩; have HP := Lib.hid hbp; have SP := Lib.hid (hrp.sgs HS.out.1 (by omega) HS.out.2.2.2); clear hbp hrp hgp)
      | (go_at_call 49; refine (l_eqLayout_same _ _ n n n n L _ ((X0_8.out.sgs HS.out.1 (by omega) HS.out.2.2.2).later (by repeat (first | (with_reducible exact Later.refl _) | (with_reducible exact Hid.out (by assumption)) | (with_reducible refine Later.alloc ?_ _) | (with_reducible refine Later.setCell ?_ (by simp; omega) _) | (with_reducible refine Later.setCell ?_ (by simp) _) | (with_reducible refine Later.drewN ?_ _) | (with_reducible refine Later.drew ?_) | (with_reducible refine Later.trans ?_ (Hid.out (by assumption)))))) (SP.out.later (by repeat (first | (with_reducible exact Later.refl _) | (with_reducible exact Hid.out (by assumption)) | (with_reducible refine Later.alloc ?_ _) | (with_reducible refine Later.setCell ?_ (by simp; omega) _) | (with_reducible refine Later.setCell ?_ (by simp) _) | (with_reducible refine Later.drewN ?_ _) | (with_reducible refine Later.drew ?_) | (with_reducible refine Later.trans ?_ (Hid.out (by assumption))))))).mono ?_; rintro e wq ⟨rfl, hbq⟩; have HQ := Lib.hid hbq; clear hbq))
  all_goals
    go_wp2_with fail
    refine calls_into (fun W => Later w8 W) (by repeat (first | (with_reducible exact Later.refl _) | (with_reducible exact Hid.out (by assumption)) | (with_reducible refine Later.alloc ?_ _) | (with_reducible refine Later.setCell ?_ (by simp; omega) _) | (with_reducible refine Later.setCell ?_ (by simp) _) | (with_reducible refine Later.drewN ?_ _) | (with_reducible refine Later.drew ?_) | (with_reducible refine Later.trans ?_ (Hid.out (by assumption))))) ?_
    intro w9 hb
    have z9 := hb.size
    have b9 : w5.heap.size < w9.heap.size := Nat.lt_of_lt_of_le b8 z9
    have W9 : Hid (Later w w9) := Lib.hid (W8.out.trans hb)
    obtain ⟨c9, d9⟩ := two_cells c8 (Nat.lt_trans b5 b8) d8 b8 hb
    have OS_9 := Lib.hid (OS_8.out.laterE hb)
    have X0_9 := Lib.hid (X0_8.out.later hb)
    have Y1_9 := Lib.hid (Y1_8.out.laterE hb)
    have OI_9 := Lib.hid (OI_8.out.laterE hb)
    clear hb c8 d8 K8
    refine (l_toInt64S A1 m1 c1 F _ (HF.out.laterE W9.out) hb1').mono ?_
    rintro e w10 ⟨q1, rfl, hg, hr, hs, hb⟩
    have hb : Later w9 w10 := hb
    have z10 := hb.size
    have b10 : w5.heap.size < w10.heap.size := Nat.lt_of_lt_of_le b9 z10
    have W10 : Hid (Later w w10) := Lib.hid (W9.out.trans hb)
    obtain ⟨c10, d10⟩ := two_cells c9 (Nat.lt_trans b5 b9) d9 b9 hb
    have OS_10 := Lib.hid (OS_9.out.laterE hb)
    have X0_10 := Lib.hid (X0_9.out.later hb)
    have Y1_10 := Lib.hid (Y1_9.out.laterE hb)
    have OI_10 := Lib.hid (OI_9.out.laterE hb)
    have Q1 := Lib.hid hs
    clear hb c9 d9 hg hr hs
    go_wp2_with fail
    refine (l_eqIE _ _ m1 m1 m1 m1 F _ (own_slE Y1_10.out HM1.out) Q1.out).mono ?_
    rintro e w11 ⟨rfl, hb⟩
    have hb : Later w10 w11 := hb
    have z11 := hb.size
    have b11 : w5.heap.size < w11.heap.size := Nat.lt_of_lt_of_le b10 z11
    have W11 : Hid (Later w w11) := Lib.hid (W10.out.trans hb)
    obtain ⟨c11, d11⟩ := two_cells c10 (Nat.lt_trans b5 b10) d10 b10 hb
    have OS_11 := Lib.hid (OS_10.out.laterE hb)
    have X0_11 := Lib.hid (X0_10.out.later hb)
    have Y1_11 := Lib.hid (Y1_10.out.laterE hb)
    have OI_11 := Lib.hid (OI_10.out.laterE hb)
    skip
    clear hb c10 d10 Q1
    go_wp2_with fail
    refine (l_markLayout gx0 n n (flt L) _ X0_11.out hle).mono ?_
    rintro e w12 ⟨rfl, hr, hg⟩
    have z12 := hg.size
    have b12 : w5.heap.size < w12.heap.size := Nat.lt_of_lt_of_le b11 z12
    have W12 : Hid (Later w w12) := Lib.hid (later_growE W11.out hg (fun k e => by have h9 := Option.some.inj e; omega))
    have c12 : w12.cell? ⟨w.heap.size, 0, none⟩ = some (.slice a n cap) := hg.cell c11 (fun e => by have h9 := Option.some.inj e; simp at h9; omega)
    have OS_12 := Lib.hid (OS_11.out.keptE hg (fun k hk e => by have h1 := RS.out k hk; have h9 := Option.some.inj e; omega))
    have Y1_12 := Lib.hid (Y1_11.out.keptE hg (fun k hk e => by have h1 : y1 = k := Option.some.inj hk; have h9 := Option.some.inj e; omega))
    have OI_12 := Lib.hid (OI_11.out.keptE hg (fun k hk e => by have h1 := RI.out k hk; have h9 := Option.some.inj e; omega))
    clear hg hr c11
    go_wp2_with fail
    refine (l_markK y1 m1 m1 _ (1 + 7 * (n : Int)) F _ Y1_12.out HM1.out (by omega) (by omega) (by omega)).mono ?_
    rintro e w13 ⟨rfl, hg⟩
    have z13 := hg.size
    have b13 : w5.heap.size < w13.heap.size := Nat.lt_of_lt_of_le b12 z13
    have W13 : Hid (Later w w13) := Lib.hid (later_growE W12.out hg (fun k e => by have h9 := Option.some.inj e; omega))
    have c13 : w13.cell? ⟨w.heap.size, 0, none⟩ = some (.slice a n cap) := hg.cell c12 (fun e => by have h9 := Option.some.inj e; simp at h9; omega)
    have OS_13 := Lib.hid (OS_12.out.keptE hg (fun k hk e => by have h1 := RS.out k hk; have h9 := Option.some.inj e; omega))
    have OI_13 := Lib.hid (OI_12.out.keptE hg (fun k hk e => by have h1 := RI.out k hk; have h9 := Option.some.inj e; omega))
    clear hg c12
    obtain ⟨a1, k1, e1, s1, _⟩ := OS_13.out.sl
    obtain ⟨a2, k2, e2, s2, _⟩ := OI_13.out.sl
    cases e1; cases e2
    have S1 := Lib.hid s1; have S2 := Lib.hid s2
    clear s1 s2
    go_wp2_with fail
    refine (l_eqIE _ _ _ _ _ _ _ _ S2.out S1.out).mono ?_
    rintro e w14 ⟨rfl, hb⟩
    have hb : Later w13 w14 := hb
    have z14 := hb.size
    have b14 : w5.heap.size < w14.heap.size := Nat.lt_of_lt_of_le b13 z14
    have W14 : Hid (Later w w14) := Lib.hid (W13.out.trans hb)
    have c14 : w14.cell? ⟨w.heap.size, 0, none⟩ = some (.slice a n cap) := by rw [hb.cell (p := ⟨w.heap.size, 0, none⟩) (Nat.lt_trans b5 b13)]; exact c13
    have OS_14 := Lib.hid (OS_13.out.laterE hb)
    have OI_14 := Lib.hid (OI_13.out.laterE hb)
    skip
    clear hb c13 S1 S2
    go_wp2_with fail
    refine (l_markInt64S _ _ _ _ OI_14.out (by omega)).mono ?_
    rintro e w15 ⟨rfl, ho, hg⟩
    have z15 := hg.size
    have b15 : w5.heap.size < w15.heap.size := Nat.lt_of_lt_of_le b14 z15
    have W15 : Hid (Later w w15) := Lib.hid (later_growE W14.out hg (fun k e => by have h9 := RI.out _ e; omega))
    have c15 : w15.cell? ⟨w.heap.size, 0, none⟩ = some (.slice a n cap) := hg.cell c14 (fun e => by have h9 := RI.out _ e.symm; simp at h9; omega)
    have OS_15 := Lib.hid (OS_14.out.keptE hg (fun k hk e => by have h1 := RS.out k hk; have h9 := RI.out _ e; omega))
    have MI := Lib.hid ho
    clear ho hg c14
    go_wp2_with fail
    refine (l_heldInt64S _ _ _ _ MI.out (by omega)).mono ?_
    rintro e w' ⟨rfl, rfl⟩
    go_wp2_with fail
    refine (l_toLayout a n cap L _ (HS.out.later W15.out) hle).mono ?_
    rintro e w16 ⟨gl, rfl, hg, hr, hb⟩
    have hb : Later w15 w16 := hb
    have z16 := hb.size
    have b16 : w5.heap.size < w16.heap.size := Nat.lt_of_lt_of_le b15 z16
    have W16 : Hid (Later w w16) := Lib.hid (W15.out.trans hb)
    have c16 : w16.cell? ⟨w.heap.size, 0, none⟩ = some (.slice a n cap) := by rw [hb.cell (p := ⟨w.heap.size, 0, none⟩) (Nat.lt_trans b5 b15)]; exact c15
    have OS_16 := Lib.hid (OS_15.out.laterE hb)
    have MI_16 := Lib.hid (MI.out.laterE hb)
    have SZ := Lib.hid (hr.sgs HS.out.1 (by omega) HS.out.2.2.2)
    clear hb c15 hr hg
    go_wp2_with fail
    refine (l_toInt64S A1 m1 c1 F _ (HF.out.laterE W16.out) hb1').mono ?_
    rintro e w17 ⟨p1, rfl, hg, hr, hs, hb⟩
    have hb : Later w16 w17 := hb
    have z17 := hb.size
    have b17 : w5.heap.size < w17.heap.size := Nat.lt_of_lt_of_le b16 z17
    have W17 : Hid (Later w w17) := Lib.hid (W16.out.trans hb)
    have OS_17 := Lib.hid (OS_16.out.laterE hb)
    have MI_17 := Lib.hid (MI_16.out.laterE hb)
    have SZ_17 := Lib.hid (SZ.out.later hb)
    have TZ1 := Lib.hid hs
    clear hb hg hr hs
    go_wp2_with fail
    refine (i_OccupiedBlocks _ n n L _ m1 m1 F p q _ SZ_17.out TZ1.out (Nat.le_refl _) (Nat.le_refl _) ⟨v2, v2'⟩).mono ?_
    rintro e w18 ⟨vz, rfl, hoz, hb⟩
    have hb : Later w17 w18 := hb
    have z18 := hb.size
    have b18 : w5.heap.size < w18.heap.size := Nat.lt_of_lt_of_le b17 z18
    have W18 : Hid (Later w w18) := Lib.hid (W17.out.trans hb)
    have OS_18 := Lib.hid (OS_17.out.laterE hb)
    have MI_18 := Lib.hid (MI_17.out.laterE hb)
    have SZ_18 := Lib.hid (SZ_17.out.later hb)
    have TZ1_18 := Lib.hid (TZ1.out.laterE hb)
    obtain ⟨az, kz, rfl, s9, _⟩ := hoz.sl
    have S9 := Lib.hid s9
    clear hb hoz s9
    obtain ⟨a3, k3, e3, s3, _⟩ := OS_18.out.sl
    cases e3
    have S3 := Lib.hid s3
    clear s3
    go_wp2_with fail
    refine (l_eqIE _ _ _ _ _ _ _ _ S9.out S3.out).mono ?_
    rintro e w19 ⟨rfl, hb⟩
    have hb : Later w18 w19 := hb
    have z19 := hb.size
    have b19 : w5.heap.size < w19.heap.size := Nat.lt_of_lt_of_le b18 z19
    have W19 : Hid (Later w w19) := Lib.hid (W18.out.trans hb)
    have OS_19 := Lib.hid (OS_18.out.laterE hb)
    have MI_19 := Lib.hid (MI_18.out.laterE hb)
    have SZ_19 := Lib.hid (SZ_18.out.later hb)
    have TZ1_19 := Lib.hid (TZ1_18.out.laterE hb)
    skip
    clear hb
    go_wp2_with fail
    refine (l_heldInt64S _ _ _ _ MI_19.out (by omega)).mono ?_
    rintro e w' ⟨rfl, rfl⟩
    go_wp2_with fail
    go_ret
    exact ⟨rfl, W19.out⟩

set_option maxRecDepth 100000 in
theorem walk_FnExactBlockLoads (a : Option Addr) (n cap : Nat) (L : List Sg) (A1 : Option Addr) (m1 c1 : Nat) (Z1 : List Int) (A2 : Option Addr) (m2 c2 : Nat) (Z2 : List Int) (q : Int) (w : World) (hcap : n ≤ cap) (hs : Sgs w a n L) (u1 : IsRow .i64 w A1 m1 c1 Z1) (u2 : IsRow .i64 w A2 m2 c2 Z2) (u3 : (Lit.int .i64 q).wf = true) :
    Calls Try.prog 12 #[.agg #[.slice a n cap], .slice A1 m1 c1, .slice A2 m2 c2, .int .i64 q] w fun e w' => e = .returned (.bool true) ∧ Later w w' := by
  have HS := Lib.hid hs
  have hn := hs.2.1
  have HLn := Lib.hid hs.1
  have hle1 := isRow_leE u1
  obtain ⟨F, hF⟩ : ∃ F, F = Z1.take m1 := ⟨_, rfl⟩
  have HF := Lib.hid (isRow_sl u1)
  rw [← hF] at HF
  have hm1 := HF.out.2.1
  have HM1 := Lib.hid HF.out.1
  clear u1 hF
  have hle2 := isRow_leE u2
  obtain ⟨G, hG⟩ : ∃ G, G = Z2.take m2 := ⟨_, rfl⟩
  have HG := Lib.hid (isRow_sl u2)
  rw [← hG] at HG
  have hm2 := HG.out.2.1
  have HM2 := Lib.hid HG.out.1
  clear u2 hG
  obtain ⟨v3, v3'⟩ := i64w u3
  clear u3
  clear hs
  have e0 : (ldE L F G q != ldE L F G q) = false := by simp
  have hlen : (ldV L F G q).length ≤ 1000000 := ldV_len L F G q
  by_cases hb1 : 1048576 < m1
  · go_enter Try.func12, Try.ntmps12
    go_wp2
    go_ret
    exact ⟨rfl, (by repeat (first | (with_reducible exact Later.refl _) | (with_reducible exact Hid.out (by assumption)) | (with_reducible refine Later.alloc ?_ _) | (with_reducible refine Later.setCell ?_ (by simp; omega) _) | (with_reducible refine Later.setCell ?_ (by simp) _) | (with_reducible refine Later.drewN ?_ _) | (with_reducible refine Later.drew ?_) | (with_reducible refine Later.trans ?_ (Hid.out (by assumption)))))⟩
  have hb1' : m1 ≤ 1048576 := by omega
  by_cases hb2 : 1048576 < m2
  · go_enter Try.func12, Try.ntmps12
    go_wp2
    go_ret
    exact ⟨rfl, (by repeat (first | (with_reducible exact Later.refl _) | (with_reducible exact Hid.out (by assumption)) | (with_reducible refine Later.alloc ?_ _) | (with_reducible refine Later.setCell ?_ (by simp; omega) _) | (with_reducible refine Later.setCell ?_ (by simp) _) | (with_reducible refine Later.drewN ?_ _) | (with_reducible refine Later.drew ?_) | (with_reducible refine Later.trans ?_ (Hid.out (by assumption)))))⟩
  have hb2' : m2 ≤ 1048576 := by omega
  by_cases hbig : 1048576 < n
  · have hz := Lib.hid (szI_big hbig)
    go_enter Try.func12, Try.ntmps12
    go_wp2_with (go_at_call 47; refine (l_szLayout a n cap _ hn).mono ?_; rw [hz.out]; rintro e w1 ⟨rfl, hb⟩; have H := Lib.hid hb; clear hb)
    go_ret
    exact ⟨rfl, (by repeat (first | (with_reducible exact Later.refl _) | (with_reducible exact Hid.out (by assumption)) | (with_reducible refine Later.alloc ?_ _) | (with_reducible refine Later.setCell ?_ (by simp; omega) _) | (with_reducible refine Later.setCell ?_ (by simp) _) | (with_reducible refine Later.drewN ?_ _) | (with_reducible refine Later.drew ?_) | (with_reducible refine Later.trans ?_ (Hid.out (by assumption)))))⟩
  have hle : n ≤ 1048576 := by omega
  have hz := Lib.hid (szI_ok hle)
  clear hbig hb1 hb2
  go_enter Try.func12, Try.ntmps12
  go_wp2_with fail
  refine (l_szLayout a n cap _ hn).mono ?_
  rw [hz.out]
  rintro e w1 ⟨rfl, hb⟩
  have b1 : w.heap.size < w1.heap.size := by have := hb.size; simp at this; omega
  have c1 : w1.cell? ⟨w.heap.size, 0, none⟩ = some (.slice a n cap) := by rw [hb.cell (p := ⟨w.heap.size, 0, none⟩) (by simp)]; simp
  have W1 : Hid (Later w w1) := Lib.hid (((Later.refl _).alloc _).trans hb)
  clear hb
  go_wp2_with fail
  refine (l_toLayout a n cap L _ (HS.out.later W1.out) hle).mono ?_
  rintro e w2 ⟨g, rfl, hg, hr, hb⟩
  have hb : Later w1 w2 := hb
  have z2 := hb.size
  have b2 : w.heap.size < w2.heap.size := Nat.lt_of_lt_of_le b1 z2
  have c2 : w2.cell? ⟨w.heap.size, 0, none⟩ = some (.slice a n cap) := by rw [hb.cell (p := ⟨w.heap.size, 0, none⟩) b1]; exact c1
  have W2 : Hid (Later w w2) := Lib.hid (W1.out.trans hb)
  have S0 := Lib.hid (hr.sgs HS.out.1 (by omega) HS.out.2.2.2)
  clear hb c1 hr hg
  go_wp2_with fail
  refine (l_toInt64S A1 m1 c1 F _ (HF.out.laterE W2.out) hb1').mono ?_
  rintro e w3 ⟨g1, rfl, hg, hr, hs, hb⟩
  have hb : Later w2 w3 := hb
  have z3 := hb.size
  have b3 : w.heap.size < w3.heap.size := Nat.lt_of_lt_of_le b2 z3
  have c3 : w3.cell? ⟨w.heap.size, 0, none⟩ = some (.slice a n cap) := by rw [hb.cell (p := ⟨w.heap.size, 0, none⟩) b2]; exact c2
  have W3 : Hid (Later w w3) := Lib.hid (W2.out.trans hb)
  have S0_3 := Lib.hid (S0.out.later hb)
  have T1 := Lib.hid hs
  clear hb c2 hg hr hs
  go_wp2_with fail
  refine (l_toInt64S A2 m2 c2 G _ (HG.out.laterE W3.out) hb2').mono ?_
  rintro e w4 ⟨g2, rfl, hg, hr, hs, hb⟩
  have hb : Later w3 w4 := hb
  have z4 := hb.size
  have b4 : w.heap.size < w4.heap.size := Nat.lt_of_lt_of_le b3 z4
  have c4 : w4.cell? ⟨w.heap.size, 0, none⟩ = some (.slice a n cap) := by rw [hb.cell (p := ⟨w.heap.size, 0, none⟩) b3]; exact c3
  have W4 : Hid (Later w w4) := Lib.hid (W3.out.trans hb)
  have S0_4 := Lib.hid (S0_3.out.later hb)
  have T1_4 := Lib.hid (T1.out.laterE hb)
  have T2 := Lib.hid hs
  clear hb c3 hg hr hs
  go_wp2_with fail
  refine (s_BlockLoads _ n n L _ m1 m1 F _ m2 m2 G q _ S0_4.out T1_4.out T2.out).mono ?_
  rintro e w5 ⟨vs, rfl, hos, hb⟩
  have hb : Later w4 w5 := hb
  have z5 := hb.size
  have b5 : w.heap.size < w5.heap.size := Nat.lt_of_lt_of_le b4 z5
  have c5 : w5.cell? ⟨w.heap.size, 0, none⟩ = some (.slice a n cap) := by rw [hb.cell (p := ⟨w.heap.size, 0, none⟩) b4]; exact c4
  have W5 : Hid (Later w w5) := Lib.hid (W4.out.trans hb)
  have S0_5 := Lib.hid (S0_4.out.later hb)
  have T1_5 := Lib.hid (T1_4.out.laterE hb)
  have T2_5 := Lib.hid (T2.out.laterE hb)
  have OS := Lib.hid hos
  have RS := Lib.hid hos.lt
  clear hb c4 hos
  go_wp2_with fail
  refine (l_toLayout a n cap L _ (HS.out.later W5.out) hle).mono ?_
  rintro e w6 ⟨gx0, rfl, hgx, hr, hb⟩
  have hb : Later w5 w6 := hb
  have z6 := hb.size
  have b6 : w.heap.size < w6.heap.size := Nat.lt_of_lt_of_le b5 z6
  have c6 : w6.cell? ⟨w.heap.size, 0, none⟩ = some (.slice a n cap) := by rw [hb.cell (p := ⟨w.heap.size, 0, none⟩) b5]; exact c5
  have W6 : Hid (Later w w6) := Lib.hid (W5.out.trans hb)
  have OS_6 := Lib.hid (OS.out.laterE hb)
  have X0 := Lib.hid hr
  have X0l := hr.lt
  clear hb c5 hr
  go_wp2_with fail
  refine (l_toInt64O A1 m1 c1 F _ (HF.out.laterE (W6.out.alloc _)) hb1').mono ?_
  rintro e w7 ⟨y1, rfl, hy1, hy1', ho, hb⟩
  have hb : Later (w6.alloc (.cells #[.slice (some ⟨gx0, 0, none⟩) n n] 26)) w7 := hb
  have z7 : w6.heap.size + 1 ≤ w7.heap.size := by have := hb.size; rw [World.size_alloc] at this; exact this
  have b7 : w6.heap.size < w7.heap.size := by omega
  have c7 : w7.cell? ⟨w.heap.size, 0, none⟩ = some (.slice a n cap) := (hb.cell (p := ⟨w.heap.size, 0, none⟩) (by rw [World.size_alloc]; exact Nat.lt_succ_of_lt b6)).trans ((World.cell?_alloc_lt w6 _ ⟨w.heap.size, 0, none⟩ b6).trans c6)
  have d7 : w7.cell? ⟨w6.heap.size, 0, none⟩ = some (.slice (some ⟨gx0, 0, none⟩) n n) := by rw [hb.cell (p := ⟨w6.heap.size, 0, none⟩) (by simp)]; simp
  have W7 : Hid (Later w w7) := Lib.hid ((W6.out.alloc _).trans hb)
  have hbx : Later w6 w7 := ((Later.refl _).alloc _).trans hb
  have OS_7 := Lib.hid (OS_6.out.laterE hbx)
  have X0_7 := Lib.hid (X0.out.later hbx)
  have Y1 := Lib.hid ho
  rw [World.size_alloc] at hy1
  clear hb hbx c6 ho
  go_wp2_with fail
  refine (l_toInt64O A2 m2 c2 G _ (HG.out.laterE W7.out) hb2').mono ?_
  rintro e w8 ⟨y2, rfl, hy2, hy2', ho, hb⟩
  have hb : Later w7 w8 := hb
  have z8 := hb.size
  have b8 : w6.heap.size < w8.heap.size := Nat.lt_of_lt_of_le b7 z8
  obtain ⟨c8, d8⟩ := two_cells c7 (Nat.lt_trans b6 b7) d7 b7 hb
  have W8 : Hid (Later w w8) := Lib.hid (W7.out.trans hb)
  have OS_8 := Lib.hid (OS_7.out.laterE hb)
  have X0_8 := Lib.hid (X0_7.out.later hb)
  have Y1_8 := Lib.hid (Y1.out.laterE hb)
  have Y2 := Lib.hid ho
  clear hb c7 d7 ho
  go_wp2_with fail
  refine (i_BlockLoads _ n n L _ m1 m1 F _ m2 m2 G q _ (X0_8.out.sgs HS.out.1 (by omega) HS.out.2.2.2) (own_slE Y1_8.out HM1.out) (own_slE Y2.out HM2.out) (Nat.le_refl _) (Nat.le_refl _)).mono ?_
  rintro e w9 ⟨vi, rfl, hoi, hb⟩
  have hb : Later w8 w9 := hb
  have z9 := hb.size
  have b9 : w6.heap.size < w9.heap.size := Nat.lt_of_lt_of_le b8 z9
  obtain ⟨c9, d9⟩ := two_cells c8 (Nat.lt_trans b6 b8) d8 b8 hb
  have W9 : Hid (Later w w9) := Lib.hid (W8.out.trans hb)
  have OS_9 := Lib.hid (OS_8.out.laterE hb)
  have X0_9 := Lib.hid (X0_8.out.later hb)
  have Y1_9 := Lib.hid (Y1_8.out.laterE hb)
  have Y2_9 := Lib.hid (Y2.out.laterE hb)
  have OI := Lib.hid hoi
  have RI := Lib.hid hoi.lt
  clear hb c8 d8 hoi
  obtain ⟨aS, ks, rfl, s1, _⟩ := OS_9.out.sl
  obtain ⟨ai, ki, rfl, s2, _⟩ := OI.out.sl
  have S1 := Lib.hid s1; have S2 := Lib.hid s2
  clear s1 s2
  go_wp2_with fail
  refine (l_eqIE _ _ _ _ _ _ _ _ S2.out S1.out).mono ?_
  rintro e w10 ⟨rfl, hb⟩
  have hb : Later w9 w10 := hb
  have z10 := hb.size
  have b10 : w6.heap.size < w10.heap.size := Nat.lt_of_lt_of_le b9 z10
  obtain ⟨c10, d10⟩ := two_cells c9 (Nat.lt_trans b6 b9) d9 b9 hb
  have W10 : Hid (Later w w10) := Lib.hid (W9.out.trans hb)
  have OS_10 := Lib.hid (OS_9.out.laterE hb)
  have X0_10 := Lib.hid (X0_9.out.later hb)
  have Y1_10 := Lib.hid (Y1_9.out.laterE hb)
  have Y2_10 := Lib.hid (Y2_9.out.laterE hb)
  have OI_10 := Lib.hid (OI.out.laterE hb)
  skip
  clear hb c9 d9 S1 S2
  have K10 := Lib.hid (And.intro c10 d10)
  clear c10 d10
  obtain ⟨c10, d10⟩ := K10.out
  go_wp2_with fail
  go_region_held3 (fun w' => w'.cell? ⟨w.heap.size, 0, none⟩ = some (.slice a n cap) ∧ w'.cell? ⟨w6.heap.size, 0, none⟩ = some (.slice (some ⟨gx0, 0, none⟩) n n))
    (exact two_cells K10.out.1 (Nat.lt_trans b6 b10) K10.out.2 b10 (by repeat (first | (with_reducible exact Later.refl _) | (with_reducible exact Hid.out (by assumption)) | (with_reducible refine Later.alloc ?_ _) | (with_reducible refine Later.setCell ?_ (by simp; omega) _) | (with_reducible refine Later.setCell ?_ (by simp) _) | (with_reducible refine Later.drewN ?_ _) | (with_reducible refine Later.drew ?_) | (with_reducible refine Later.trans ?_ (Hid.out (by assumption))))))
    (first
      | (go_at_call 48; refine (l_toLayout a n cap L _ (HS.out.later (by repeat (first | (with_reducible exact Later.refl _) | (with_reducible exact Hid.out (by assumption)) | (with_reducible refine Later.alloc ?_ _) | (with_reducible refine Later.setCell ?_ (by simp; omega) _) | (with_reducible refine Later.setCell ?_ (by simp) _) | (with_reducible refine Later.drewN ?_ _) | (with_reducible refine Later.drew ?_) | (with_reducible refine Later.trans ?_ (Hid.out (by assumption)))))) hle).mono ?_; rintro e wp ⟨gp, rfl, hgp, hrp, hbp⟩; have HP := Lib.hid hbp; have SP := Lib.hid (hrp.sgs HS.out.1 (by omega) HS.out.2.2.2); clear hbp hrp hgp)
      | (go_at_call 49; refine (l_eqLayout_same _ _ n n n n L _ ((X0_10.out.sgs HS.out.1 (by omega) HS.out.2.2.2).later (by repeat (first | (with_reducible exact Later.refl _) | (with_reducible exact Hid.out (by assumption)) | (with_reducible refine Later.alloc ?_ _) | (with_reducible refine Later.setCell ?_ (by simp; omega) _) | (with_reducible refine Later.setCell ?_ (by simp) _) | (with_reducible refine Later.drewN ?_ _) | (with_reducible refine Later.drew ?_) | (with_reducible refine Later.trans ?_ (Hid.out (by assumption)))))) (SP.out.later (by repeat (first | (with_reducible exact Later.refl _) | (with_reducible exact Hid.out (by assumption)) | (with_reducible refine Later.alloc ?_ _) | (with_reducible refine Later.setCell ?_ (by simp; omega) _) | (with_reducible refine Later.setCell ?_ (by simp) _) | (with_reducible refine Later.drewN ?_ _) | (with_reducible refine Later.drew ?_) | (with_reducible refine Later.trans ?_ (Hid.out (by assumption))))))).mono ?_; rintro e wq ⟨rfl, hbq⟩; have HQ := Lib.hid hbq; clear hbq))
  all_goals
    go_wp2_with fail
    refine calls_into (fun W => Later w10 W) (by repeat (first | (with_reducible exact Later.refl _) | (with_reducible exact Hid.out (by assumption)) | (with_reducible refine Later.alloc ?_ _) | (with_reducible refine Later.setCell ?_ (by simp; omega) _) | (with_reducible refine Later.setCell ?_ (by simp) _) | (with_reducible refine Later.drewN ?_ _) | (with_reducible refine Later.drew ?_) | (with_reducible refine Later.trans ?_ (Hid.out (by assumption))))) ?_
    intro w11 hb
    have z11 := hb.size
    have b11 : w6.heap.size < w11.heap.size := Nat.lt_of_lt_of_le b10 z11
    have W11 : Hid (Later w w11) := Lib.hid (W10.out.trans hb)
    obtain ⟨c11, d11⟩ := two_cells c10 (Nat.lt_trans b6 b10) d10 b10 hb
    have OS_11 := Lib.hid (OS_10.out.laterE hb)
    have X0_11 := Lib.hid (X0_10.out.later hb)
    have Y1_11 := Lib.hid (Y1_10.out.laterE hb)
    have Y2_11 := Lib.hid (Y2_10.out.laterE hb)
    have OI_11 := Lib.hid (OI_10.out.laterE hb)
    clear hb c10 d10 K10
    refine (l_toInt64S A1 m1 c1 F _ (HF.out.laterE W11.out) hb1').mono ?_
    rintro e w12 ⟨q1, rfl, hg, hr, hs, hb⟩
    have hb : Later w11 w12 := hb
    have z12 := hb.size
    have b12 : w6.heap.size < w12.heap.size := Nat.lt_of_lt_of_le b11 z12
    have W12 : Hid (Later w w12) := Lib.hid (W11.out.trans hb)
    obtain ⟨c12, d12⟩ := two_cells c11 (Nat.lt_trans b6 b11) d11 b11 hb
    have OS_12 := Lib.hid (OS_11.out.laterE hb)
    have X0_12 := Lib.hid (X0_11.out.later hb)
    have Y1_12 := Lib.hid (Y1_11.out.laterE hb)
    have Y2_12 := Lib.hid (Y2_11.out.laterE hb)
    have OI_12 := Lib.hid (OI_11.out.laterE hb)
    have Q1 := Lib.hid hs
    clear hb c11 d11 hg hr hs
    go_wp2_with fail
    refine (l_eqIE _ _ m1 m1 m1 m1 F _ (own_slE Y1_12.out HM1.out) Q1.out).mono ?_
    rintro e w13 ⟨rfl, hb⟩
    have hb : Later w12 w13 := hb
    have z13 := hb.size
    have b13 : w6.heap.size < w13.heap.size := Nat.lt_of_lt_of_le b12 z13
    have W13 : Hid (Later w w13) := Lib.hid (W12.out.trans hb)
    obtain ⟨c13, d13⟩ := two_cells c12 (Nat.lt_trans b6 b12) d12 b12 hb
    have OS_13 := Lib.hid (OS_12.out.laterE hb)
    have X0_13 := Lib.hid (X0_12.out.later hb)
    have Y1_13 := Lib.hid (Y1_12.out.laterE hb)
    have Y2_13 := Lib.hid (Y2_12.out.laterE hb)
    have OI_13 := Lib.hid (OI_12.out.laterE hb)
    skip
    clear hb c12 d12 Q1
    go_wp2_with fail
    refine (l_toInt64S A2 m2 c2 G _ (HG.out.laterE W13.out) hb2').mono ?_
    rintro e w14 ⟨q2, rfl, hg, hr, hs, hb⟩
    have hb : Later w13 w14 := hb
    have z14 := hb.size
    have b14 : w6.heap.size < w14.heap.size := Nat.lt_of_lt_of_le b13 z14
    have W14 : Hid (Later w w14) := Lib.hid (W13.out.trans hb)
    obtain ⟨c14, d14⟩ := two_cells c13 (Nat.lt_trans b6 b13) d13 b13 hb
    have OS_14 := Lib.hid (OS_13.out.laterE hb)
    have X0_14 := Lib.hid (X0_13.out.later hb)
    have Y1_14 := Lib.hid (Y1_13.out.laterE hb)
    have Y2_14 := Lib.hid (Y2_13.out.laterE hb)
    have OI_14 := Lib.hid (OI_13.out.laterE hb)
    have Q2 := Lib.hid hs
    clear hb c13 d13 hg hr hs
    go_wp2_with fail
    refine (l_eqIE _ _ m2 m2 m2 m2 G _ (own_slE Y2_14.out HM2.out) Q2.out).mono ?_
    rintro e w15 ⟨rfl, hb⟩
    have hb : Later w14 w15 := hb
    have z15 := hb.size
    have b15 : w6.heap.size < w15.heap.size := Nat.lt_of_lt_of_le b14 z15
    have W15 : Hid (Later w w15) := Lib.hid (W14.out.trans hb)
    obtain ⟨c15, d15⟩ := two_cells c14 (Nat.lt_trans b6 b14) d14 b14 hb
    have OS_15 := Lib.hid (OS_14.out.laterE hb)
    have X0_15 := Lib.hid (X0_14.out.later hb)
    have Y1_15 := Lib.hid (Y1_14.out.laterE hb)
    have Y2_15 := Lib.hid (Y2_14.out.laterE hb)
    have OI_15 := Lib.hid (OI_14.out.laterE hb)
    skip
    clear hb c14 d14 Q2
    go_wp2_with fail
    refine (l_markLayout gx0 n n (flt L) _ X0_15.out hle).mono ?_
    rintro e w16 ⟨rfl, hr, hg⟩
    have z16 := hg.size
    have b16 : w6.heap.size < w16.heap.size := Nat.lt_of_lt_of_le b15 z16
    have W16 : Hid (Later w w16) := Lib.hid (later_growE W15.out hg (fun k e => by have h9 := Option.some.inj e; omega))
    have c16 : w16.cell? ⟨w.heap.size, 0, none⟩ = some (.slice a n cap) := hg.cell c15 (fun e => by have h9 := Option.some.inj e; simp at h9; omega)
    have OS_16 := Lib.hid (OS_15.out.keptE hg (fun k hk e => by have h1 := RS.out k hk; have h9 := Option.some.inj e; omega))
    have Y1_16 := Lib.hid (Y1_15.out.keptE hg (fun k hk e => by have h1 : y1 = k := Option.some.inj hk; have h9 := Option.some.inj e; omega))
    have Y2_16 := Lib.hid (Y2_15.out.keptE hg (fun k hk e => by have h1 : y2 = k := Option.some.inj hk; have h9 := Option.some.inj e; omega))
    have OI_16 := Lib.hid (OI_15.out.keptE hg (fun k hk e => by have h1 := RI.out k hk; have h9 := Option.some.inj e; omega))
    clear hg hr c15
    go_wp2_with fail
    refine (l_markK y1 m1 m1 _ (1 + 7 * (n : Int)) F _ Y1_16.out HM1.out (by omega) (by omega) (by omega)).mono ?_
    rintro e w17 ⟨rfl, hg⟩
    have z17 := hg.size
    have b17 : w6.heap.size < w17.heap.size := Nat.lt_of_lt_of_le b16 z17
    have W17 : Hid (Later w w17) := Lib.hid (later_growE W16.out hg (fun k e => by have h9 := Option.some.inj e; omega))
    have c17 : w17.cell? ⟨w.heap.size, 0, none⟩ = some (.slice a n cap) := hg.cell c16 (fun e => by have h9 := Option.some.inj e; simp at h9; omega)
    have OS_17 := Lib.hid (OS_16.out.keptE hg (fun k hk e => by have h1 := RS.out k hk; have h9 := Option.some.inj e; omega))
    have Y2_17 := Lib.hid (Y2_16.out.keptE hg (fun k hk e => by have h1 : y2 = k := Option.some.inj hk; have h9 := Option.some.inj e; omega))
    have OI_17 := Lib.hid (OI_16.out.keptE hg (fun k hk e => by have h1 := RI.out k hk; have h9 := Option.some.inj e; omega))
    clear hg c16
    go_wp2_with fail
    refine (l_markK y2 m2 m2 _ (1 + 7 * (n : Int) + (m1 : Int)) G _ Y2_17.out HM2.out (by omega) (by omega) (by omega)).mono ?_
    rintro e w18 ⟨rfl, hg⟩
    have z18 := hg.size
    have b18 : w6.heap.size < w18.heap.size := Nat.lt_of_lt_of_le b17 z18
    have W18 : Hid (Later w w18) := Lib.hid (later_growE W17.out hg (fun k e => by have h9 := Option.some.inj e; omega))
    have c18 : w18.cell? ⟨w.heap.size, 0, none⟩ = some (.slice a n cap) := hg.cell c17 (fun e => by have h9 := Option.some.inj e; simp at h9; omega)
    have OS_18 := Lib.hid (OS_17.out.keptE hg (fun k hk e => by have h1 := RS.out k hk; have h9 := Option.some.inj e; omega))
    have OI_18 := Lib.hid (OI_17.out.keptE hg (fun k hk e => by have h1 := RI.out k hk; have h9 := Option.some.inj e; omega))
    clear hg c17
    obtain ⟨a1, k1, e1, s1, _⟩ := OS_18.out.sl
    obtain ⟨a2, k2, e2, s2, _⟩ := OI_18.out.sl
    cases e1; cases e2
    have S1 := Lib.hid s1; have S2 := Lib.hid s2
    clear s1 s2
    go_wp2_with fail
    refine (l_eqIE _ _ _ _ _ _ _ _ S2.out S1.out).mono ?_
    rintro e w19 ⟨rfl, hb⟩
    have hb : Later w18 w19 := hb
    have z19 := hb.size
    have b19 : w6.heap.size < w19.heap.size := Nat.lt_of_lt_of_le b18 z19
    have W19 : Hid (Later w w19) := Lib.hid (W18.out.trans hb)
    have c19 : w19.cell? ⟨w.heap.size, 0, none⟩ = some (.slice a n cap) := by rw [hb.cell (p := ⟨w.heap.size, 0, none⟩) (Nat.lt_trans b6 b18)]; exact c18
    have OS_19 := Lib.hid (OS_18.out.laterE hb)
    have OI_19 := Lib.hid (OI_18.out.laterE hb)
    skip
    clear hb c18 S1 S2
    go_wp2_with fail
    refine (l_markInt64S _ _ _ _ OI_19.out (by omega)).mono ?_
    rintro e w20 ⟨rfl, ho, hg⟩
    have z20 := hg.size
    have b20 : w6.heap.size < w20.heap.size := Nat.lt_of_lt_of_le b19 z20
    have W20 : Hid (Later w w20) := Lib.hid (later_growE W19.out hg (fun k e => by have h9 := RI.out _ e; omega))
    have c20 : w20.cell? ⟨w.heap.size, 0, none⟩ = some (.slice a n cap) := hg.cell c19 (fun e => by have h9 := RI.out _ e.symm; simp at h9; omega)
    have OS_20 := Lib.hid (OS_19.out.keptE hg (fun k hk e => by have h1 := RS.out k hk; have h9 := RI.out _ e; omega))
    have MI := Lib.hid ho
    clear ho hg c19
    go_wp2_with fail
    refine (l_heldInt64S _ _ _ _ MI.out (by omega)).mono ?_
    rintro e w' ⟨rfl, rfl⟩
    go_wp2_with fail
    refine (l_toLayout a n cap L _ (HS.out.later W20.out) hle).mono ?_
    rintro e w21 ⟨gl, rfl, hg, hr, hb⟩
    have hb : Later w20 w21 := hb
    have z21 := hb.size
    have b21 : w6.heap.size < w21.heap.size := Nat.lt_of_lt_of_le b20 z21
    have W21 : Hid (Later w w21) := Lib.hid (W20.out.trans hb)
    have c21 : w21.cell? ⟨w.heap.size, 0, none⟩ = some (.slice a n cap) := by rw [hb.cell (p := ⟨w.heap.size, 0, none⟩) (Nat.lt_trans b6 b20)]; exact c20
    have OS_21 := Lib.hid (OS_20.out.laterE hb)
    have MI_21 := Lib.hid (MI.out.laterE hb)
    have SZ := Lib.hid (hr.sgs HS.out.1 (by omega) HS.out.2.2.2)
    clear hb c20 hr hg
    go_wp2_with fail
    refine (l_toInt64S A1 m1 c1 F _ (HF.out.laterE W21.out) hb1').mono ?_
    rintro e w22 ⟨p1, rfl, hg, hr, hs, hb⟩
    have hb : Later w21 w22 := hb
    have z22 := hb.size
    have b22 : w6.heap.size < w22.heap.size := Nat.lt_of_lt_of_le b21 z22
    have W22 : Hid (Later w w22) := Lib.hid (W21.out.trans hb)
    have OS_22 := Lib.hid (OS_21.out.laterE hb)
    have MI_22 := Lib.hid (MI_21.out.laterE hb)
    have SZ_22 := Lib.hid (SZ.out.later hb)
    have TZ1 := Lib.hid hs
    clear hb hg hr hs
    go_wp2_with fail
    refine (l_toInt64S A2 m2 c2 G _ (HG.out.laterE W22.out) hb2').mono ?_
    rintro e w23 ⟨p2, rfl, hg, hr, hs, hb⟩
    have hb : Later w22 w23 := hb
    have z23 := hb.size
    have b23 : w6.heap.size < w23.heap.size := Nat.lt_of_lt_of_le b22 z23
    have W23 : Hid (Later w w23) := Lib.hid (W22.out.trans hb)
    have OS_23 := Lib.hid (OS_22.out.laterE hb)
    have MI_23 := Lib.hid (MI_22.out.laterE hb)
    have SZ_23 := Lib.hid (SZ_22.out.later hb)
    have TZ1_23 := Lib.hid (TZ1.out.laterE hb)
    have TZ2 := Lib.hid hs
    clear hb hg hr hs
    go_wp2_with fail
    refine (i_BlockLoads _ n n L _ m1 m1 F _ m2 m2 G q _ SZ_23.out TZ1_23.out TZ2.out (Nat.le_refl _) (Nat.le_refl _)).mono ?_
    rintro e w24 ⟨vz, rfl, hoz, hb⟩
    have hb : Later w23 w24 := hb
    have z24 := hb.size
    have b24 : w6.heap.size < w24.heap.size := Nat.lt_of_lt_of_le b23 z24
    have W24 : Hid (Later w w24) := Lib.hid (W23.out.trans hb)
    have OS_24 := Lib.hid (OS_23.out.laterE hb)
    have MI_24 := Lib.hid (MI_23.out.laterE hb)
    have SZ_24 := Lib.hid (SZ_23.out.later hb)
    have TZ1_24 := Lib.hid (TZ1_23.out.laterE hb)
    have TZ2_24 := Lib.hid (TZ2.out.laterE hb)
    obtain ⟨az, kz, rfl, s9, _⟩ := hoz.sl
    have S9 := Lib.hid s9
    clear hb hoz s9
    obtain ⟨a3, k3, e3, s3, _⟩ := OS_24.out.sl
    cases e3
    have S3 := Lib.hid s3
    clear s3
    go_wp2_with fail
    refine (l_eqIE _ _ _ _ _ _ _ _ S9.out S3.out).mono ?_
    rintro e w25 ⟨rfl, hb⟩
    have hb : Later w24 w25 := hb
    have z25 := hb.size
    have b25 : w6.heap.size < w25.heap.size := Nat.lt_of_lt_of_le b24 z25
    have W25 : Hid (Later w w25) := Lib.hid (W24.out.trans hb)
    have OS_25 := Lib.hid (OS_24.out.laterE hb)
    have MI_25 := Lib.hid (MI_24.out.laterE hb)
    have SZ_25 := Lib.hid (SZ_24.out.later hb)
    have TZ1_25 := Lib.hid (TZ1_24.out.laterE hb)
    have TZ2_25 := Lib.hid (TZ2_24.out.laterE hb)
    skip
    clear hb
    go_wp2_with fail
    refine (l_heldInt64S _ _ _ _ MI_25.out (by omega)).mono ?_
    rintro e w' ⟨rfl, rfl⟩
    go_wp2_with fail
    go_ret
    exact ⟨rfl, W25.out⟩

end Go.Proofs.Ytehinlecppbjeaa
