/- Contracts of the laws' own helpers on faults and reports. -/
import Derived.Test.YtdaihpkjnigjgaaIkM
import Derived.Test.YtdaihpkjnigjgaaTfL
import Derived.Test.YtdaihpkjnigjgaaWd
import Derived.Laws.ResultCell
namespace Go.Proofs.Ytdaihpkjnigjgaa
open Go.RowKit
set_option maxHeartbeats 4000000
set_option linter.unusedVariables false
set_option linter.unusedSimpArgs false
/-- element k of a slice of faults -/
theorem Wd.three {w : World} {a : Option Addr} {n : Nat} {l : List Int} (h : Wd w a n 3 l) (k : Nat) (hk : k < n) :
    ∃ b off, a = some ⟨b, off, none⟩ ∧ w.cell? ⟨b, off + k * 3, none⟩ = some (.int .i64 (ikb l k)) ∧ w.cell? ⟨b, off + k * 3 + 1, none⟩ = some (.int .i64 (ikc l k)) ∧ w.cell? ⟨b, off + k * 3 + 2, none⟩ = some (.int .i64 (ikv l k)) := by
  obtain ⟨b, off, rfl, h0⟩ := h.2.2.1 (k * 3) (by omega)
  obtain ⟨b', off', e, h1⟩ := h.2.2.1 (k * 3 + 1) (by omega)
  cases e
  obtain ⟨b', off', e, h2⟩ := h.2.2.1 (k * 3 + 2) (by omega)
  cases e
  exact ⟨b, off, rfl, h0, h1, h2⟩
theorem info_flt : (Try.prog.info? 55).map (fun i => (i.zero, i.size, i.bytes)) = some (some (.agg #[.int .i64 0, .int .i64 0, .int .i64 0]), 3, 24) := by kernel_rfl
/-- a slice of faults of the call's own -/
def OwnF (w : World) (base : Nat) (v : Value) (n : Nat) (l : List Int) : Prop := OwnW w base 55 3 v n l
theorem OwnF.wd {w : World} {base g n cap : Nat} {l : List Int} (h : OwnF w base (.slice (some ⟨g, 0, none⟩) n cap) n l) : Wd w (some ⟨g, 0, none⟩) n 3 l := by
  obtain ⟨a, c, e, _, hw, _⟩ := OwnW.wd h
  cases e; exact hw
theorem l_toSensorFault (a b c : Int) (w : World) : Calls Try.prog 126 #[.agg #[.int .i64 a, .int .i64 b, .int .i64 c]] w fun e w' => e = .returned (.agg #[.int .i64 a, .int .i64 b, .int .i64 c]) ∧ Later w w' := by
  go_enter Try.func126, Try.ntmps126
  go_wp2_with fail
  refine bodyPost_ret (v := .agg #[.int .i64 a, .int .i64 b, .int .i64 c]) (by simp [results, Try.results126, go_sem, *]) rfl ⟨rfl, ?_⟩
  exact (by repeat (first | (with_reducible exact Later.refl _) | (with_reducible exact Hid.out (by assumption)) | (with_reducible refine Later.setCell ?_ (by simp; omega) _) | (with_reducible refine Later.setCell ?_ (by simp) _) | (with_reducible refine Later.alloc ?_ _) | (with_reducible refine Later.drewN ?_ _) | (with_reducible refine Later.drew ?_) | (with_reducible refine Later.trans ?_ (Hid.out (by assumption)))))
theorem l_eqSensorFault_same (a b c : Int) (w : World) : Calls Try.prog 127 #[.agg #[.int .i64 a, .int .i64 b, .int .i64 c], .agg #[.int .i64 a, .int .i64 b, .int .i64 c]] w fun e w' => e = .returned (.bool true) ∧ Later w w' := by
  have e1 : (a != a) = false := by simp
  have e2 : (b != b) = false := by simp
  have e3 : (c != c) = false := by simp
  go_enter Try.func127, Try.ntmps127
  go_wp2_with fail
  go_ret
  exact ⟨rfl, (by repeat (first | (with_reducible exact Later.refl _) | (with_reducible exact Hid.out (by assumption)) | (with_reducible refine Later.alloc ?_ _) | (with_reducible refine Later.setCell ?_ (by simp; omega) _) | (with_reducible refine Later.setCell ?_ (by simp) _) | (with_reducible refine Later.drewN ?_ _) | (with_reducible refine Later.drew ?_) | (with_reducible refine Later.trans ?_ (Hid.out (by assumption)))))⟩
theorem l_szSensorFaultS (a : Option Addr) (n cap : Nat) (w : World) (hn : n ≤ 9223372036854775807) :
    Calls Try.prog 77 #[.slice a n cap, .int .i64 1048576] w fun e w' => e = .returned (.int .i64 (szT n)) ∧ w = w' := by
  by_cases h : n ≤ 1048576
  · have HZ : Hid (szT n = 1048576 - (n : Int)) := Lib.hid (by unfold szT; rw [if_pos h])
    go_enter Try.func77, Try.ntmps77
    go_wp2_with fail
    go_ret
    exact ⟨ret_i64 (by rw [HZ.out]), rfl⟩
  · have HZ : Hid (szT n = -1) := Lib.hid (by unfold szT; rw [if_neg h])
    go_enter Try.func77, Try.ntmps77
    go_wp2_with fail
    go_ret
    exact ⟨ret_i64 (by rw [HZ.out]), rfl⟩
theorem l_eqSensorFaultS_same (a b : Option Addr) (n cap m cap' : Nat) (l : List Int) (w : World) (hs : Wd w a n 3 l) (ht : Wd w b m 3 l) :
    Calls Try.prog 79 #[.slice a n cap, .slice b m cap'] w fun e w' => e = .returned (.bool true) ∧ Later w w' := by
  have hn := hs.1; have hm := ht.1
  obtain rfl : n = m := by omega
  have HS := Lib.hid hs; have HT := Lib.hid ht
  have hn' := hs.2.1
  clear hs ht hm hn
  have e0 : ((n : Int) != (n : Int)) = false := by simp
  go_enter Try.func79, Try.ntmps79
  go_wp2
  go_loopw [5] (fun i wr => ∃ k : Nat, k ≤ n ∧ i = .int .i64 k ∧ Later w wr) (fun i _ => n - (intOf i).toNat)
  case atStart => exact ⟨0, by omega, rfl, Later.refl _⟩
  case round =>
    obtain ⟨k, hk, rfl, hlw⟩ := hrel
    have HW := Lib.hid hlw
    clear hlw
    by_cases hlt : k < n
    · obtain ⟨b1, o1, rfl, c1, c2, c3⟩ := (HS.out.later HW.out).three k hlt
      obtain ⟨b2, o2, rfl, d1, d2, d3⟩ := (HT.out.later HW.out).three k hlt
      obtain ⟨x, hx⟩ : ∃ x, x = ikb l k := ⟨_, rfl⟩
      obtain ⟨y, hy⟩ : ∃ y, y = ikc l k := ⟨_, rfl⟩
      obtain ⟨z, hz⟩ : ∃ z, z = ikv l k := ⟨_, rfl⟩
      rw [← hx] at c1 d1
      rw [← hy] at c2 d2
      rw [← hz] at c3 d3
      clear hx hy hz
      have C := Lib.hid c1; have C' := Lib.hid c2; have C'' := Lib.hid c3; have D := Lib.hid d1; have D' := Lib.hid d2; have D'' := Lib.hid d3
      have KL : Hid (∀ W', Later wr W' → W'.cell? ⟨b1, o1 + k * 3, none⟩ = some (.int .i64 x) ∧ W'.cell? ⟨b1, o1 + k * 3 + 1, none⟩ = some (.int .i64 y) ∧ W'.cell? ⟨b1, o1 + k * 3 + 2, none⟩ = some (.int .i64 z) ∧ W'.cell? ⟨b2, o2 + k * 3, none⟩ = some (.int .i64 x) ∧ W'.cell? ⟨b2, o2 + k * 3 + 1, none⟩ = some (.int .i64 y) ∧ W'.cell? ⟨b2, o2 + k * 3 + 2, none⟩ = some (.int .i64 z)) := Lib.hid (fun W' q => ⟨by rw [q.cell (p := ⟨b1, o1 + k * 3, none⟩) (cell_lt C.out)]; exact C.out, by rw [q.cell (p := ⟨b1, o1 + k * 3 + 1, none⟩) (cell_lt C.out)]; exact C'.out, by rw [q.cell (p := ⟨b1, o1 + k * 3 + 2, none⟩) (cell_lt C.out)]; exact C''.out, by rw [q.cell (p := ⟨b2, o2 + k * 3, none⟩) (cell_lt D.out)]; exact D.out, by rw [q.cell (p := ⟨b2, o2 + k * 3 + 1, none⟩) (cell_lt D.out)]; exact D'.out, by rw [q.cell (p := ⟨b2, o2 + k * 3 + 2, none⟩) (cell_lt D.out)]; exact D''.out⟩)
      go_wp2_with fail
      go_region_held3 (fun w' => w'.cell? ⟨b1, o1 + k * 3, none⟩ = some (.int .i64 x) ∧ w'.cell? ⟨b1, o1 + k * 3 + 1, none⟩ = some (.int .i64 y) ∧ w'.cell? ⟨b1, o1 + k * 3 + 2, none⟩ = some (.int .i64 z) ∧ w'.cell? ⟨b2, o2 + k * 3, none⟩ = some (.int .i64 x) ∧ w'.cell? ⟨b2, o2 + k * 3 + 1, none⟩ = some (.int .i64 y) ∧ w'.cell? ⟨b2, o2 + k * 3 + 2, none⟩ = some (.int .i64 z)) (exact KL.out _ (by repeat (first | (with_reducible exact Later.refl _) | (with_reducible exact Hid.out (by assumption)) | (with_reducible refine Later.alloc ?_ _) | (with_reducible refine Later.setCell ?_ (by simp; omega) _) | (with_reducible refine Later.setCell ?_ (by simp) _) | (with_reducible refine Later.drewN ?_ _) | (with_reducible refine Later.drew ?_) | (with_reducible refine Later.trans ?_ (Hid.out (by assumption))))))
        (first | (go_at_call 127; refine (l_eqSensorFault_same _ _ _ _).mono ?_; rintro e w1 ⟨rfl, hb1⟩; have H1 := Lib.hid hb1; clear hb1))
      all_goals
        go_wp2
        go_roundw
        case rel => exact ⟨k + 1, by omega, by go_num, (by repeat (first | (with_reducible exact Later.refl _) | (with_reducible exact Hid.out (by assumption)) | (with_reducible refine Later.alloc ?_ _) | (with_reducible refine Later.setCell ?_ (by simp; omega) _) | (with_reducible refine Later.setCell ?_ (by simp) _) | (with_reducible refine Later.drewN ?_ _) | (with_reducible refine Later.drew ?_) | (with_reducible refine Later.trans ?_ (Hid.out (by assumption)))))⟩
        case measure => simp [intOf]; omega
    · obtain rfl : k = n := by omega
      go_wp2
      go_ret
      exact ⟨rfl, HW.out⟩
/-- a copy of which the first k faults are there -/
def prt (l : List Int) (m k : Nat) : List Int := (List.range m).map fun j => if j < k then gx l j else 0
theorem prt_len (l : List Int) (m k : Nat) : (prt l m k).length = m := by simp [prt]
theorem prt_get (l : List Int) (m k j : Nat) (h : j < m) : (prt l m k)[j]? = some (if j < k then gx l j else 0) := by simp [prt, h]
theorem prt_0 (l : List Int) (m : Nat) : prt l m 0 = List.replicate m 0 := by
  apply List.ext_getElem
  · simp [prt]
  · intro i h1 h2; simp [prt]
theorem prt_full (l : List Int) (m : Nat) (h : l.length = m) : prt l m m = l := by
  apply List.ext_getElem?
  intro j
  by_cases hj : j < m
  · rw [prt_get l m m j hj, if_pos hj, List.getElem?_eq_getElem (by omega), gx_of l j (by omega)]
  · rw [List.getElem?_eq_none (by rw [prt_len]; omega), List.getElem?_eq_none (by omega)]
theorem prt_set3 (l : List Int) (n k : Nat) (hk : k < n) : (((prt l (n * 3) (k * 3)).set (k * 3) (ikb l k)).set (k * 3 + 1) (ikc l k)).set (k * 3 + 2) (ikv l k) = prt l (n * 3) ((k + 1) * 3) := by
  unfold ikb ikc ikv
  apply List.ext_getElem?
  intro j
  by_cases h : j < n * 3
  · rw [List.getElem?_set, List.getElem?_set, List.getElem?_set]
    simp only [List.length_set, prt_len]
    rw [prt_get l _ _ j h, prt_get l _ _ j h]
    by_cases e2 : k * 3 + 2 = j
    · subst e2; rw [if_pos rfl, if_pos h, if_pos (by omega)]
    · rw [if_neg e2]
      by_cases e1 : k * 3 + 1 = j
      · subst e1; rw [if_pos rfl, if_pos h, if_pos (by omega)]
      · rw [if_neg e1]
        by_cases e0 : k * 3 = j
        · subst e0; rw [if_pos rfl, if_pos h, if_pos (by omega)]
        · rw [if_neg e0]
          by_cases c : j < k * 3
          · rw [if_pos c, if_pos (by omega)]
          · rw [if_neg c, if_neg (by omega)]
  · rw [List.getElem?_eq_none (by simp [prt_len]; omega), List.getElem?_eq_none (by rw [prt_len]; omega)]
theorem made3 (n : Nat) : ((madeCells (Value.cells (.agg #[.int .i64 0, .int .i64 0, .int .i64 0])) (n * 3)).toList) = (List.replicate (n * 3) (0 : Int)).map (Value.int .i64) := by
  apply List.ext_getElem?
  intro j
  by_cases h : j < n * 3
  · have e : j % 3 = 0 ∨ j % 3 = 1 ∨ j % 3 = 2 := by omega
    rcases e with e | e | e <;> simp [madeCells, Value.cells, h, e]
  · rw [List.getElem?_eq_none (by simp [madeCells]; omega), List.getElem?_eq_none (by simp; omega)]
/-- a copy of a list of faults -/
def CopiedF (w : World) (n : Nat) (l : List Int) (e : Ending) (w' : World) : Prop :=
  ∃ g, e = .returned (.slice (some ⟨g, 0, none⟩) n n) ∧ w.heap.size ≤ g ∧ g < w'.heap.size ∧ OwnF w' w.heap.size (.slice (some ⟨g, 0, none⟩) n n) n l ∧ Later w w'
theorem l_toSensorFaultS (a : Option Addr) (n cap : Nat) (l : List Int) (w : World) (hs : Wd w a n 3 l) (hn : n ≤ 1048576) :
    Calls Try.prog 78 #[.slice a n cap] w (CopiedF w n l) := by
  have HS := Lib.hid hs
  have HL := Lib.hid hs.1
  have HI2 := Lib.hid hs.2.2.2
  clear hs
  obtain ⟨i0, hi, hz0, hz1, hz2⟩ := info_parts info_flt
  have HI := Lib.hid hi; clear hi
  have HZ0 := Lib.hid hz0; clear hz0
  have HZ1 := Lib.hid hz1; clear hz1
  have HZ2 := Lib.hid hz2; clear hz2
  go_enter Try.func78, Try.ntmps78
  go_wp2_with (refine wpList_make_full _ rfl _ _ _ rfl w.heap.size 55 i0 (.agg #[.int .i64 0, .int .i64 0, .int .i64 0]) 3 Try.underlying44 HI.out HZ0.out HZ1.out _ _ _ _ n rfl rfl rfl rfl (by rw [HZ2.out]; omega) (by unfold maxLen; omega) (Nat.le_refl _) ?_; intro w1 hown hgrow)
  have HO : Hid (w1.ownsRow w.heap.size 55 3 (.slice (some ⟨w.heap.size, 0, none⟩) n n) n ((prt l (n * 3) (0 * 3)).map (Value.int .i64))) := Lib.hid (by rw [prt_0, ← made3]; exact hown)
  have HB : Hid (Later w w1) := Lib.hid ((Below.refl _ _).grown hgrow (Nat.le_refl _) (by simp))
  clear hown hgrow
  go_loopw [4] (fun i wr => ∃ k : Nat, k ≤ n ∧ i = .int .i64 k ∧ wr.ownsRow w.heap.size 55 3 (.slice (some ⟨w.heap.size, 0, none⟩) n n) n ((prt l (n * 3) (k * 3)).map (Value.int .i64)) ∧ Later w wr) (fun i _ => n - (intOf i).toNat)
  case atStart => exact ⟨0, by omega, rfl, HO.out, HB.out⟩
  case round =>
    clear HO HB
    obtain ⟨k, hk, rfl, ho, hb⟩ := hrel
    have HR := Lib.hid ho
    have HW := Lib.hid hb
    have hsz := (ho.lt w.heap.size rfl).2
    clear ho hb
    by_cases hlt : k < n
    · obtain ⟨b', off', rfl, c0, c1, c2⟩ := (HS.out.later HW.out).three k hlt
      go_wp2_with fail
      refine (l_toSensorFault (ikb l k) (ikc l k) (ikv l k) _).mono ?_
      rintro e w2 ⟨rfl, hb2⟩
      have H2 := Lib.hid hb2
      have R2 : Hid (w2.ownsRow w.heap.size 55 3 (.slice (some ⟨w.heap.size, 0, none⟩) n n) n ((prt l (n * 3) (k * 3)).map (Value.int .i64))) := Lib.hid (HR.out.kept (row := none) ⟨(show Later wr w2 from hb2).os, (show Later wr w2 from hb2).tape, (show Later wr w2 from hb2).output, (show Later wr w2 from hb2).size, fun i hi _ => (show Later wr w2 from hb2).block i hi⟩ (.inr (by simp [Value.ownBlock])))
      have hsz2 : w.heap.size < w2.heap.size := (R2.out.lt w.heap.size rfl).2
      have gt : ∀ j, j < n * 3 → ∃ z, w2.cell? ⟨w.heap.size, j, none⟩ = some (.int .i64 z) := fun j hj => ⟨_, by rw [R2.out.cellAt j hj, List.getElem?_map, prt_get l _ _ j hj]; rfl⟩
      obtain ⟨z0, u0⟩ := gt (k * 3) (by omega)
      obtain ⟨z1, u1⟩ := gt (k * 3 + 1) (by omega)
      obtain ⟨z2, u2⟩ := gt (k * 3 + 2) (by omega)
      have g0 : w2.frozen? ⟨w.heap.size, k * 3, none⟩ = false := R2.out.frozenAt _
      have g1 : w2.frozen? ⟨w.heap.size, k * 3 + 1, none⟩ = false := R2.out.frozenAt _
      have g2 : w2.frozen? ⟨w.heap.size, k * 3 + 2, none⟩ = false := R2.out.frozenAt _
      have hset : Hid (((((prt l (n * 3) (k * 3)).map (Value.int .i64)).set (k * 3) (.int .i64 (ikb l k))).set (k * 3 + 1) (.int .i64 (ikc l k))).set (k * 3 + 2) (.int .i64 (ikv l k)) = (prt l (n * 3) ((k + 1) * 3)).map (Value.int .i64)) := Lib.hid (by rw [← prt_set3 l n k hlt, List.map_set, List.map_set, List.map_set])
      clear hb2 c0 c1 c2 HR gt
      go_wp2_with fail
      go_roundw
      case rel =>
        exact ⟨k + 1, by omega, by go_num, by rw [← hset.out]; exact (((R2.out.stored _ _).1.stored _ _).1.stored _ _).1, (by repeat (first | (with_reducible exact Later.refl _) | (with_reducible exact Hid.out (by assumption)) | (with_reducible refine Later.alloc ?_ _) | (with_reducible refine Later.setCell ?_ (Nat.le_refl _) _) | (with_reducible refine Later.drewN ?_ _) | (with_reducible refine Later.drew ?_) | (with_reducible refine Later.trans ?_ (Hid.out (by assumption)))))⟩
      case measure => simp [intOf]; omega
    · obtain rfl : k = n := by omega
      have hlt2 := hsz
      go_wp2
      go_ret
      exact ⟨w.heap.size, rfl, Nat.le_refl _, hlt2, ⟨by have := HR.out; rw [prt_full l (k * 3) HL.out] at this; exact this, HI2.out⟩, HW.out⟩
/-- a copy of a report -/
def CpR (w : World) (n1 : Nat) (l1 : List Int) (n2 : Nat) (l2 : List Int) (e : Ending) (w' : World) : Prop :=
  ∃ g1 g2, e = .returned (.agg #[.slice (some ⟨g1, 0, none⟩) n1 n1, .slice (some ⟨g2, 0, none⟩) n2 n2]) ∧ w.heap.size ≤ g1 ∧ g1 < g2 ∧ g2 < w'.heap.size ∧ Own w' w.heap.size (.slice (some ⟨g1, 0, none⟩) n1 n1) l1 ∧ Own w' w.heap.size (.slice (some ⟨g2, 0, none⟩) n2 n2) l2 ∧ Later w w'
theorem l_toReport (a1 : Option Addr) (n1 c1 : Nat) (l1 : List Int) (a2 : Option Addr) (n2 c2 : Nat) (l2 : List Int) (w : World) (hs1 : Sl w a1 n1 l1) (hn1 : n1 ≤ 1048576) (hs2 : Sl w a2 n2 l2) (hn2 : n2 ≤ 1048576) :
    Calls Try.prog 85 #[.agg #[.slice a1 n1 c1, .slice a2 n2 c2]] w (CpR w n1 l1 n2 l2) := by
  have HS := Lib.hid hs1
  have HT := Lib.hid hs2
  clear hs1 hs2
  go_enter Try.func85, Try.ntmps85
  go_wp2_with fail
  refine (l_toInt64O _ _ _ _ _ (sl_later HS.out (show Later w _ from (by repeat (first | (with_reducible exact Later.refl _) | (with_reducible exact Hid.out (by assumption)) | (with_reducible refine Later.alloc ?_ _) | (with_reducible refine Later.setCell ?_ (by simp; omega) _) | (with_reducible refine Later.setCell ?_ (by simp) _) | (with_reducible refine Later.drewN ?_ _) | (with_reducible refine Later.drew ?_) | (with_reducible refine Later.trans ?_ (Hid.out (by assumption))))))) hn1).mono ?_
  rintro e w1 ⟨g, rfl, hg, hgl, ho, hb⟩
  obtain ⟨H1, hcc, hff, hzz⟩ := later_facts (show Later _ w1 from hb); clear hb
  simp only [World.size_alloc] at hzz hcc hff hg ho
  have p0 : w1.cell? ⟨w.heap.size, 0, none⟩ = some (.slice a1 n1 c1) := by rw [hcc _ _ (by omega), cl_lt _ _ _ _ (by simp only [World.size_alloc]; omega), cl_lt _ _ _ _ (by simp)]; exact cl_new _ _ _ _ _ _ (by simp) rfl
  have p1 : w1.cell? ⟨w.heap.size, 1, none⟩ = some (.slice a2 n2 c2) := by rw [hcc _ _ (by omega), cl_lt _ _ _ _ (by simp only [World.size_alloc]; omega), cl_lt _ _ _ _ (by simp)]; exact cl_new _ _ _ _ _ _ (by simp) rfl
  have r0 : w1.cell? ⟨w.heap.size + 1, 0, none⟩ = some (.slice none 0 0) := by rw [hcc _ _ (by omega), cl_lt _ _ _ _ (by simp)]; exact cl_new _ _ _ _ _ _ (by simp) rfl
  have r1 : w1.cell? ⟨w.heap.size + 1, 1, none⟩ = some (.slice none 0 0) := by rw [hcc _ _ (by omega), cl_lt _ _ _ _ (by simp)]; exact cl_new _ _ _ _ _ _ (by simp) rfl
  have r2 : w1.frozen? ⟨w.heap.size + 1, 0, none⟩ = false := by rw [hff _ _ (by omega), fz_lt _ _ _ _ (by simp), fz_new _ _ _ _ _ (by simp)]
  have r3 : w1.frozen? ⟨w.heap.size + 1, 1, none⟩ = false := by rw [hff _ _ (by omega), fz_lt _ _ _ _ (by simp), fz_new _ _ _ _ _ (by simp)]
  have o0 : w1.cell? ⟨w.heap.size + 1 + 1, 0, none⟩ = some (.slice none 0 0) := by rw [hcc _ _ (by omega)]; exact cl_new _ _ _ _ _ _ (by simp) rfl
  have o1 : w1.cell? ⟨w.heap.size + 1 + 1, 1, none⟩ = some (.slice none 0 0) := by rw [hcc _ _ (by omega)]; exact cl_new _ _ _ _ _ _ (by simp) rfl
  have o2 : w1.frozen? ⟨w.heap.size + 1 + 1, 0, none⟩ = false := by rw [hff _ _ (by omega), fz_new _ _ _ _ _ (by simp)]
  have o3 : w1.frozen? ⟨w.heap.size + 1 + 1, 1, none⟩ = false := by rw [hff _ _ (by omega), fz_new _ _ _ _ _ (by simp)]
  have HG : Hid (Later w w1) := Lib.hid (by repeat (first | (with_reducible exact Later.refl _) | (with_reducible exact Hid.out (by assumption)) | (with_reducible refine Later.alloc ?_ _) | (with_reducible refine Later.setCell ?_ (by simp; omega) _) | (with_reducible refine Later.setCell ?_ (by simp) _) | (with_reducible refine Later.drewN ?_ _) | (with_reducible refine Later.drew ?_) | (with_reducible refine Later.trans ?_ (Hid.out (by assumption)))))
  have HO := Lib.hid ho
  clear hcc hff ho H1
  go_wp2_with fail
  refine (l_toInt64O _ _ _ _ _ (sl_later HT.out (show Later w _ from HG.out.setCell (p := ⟨w.heap.size + 1 + 1, 0, none⟩) (by show w.heap.size ≤ w.heap.size + 1 + 1; omega) _)) hn2).mono ?_
  rintro e w2 ⟨g2, rfl, hg2, hgl2, ho2, hb2⟩
  simp only [World.size_setCell] at hg2 ho2
  have HB2 := Lib.hid (show Later (w1.setCell _ _) w2 from hb2)
  have HG2 : Hid (Later w w2) := Lib.hid ((HG.out.setCell (p := ⟨w.heap.size + 1 + 1, 0, none⟩) (by show w.heap.size ≤ w.heap.size + 1 + 1; omega) _).trans HB2.out)
  have HO1 := Lib.hid (tf_lat (HO.out.kept (grown_set _ (w.heap.size + 1 + 1) 0 (.slice (some ⟨g, 0, none⟩) n1 n1)) (fun k e => by cases e; omega)) HB2.out)
  have HO2 := Lib.hid ho2
  obtain ⟨_, hcc, hff, hzz2⟩ := later_facts HB2.out
  simp only [World.size_setCell] at hcc hff hzz2
  have s0 : w2.cell? ⟨w.heap.size + 1, 0, none⟩ = some (.slice none 0 0) := by rw [hcc _ _ (by omega), World.cell?_setCell_other _ _ _ _ (by simp)]; exact r0
  have s1 : w2.cell? ⟨w.heap.size + 1, 1, none⟩ = some (.slice none 0 0) := by rw [hcc _ _ (by omega), World.cell?_setCell_other _ _ _ _ (by simp)]; exact r1
  have s2 : w2.frozen? ⟨w.heap.size + 1, 0, none⟩ = false := by rw [hff _ _ (by omega), World.frozen?_setCell]; exact r2
  have s3 : w2.frozen? ⟨w.heap.size + 1, 1, none⟩ = false := by rw [hff _ _ (by omega), World.frozen?_setCell]; exact r3
  have t0 : w2.cell? ⟨w.heap.size + 1 + 1, 0, none⟩ = some (.slice (some ⟨g, 0, none⟩) n1 n1) := by rw [hcc _ _ (by omega)]; exact World.cell?_setCell_same _ _ _ o0
  have t1 : w2.cell? ⟨w.heap.size + 1 + 1, 1, none⟩ = some (.slice none 0 0) := by rw [hcc _ _ (by omega), World.cell?_setCell_other _ _ _ _ (by simp)]; exact o1
  have t2 : w2.frozen? ⟨w.heap.size + 1 + 1, 0, none⟩ = false := by rw [hff _ _ (by omega), World.frozen?_setCell]; exact o2
  have t3 : w2.frozen? ⟨w.heap.size + 1 + 1, 1, none⟩ = false := by rw [hff _ _ (by omega), World.frozen?_setCell]; exact o3
  clear hcc hff r0 r1 r2 r3 o0 o1 o2 o3 p0 p1 HB2 HO hb2 ho2
  go_wp2_with fail
  refine bodyPost_ret (v := .agg #[.slice (some ⟨g, 0, none⟩) n1 n1, .slice (some ⟨g2, 0, none⟩) n2 n2]) (by simp [results, Try.results85, go_sem, *]) rfl ⟨g, g2, rfl, by omega, by omega, by simpa using hgl2, ?_, ?_, ?_⟩
  · exact tf_mono (own_res (HO1.out.kept (grown_set _ _ _ _) (fun k e => by cases e; omega)) (by omega)) (by omega)
  · exact tf_mono (own_res (HO2.out.kept (grown_set _ _ _ _) (fun k e => by cases e; omega)) (by omega)) (by omega)
  · exact put_res (by omega) (HG2.out.setCell (p := ⟨w.heap.size + 1 + 1, 1, none⟩) (by show w.heap.size ≤ w.heap.size + 1 + 1; omega) _)
end Go.Proofs.Ytdaihpkjnigjgaa
