/- The laws' helpers on programs: copies. -/
import Derived.Test.YtokipobjpinhmaaDoorPsx
import Derived.Test.YtokipobjpinhmaaDoorHeld
namespace Go.Proofs.YtokipobjpinhmaaDoor
open Go.RowKit Go.Shelf
set_option maxHeartbeats 8000000
set_option maxRecDepth 100000
set_option linter.unusedVariables false
set_option linter.unusedSimpArgs false
/-- what lies in blocks from base on stays -/
def KA (base : Nat) (w w' : World) : Prop := w.heap.size ≤ w'.heap.size ∧ ∀ i : Nat, base ≤ i → i < w.heap.size → w'.heap[i]? = w.heap[i]?
theorem KA.refl (base : Nat) (w : World) : KA base w w := ⟨Nat.le_refl _, fun _ _ _ => rfl⟩
theorem KA.trans {base : Nat} {a b c : World} (h : KA base a b) (k : KA base b c) : KA base a c :=
  ⟨Nat.le_trans h.1 k.1, fun i h1 h2 => (k.2 i h1 (Nat.lt_of_lt_of_le h2 h.1)).trans (h.2 i h1 h2)⟩
theorem KA.later {base : Nat} {a b c : World} (h : KA base a b) (k : Later b c) : KA base a c :=
  h.trans ⟨k.size, fun i _ h2 => k.block i h2⟩
theorem KA.set {base : Nat} {a b : World} (h : KA base a b) {p : Addr} (hp : p.block < base) (u : Value) : KA base a (b.setCell p u) :=
  ⟨by rw [World.size_setCell]; exact h.1, fun i h1 h2 => (Below.heap_setCell b p u i (by omega)).trans (h.2 i h1 h2)⟩
theorem KA.cell {base : Nat} {w w' : World} (h : KA base w w') {b o : Nat} {v : Value} (hb : base ≤ b) (hc : w.cell? ⟨b, o, none⟩ = some v) : w'.cell? ⟨b, o, none⟩ = some v := by
  have := h.2 b hb (cell_lt hc)
  unfold World.cell? at hc ⊢
  simp only [this]; exact hc
theorem Stm.ka {m base : Nat} {w w' : World} {a : Option Addr} {n : Nat} {W : List (List UInt8)} (h : Stm m w a n W) (hk : KA base w w') (ha : ∀ x, a = some x → base ≤ x.block) : Stm m w' a n W := by
  obtain ⟨h1, h2, h3, h4⟩ := h
  refine ⟨h1, h2, fun j hj => ?_, h4⟩
  obtain ⟨b, off, rfl, hc⟩ := h3 j hj
  exact ⟨b, off, rfl, hk.cell (ha _ rfl) hc⟩
theorem Trs.ka {base : Nat} {w w' : World} {a : Option Addr} {n : Nat} {L : List Trm} (h : Trs w a n L) (hk : KA base w w') (ha : ∀ x, a = some x → base ≤ x.block) : Trs w' a n L := by
  obtain ⟨h1, h2, h3, h4⟩ := h
  refine ⟨h1, h2, fun j hj => ?_, h4⟩
  obtain ⟨b, off, rfl, hc, hd, he⟩ := h3 j hj
  exact ⟨b, off, rfl, hk.cell (ha _ rfl) hc, hk.cell (ha _ rfl) hd, hk.cell (ha _ rfl) he⟩
theorem Trs.setO {w : World} {a : Option Addr} {n : Nat} {L : List Trm} (h : Trs w a n L) {g j : Nat} (ha : ∀ x, a = some x → x.block ≠ g) (u : Value) : Trs (w.setCell ⟨g, j, none⟩ u) a n L := by
  obtain ⟨h1, h2, h3, h4⟩ := h
  refine ⟨h1, h2, fun j hj => ?_, h4⟩
  obtain ⟨b, off, rfl, hc, hd, he⟩ := h3 j hj
  have hn : b ≠ g := ha _ rfl
  exact ⟨b, off, rfl, by rw [World.cell?_setCell_far _ _ _ _ hn.symm]; exact hc, by rw [World.cell?_setCell_far _ _ _ _ hn.symm]; exact hd, by rw [World.cell?_setCell_far _ _ _ _ hn.symm]; exact he⟩
theorem Wrt.ka {base : Nat} {w w' : World} {b : Nat} (h : Wrt w b) (hk : KA base w w') (hb : base ≤ b) : Wrt w' b :=
  ⟨Nat.lt_of_lt_of_le h.1 hk.1, fun j => by rw [World.frozen?_of_block (a := ⟨b, j, none⟩) (hk.2 b hb h.1)]; exact h.2 j⟩
/-- lines, all of them in blocks from base on that may be written, terms apart from the lines -/
def Lnb (base : Nat) (w : World) (a : Option Addr) (n : Nat) (M : List Lne) : Prop :=
  M.length = n ∧ n ≤ 9223372036854775807 ∧ (∀ x, a = some x → base ≤ x.block) ∧ (∀ j, j < n → ∃ b off ta tc, a = some ⟨b, off, none⟩ ∧ w.cell? ⟨b, off + j * 2, none⟩ = some (.string (tx (ltx M j))) ∧ w.cell? ⟨b, off + j * 2 + 1, none⟩ = some (.slice ta (lrx M j).length tc) ∧ Trs w ta (lrx M j).length (lrx M j) ∧ ∀ x, ta = some x → base ≤ x.block ∧ Wrt w x.block ∧ x.block ≠ b) ∧ ∀ x ∈ M, x.1.length ≤ 1048576 ∧ x.2.length ≤ 1048576
theorem Lnb.lns {base : Nat} {w : World} {a : Option Addr} {n : Nat} {M : List Lne} (h : Lnb base w a n M) : Lns w a n M := by
  obtain ⟨h1, h2, _, h3, h4⟩ := h
  refine ⟨h1, h2, fun j hj => ?_, h4⟩
  obtain ⟨b, off, ta, tc, e, hc, hd, he, _⟩ := h3 j hj
  exact ⟨b, off, ta, tc, e, hc, hd, he⟩
theorem Lnb.ka {base : Nat} {w w' : World} {a : Option Addr} {n : Nat} {M : List Lne} (h : Lnb base w a n M) (hk : KA base w w') : Lnb base w' a n M := by
  obtain ⟨h1, h2, h5, h3, h4⟩ := h
  refine ⟨h1, h2, h5, fun j hj => ?_, h4⟩
  obtain ⟨b, off, ta, tc, rfl, hc, hd, he, hf⟩ := h3 j hj
  exact ⟨b, off, ta, tc, rfl, hk.cell (h5 _ rfl) hc, hk.cell (h5 _ rfl) hd, he.ka hk (fun x e => (hf x e).1), fun x e => ⟨(hf x e).1, (hf x e).2.1.ka hk (hf x e).1, (hf x e).2.2⟩⟩
theorem Lnb.mono {b1 b2 : Nat} {w : World} {a : Option Addr} {n : Nat} {M : List Lne} (h : Lnb b1 w a n M) (hb : b2 ≤ b1) : Lnb b2 w a n M := by
  obtain ⟨h1, h2, h5, h3, h4⟩ := h
  refine ⟨h1, h2, fun x e => Nat.le_trans hb (h5 x e), fun j hj => ?_, h4⟩
  obtain ⟨b, off, ta, tc, e, hc, hd, he, hf⟩ := h3 j hj
  exact ⟨b, off, ta, tc, e, hc, hd, he, fun x e => ⟨Nat.le_trans hb (hf x e).1, (hf x e).2⟩⟩
theorem Lnb.later {base : Nat} {w w' : World} {a : Option Addr} {n : Nat} {M : List Lne} (h : Lnb base w a n M) (hb : Later w w') : Lnb base w' a n M :=
  h.ka ((KA.refl _ _).later hb)
/-- texts in a row of their own that may be written -/
def Stw (w : World) (g n : Nat) (W : List (List UInt8)) : Prop := Sts w (some ⟨g, 0, none⟩) n W ∧ Wrt w g
theorem Stw.later {w w' : World} {g n : Nat} {W : List (List UInt8)} (h : Stw w g n W) (hb : Later w w') : Stw w' g n W := ⟨h.1.later hb, h.2.later hb⟩
theorem Stw.ka {base : Nat} {w w' : World} {g n : Nat} {W : List (List UInt8)} (h : Stw w g n W) (hk : KA base w w') (hb : base ≤ g) : Stw w' g n W := ⟨h.1.ka hk (fun x e => by cases e; exact hb), h.2.ka hk hb⟩
/-- lines in a row of their own that may be written -/
def Lnw (base : Nat) (w : World) (g n : Nat) (M : List Lne) : Prop := Lnb base w (some ⟨g, 0, none⟩) n M ∧ base ≤ g ∧ Wrt w g
theorem Lnw.later {base : Nat} {w w' : World} {g n : Nat} {M : List Lne} (h : Lnw base w g n M) (hb : Later w w') : Lnw base w' g n M := ⟨h.1.later hb, h.2.1, h.2.2.later hb⟩
theorem Lnw.ka {base : Nat} {w w' : World} {g n : Nat} {M : List Lne} (h : Lnw base w g n M) (hk : KA base w w') : Lnw base w' g n M := ⟨h.1.ka hk, h.2.1, h.2.2.ka hk h.2.1⟩
theorem Lnw.mono {b1 b2 : Nat} {w : World} {g n : Nat} {M : List Lne} (h : Lnw b1 w g n M) (hb : b2 ≤ b1) : Lnw b2 w g n M := ⟨h.1.mono hb, Nat.le_trans hb h.2.1, h.2.2⟩
theorem frP_set {g : Nat} {l : List Value} {w : World} (h : Fr g l w) (j : Nat) (u : Value) (hj : j < l.length) : Fr g (l.set j u) (w.setCell ⟨g, j, none⟩ u) := by
  refine ⟨by rw [World.size_setCell]; exact h.1, fun i v hi => ?_⟩
  rw [List.getElem?_set] at hi
  split at hi
  · rename_i e
    subst e
    first | (rw [if_pos hj] at hi; cases hi) | cases hi
    obtain ⟨hc, hf⟩ := h.2 j _ (List.getElem?_eq_getElem hj)
    exact ⟨World.cell?_setCell_same _ _ _ (by first | exact hc | (rw [hc]; rfl) | (simp [hc])), by rw [World.frozen?_setCell]; exact hf⟩
  · rename_i e
    obtain ⟨hc, hf⟩ := h.2 i v hi
    exact ⟨by rw [World.cell?_setCell_other _ _ _ _ (fun e2 => e (by cases e2; rfl))]; exact hc, by rw [World.frozen?_setCell]; exact hf⟩
theorem frP_far {g : Nat} {l : List Value} {w : World} (h : Fr g l w) (b j : Nat) (u : Value) (hn : g ≠ b) : Fr g l (w.setCell ⟨b, j, none⟩ u) :=
  ⟨by rw [World.size_setCell]; exact h.1, fun i v hi => ⟨by rw [World.cell?_setCell_far _ _ _ _ hn.symm]; exact (h.2 i v hi).1, by rw [World.frozen?_setCell]; exact (h.2 i v hi).2⟩⟩
theorem frP_new (X : World) (l : List Value) (T : TypeId) : Fr X.heap.size l (X.alloc (.cells l.toArray T)) := fr_alloc (Later.refl _)
/-- a copy of texts of which the first k are there -/
def cpS (W : List (List UInt8)) (m k : Nat) : List (List UInt8) := (List.range m).map fun j => if j < k then wx W j else []
theorem cpS_len (W : List (List UInt8)) (m k : Nat) : (cpS W m k).length = m := by simp [cpS]
theorem cpS_at (W : List (List UInt8)) (m k j : Nat) (h : j < m) : wx (cpS W m k) j = if j < k then wx W j else [] := by
  unfold wx; rw [List.getD_eq_getElem?_getD]; simp [cpS, h, wx]
def scl (W : List (List UInt8)) : List Value := W.map fun x => Value.string (tx x)
theorem scl_get (W : List (List UInt8)) (j : Nat) (h : j < W.length) : (scl W)[j]? = some (.string (tx (wx W j))) := by
  unfold scl; rw [List.getElem?_map, List.getElem?_eq_getElem h, wx_at W j h]; rfl
theorem scl_len (W : List (List UInt8)) : (scl W).length = W.length := by simp [scl]
theorem cpS_full (W : List (List UInt8)) (m : Nat) (h : W.length = m) : cpS W m m = W := by
  apply List.ext_getElem
  · rw [cpS_len, h]
  · intro j h1 h2
    rw [wx_at _ j h1, wx_at _ j h2, cpS_at W m m j (by omega), if_pos (by omega)]
theorem cpS_set (W : List (List UInt8)) (m k : Nat) (hk : k < m) : (scl (cpS W m k)).set k (.string (tx (wx W k))) = scl (cpS W m (k + 1)) := by
  apply List.ext_getElem?
  intro i
  by_cases hi : i < m
  · rw [List.getElem?_set, scl_len, cpS_len, scl_get _ i (by rw [cpS_len]; exact hi), scl_get _ i (by rw [cpS_len]; exact hi), cpS_at W m k i hi, cpS_at W m (k + 1) i hi]
    by_cases e : k = i
    · subst e
      rw [if_pos rfl, if_pos hi, if_pos (by omega)]
    · rw [if_neg e]
      by_cases c : i < k
      · rw [if_pos c, if_pos (by omega)]
      · rw [if_neg c, if_neg (by omega)]
  · rw [List.getElem?_eq_none (by simp [scl_len, cpS_len]; omega), List.getElem?_eq_none (by simp [scl_len, cpS_len]; omega)]
theorem madeS (W : List (List UInt8)) (n : Nat) : (madeCells (Value.cells (.string ⟨#[]⟩)) (n * 1)).toList = scl (cpS W n 0) := by
  apply List.ext_getElem?
  intro j
  by_cases h : j < n
  · rw [scl_get _ j (by rw [cpS_len]; exact h), cpS_at W n 0 j h, if_neg (by omega)]
    simp [madeCells, Value.cells, h, tx]
    rw [Nat.mod_one]; rfl
  · rw [List.getElem?_eq_none (by simp [madeCells]; omega), List.getElem?_eq_none (by rw [scl_len, cpS_len]; omega)]
theorem info_strQ : (Tryd.prog.info? 9).map (fun i => (i.zero, i.size, i.bytes)) = some (some (.string ⟨#[]⟩), 1, 16) := by kernel_rfl
/-- a copy of a list of texts -/
def CopiedS (w : World) (n : Nat) (W : List (List UInt8)) (e : Ending) (w' : World) : Prop :=
  ∃ g, e = .returned (.slice (some ⟨g, 0, none⟩) n n) ∧ w.heap.size ≤ g ∧ Wrt w' g ∧ Sts w' (some ⟨g, 0, none⟩) n W ∧ Later w w'
theorem l_toStringS (a : Option Addr) (n cap : Nat) (W : List (List UInt8)) (w : World) (hs : Sts w a n W) (hn : n ≤ 1048576) :
    Calls Tryd.prog 63 #[.slice a n cap] w (CopiedS w n W) := by
  have HS := Lib.hid hs
  have HL := Lib.hid hs.1
  have HI2 := Lib.hid hs.2.2.2
  clear hs
  obtain ⟨i0, hi, hz0, hz1, hz2⟩ := info_parts info_strQ
  have HI := Lib.hid hi; clear hi
  have HZ0 := Lib.hid hz0; clear hz0
  have HZ1 := Lib.hid hz1; clear hz1
  have HZ2 := Lib.hid hz2; clear hz2
  go_enter Tryd.func63, Tryd.ntmps63
  go_wp2_with (refine wpList_make_full _ rfl _ _ _ rfl w.heap.size 9 i0 (.string ⟨#[]⟩) 1 Tryd.underlying24 HI.out HZ0.out HZ1.out _ _ _ _ n rfl rfl rfl rfl (by rw [HZ2.out]; omega) (by unfold maxLen; omega) (Nat.le_refl _) ?_; intro w1 hown hgrow)
  have HO : Hid (w1.ownsRow w.heap.size 9 1 (.slice (some ⟨w.heap.size, 0, none⟩) n n) n (scl (cpS W n 0))) := Lib.hid (by rw [← madeS]; exact hown)
  have HB : Hid (Later w w1) := Lib.hid ((Below.refl _ _).grown hgrow (Nat.le_refl _) (by simp))
  clear hown hgrow
  go_loopw [4] (fun i wr => ∃ k : Nat, k ≤ n ∧ i = .int .i64 k ∧ wr.ownsRow w.heap.size 9 1 (.slice (some ⟨w.heap.size, 0, none⟩) n n) n (scl (cpS W n k)) ∧ Later w wr) (fun i _ => n - (intOf i).toNat)
  case atStart => exact ⟨0, by omega, rfl, HO.out, HB.out⟩
  case round =>
    clear HO HB
    obtain ⟨k, hk, rfl, ho, hb⟩ := hrel
    have HR := Lib.hid ho
    have HW := Lib.hid hb
    have hsz := (ho.lt w.heap.size rfl).2
    clear ho hb
    by_cases hlt : k < n
    · obtain ⟨b', off', rfl, c0⟩ := (HS.out.later HW.out).at k hlt
      have HSET := Lib.hid (cpS_set W n k hlt)
      obtain ⟨y, hy⟩ : ∃ y, y = tx (wx W k) := ⟨_, rfl⟩
      rw [← hy] at c0 HSET
      clear hy
      have u0 : wr.cell? ⟨w.heap.size, k, none⟩ = some (.string (tx (wx (cpS W n k) k))) := by rw [HR.out.cellAt k (by omega), scl_get _ k (by rw [cpS_len]; exact hlt)]
      have g0 : wr.frozen? ⟨w.heap.size, k, none⟩ = false := HR.out.frozenAt _
      generalize tx (wx (cpS W n k) k) = z0 at u0
      go_wp2_with fail
      go_roundw
      case rel =>
        exact ⟨k + 1, by omega, by go_num, by rw [← HSET.out]; exact (HR.out.stored _ _).1, (by repeat (first | (with_reducible exact Hid.out (by assumption)) | (with_reducible refine Later.setCell ?_ (Nat.le_refl _) _) | (with_reducible refine Later.drewN ?_ _) | (with_reducible refine Later.drew ?_)))⟩
      case measure => simp [intOf]; omega
    · obtain rfl : k = n := by omega
      have hlt2 := hsz
      have HWT : Hid (Wrt wr w.heap.size) := Lib.hid ⟨hsz, fun j => HR.out.frozenAt _⟩
      have HF := Lib.hid (cpS_full W k HL.out)
      go_wp2
      go_ret
      refine ⟨w.heap.size, rfl, Nat.le_refl _, HWT.out, ?_, HW.out⟩
      have ho : OwnT wr w.heap.size (.slice (some ⟨w.heap.size, 0, none⟩) k k) W := by have h1 := HR.out; rw [HF.out] at h1; unfold OwnT; rw [HL.out]; exact h1
      obtain ⟨a2, c2, e, _, ht, _⟩ := ho.sts HI2.out
      rw [HL.out] at ht
      cases e
      exact ht
/-- a copy of a line -/
def CopiedL (w : World) (t : List UInt8) (n : Nat) (L : List Trm) (e : Ending) (w' : World) : Prop :=
  ∃ g, e = .returned (.agg #[.string (tx t), .slice (some ⟨g, 0, none⟩) n n]) ∧ w.heap.size ≤ g ∧ Wrt w' g ∧ Trs w' (some ⟨g, 0, none⟩) n L ∧ Later w w'
theorem l_toLine (t : List UInt8) (a : Option Addr) (n cap : Nat) (L : List Trm) (w : World) (hs : Trs w a n L) (hn : n ≤ 1048576) :
    Calls Tryd.prog 104 #[.agg #[.string (tx t), .slice a n cap]] w (CopiedL w t n L) := by
  have HS := Lib.hid hs
  clear hs
  have HC : Hid (∀ s, s = tx t → ∀ e w', (∃ g, e = .returned (.agg #[.string s, .slice (some ⟨g, 0, none⟩) n n]) ∧ w.heap.size ≤ g ∧ Wrt w' g ∧ Trs w' (some ⟨g, 0, none⟩) n L ∧ Later w w') → CopiedL w t n L e w') := Lib.hid (by rintro s rfl e w' h; exact h)
  obtain ⟨s, hs⟩ : ∃ s, s = tx t := ⟨_, rfl⟩
  have HC := Lib.hid (HC.out s hs)
  rw [← hs]
  clear hs
  go_enter Tryd.func104, Tryd.ntmps104
  go_wp2_with fail
  refine (l_toTermS a n cap L _ (HS.out.later (by repeat (first | (with_reducible exact Later.refl _) | (with_reducible exact Hid.out (by assumption)) | (with_reducible refine Later.alloc ?_ _) | (with_reducible refine Later.setCell ?_ (by simp; omega) _) | (with_reducible refine Later.setCell ?_ (by simp) _) | (with_reducible refine Later.drewN ?_ _) | (with_reducible refine Later.drew ?_) | (with_reducible refine Later.trans ?_ (Hid.out (by assumption)))))) hn).mono ?_
  rintro e w1 ⟨g, rfl, hg1, hg3, ht, hb⟩
  have HG3 := Lib.hid hg3
  have hg2 := hg3.1
  clear hg3
  have HT := Lib.hid ht
  have HLT : Hid (Later w w1) := Lib.hid (Later.trans (by repeat (first | (with_reducible exact Later.refl _) | (with_reducible exact Hid.out (by assumption)) | (with_reducible refine Later.alloc ?_ _) | (with_reducible refine Later.setCell ?_ (by simp; omega) _) | (with_reducible refine Later.setCell ?_ (by simp) _) | (with_reducible refine Later.drewN ?_ _) | (with_reducible refine Later.drew ?_) | (with_reducible refine Later.trans ?_ (Hid.out (by assumption))))) hb)
  obtain ⟨H, hcc, hff, hzz⟩ := later_facts hb
  clear hb ht
  simp at hzz hg1
  have hz0 : w.heap.size < w1.heap.size := by omega
  have hz1 : w.heap.size + 1 < w1.heap.size := by omega
  have hz2 : w.heap.size + 1 + 1 < w1.heap.size := by omega
  go_wp2_with fail
  refine bodyPost_ret (v := .agg #[.string s, .slice (some ⟨g, 0, none⟩) n n]) (by simp [results, Tryd.results104, go_sem, *]) rfl (HC.out _ _ ⟨g, rfl, by omega, by repeat (first | (with_reducible exact HG3.out) | (refine Wrt.set ?_ _ _)), ?_, ?_⟩)
  · exact (by repeat (first | (with_reducible exact HT.out) | (refine Trs.setO ?_ (fun x e => by cases e; simp; omega) _)))
  · exact (by repeat (first | (with_reducible exact HLT.out) | (with_reducible refine Later.setCell ?_ (by simp; omega) _) | (with_reducible refine Later.setCell ?_ (by simp) _)))
end Go.Proofs.YtokipobjpinhmaaDoor
