/- The walk of FnExactTrafficText. | What the row's condition on the listed variables gives the walk: the table that strconv reads. | Traffic that came in, opened to cells. -/
import Derived.Test.YtdaihpkjnigjgaaDoorTfE
import Derived.Test.YtdaihpkjnigjgaaDoorTfb
import Derived.Test.YtdaihpkjnigjgaaDoorRows
import Derived.Test.YtdaihpkjnigjgaaDoorTx0
import Derived.LaidMore
import Derived.Stop.Joined
import Derived.ProofKit
import Derived.OpenShut
import Derived.LaidLaws
import Derived.Test.YtdaihpkjnigjgaaDoorSl
import Derived.Deep.Slices
import Derived.ChangeSame
namespace Go.Proofs.YtdaihpkjnigjgaaDoor
open Go.RowKit Go.Shelf
set_option maxHeartbeats 4000000
set_option linter.unusedVariables false
set_option linter.unusedSimpArgs false
set_option maxRecDepth 100000 in
theorem walk_FnExactTrafficText (B : Int) (a : Option Addr) (n cap : Nat) (l : List Int) (w : World) (hB : InR B) (hcap : n ≤ cap) (hs : Sl w a n l) (ht : Tab w) :
    Calls Tryd.prog 4 #[.agg #[.int .i64 B, .slice a n cap]] w fun e w' => e = .returned (.bool true) ∧ Later w w' := by
  have HS := Lib.hid hs
  have hn := hs.2.1
  have HL := Lib.hid hs.1
  clear hs
  have HTab := Lib.hid ht
  clear ht
  by_cases hbig : 1048576 < n
  · have hz := Lib.hid (szT_big hbig)
    go_enter Tryd.func4, Tryd.ntmps4
    go_wp2_with (go_at_call 14; refine (l_szTraffic _ _ _ _ _ hn).mono ?_; rw [hz.out]; rintro e w1 ⟨rfl, hb⟩; have H := Lib.hid hb; clear hb)
    go_ret
    exact ⟨rfl, (by repeat (first | (with_reducible exact Later.refl _) | (with_reducible exact Hid.out (by assumption)) | (with_reducible refine Later.alloc ?_ _) | (with_reducible refine Later.setCell ?_ (by simp; omega) _) | (with_reducible refine Later.setCell ?_ (by simp) _) | (with_reducible refine Later.drewN ?_ _) | (with_reducible refine Later.drew ?_) | (with_reducible refine Later.trans ?_ (Hid.out (by assumption)))))⟩
  have hle : n ≤ 1048576 := by omega
  have hz := Lib.hid (szT_ok hle)
  clear hbig
  obtain ⟨V, SC, IC⟩ : ∃ V : ByteArray, Hid (∀ (a' : Option Addr) (m c : Nat) (W : World), Sl W a' m l → Calls Tryd.prog 12 #[.agg #[.int .i64 B, .slice a' m c]] W fun e w' => e = .returned (.string V) ∧ Later W w') ∧ Hid (∀ (a' : Option Addr) (m c : Nat) (W : World), Sl W a' m l → Tab W → Calls Tryd.prog 8 #[.agg #[.int .i64 B, .slice a' m c]] W fun e w' => e = .returned (.string V) ∧ Later W w') := ⟨tx (tfTx B l), Lib.hid (fun a' m c W h => s_TrafficText B a' m c l W h), Lib.hid (fun a' m c W h h2 => i_TrafficText B a' m c l W h h2)⟩
  go_enter Tryd.func4, Tryd.ntmps4
  go_wp2_with fail
  have K0 : Hid (Held [(w.heap.size, 0, .int .i64 B), (w.heap.size, 1, .slice a n cap)] w (w.alloc (.cells #[.int .i64 B, .slice a n cap] 33))) := Lib.hid (ht_box2 (held_none w) _ _ _)
  refine (l_szTraffic B a n cap _ hn).mono ?_
  rw [hz.out]
  rintro e w1 ⟨rfl, hb⟩
  have K1 := Lib.hid (Held.later K0.out (show Later _ w1 from hb))
  have z1 := Later.size (show Later _ w1 from hb)
  try simp only [World.size_alloc] at z1
  clear hb
  clear K0
  obtain ⟨c0, c1, _⟩ := Held.s2 K1.out
  go_wp2_with fail
  clear c0 c1
  refine (l_toTraffic B a n cap l _ (sl_later HS.out (show Later w _ from K1.out.2)) hle).mono ?_
  rintro e w2 ⟨gW, rfl, _, _, ho, hb⟩
  have HX0 := Lib.hid (own_slT ho)
  clear ho
  have K2 := Lib.hid (Held.later K1.out (show Later _ w2 from hb))
  have z2 := Later.size (show Later _ w2 from hb)
  try simp only [World.size_alloc] at z2
  clear hb
  clear K1
  obtain ⟨c0, c1, _⟩ := Held.s2 K2.out
  go_wp2_with fail
  clear c0 c1
  refine (SC.out _ _ _ _ HX0.out).mono ?_
  rintro e w3 ⟨rfl, hb⟩
  have K3 := Lib.hid (Held.later K2.out (show Later _ w3 from hb))
  have z3 := Later.size (show Later _ w3 from hb)
  try simp only [World.size_alloc] at z3
  clear hb
  clear K2
  obtain ⟨c0, c1, _⟩ := Held.s2 K3.out
  go_wp2_with fail
  clear c0 c1
  refine (l_toTraffic B a n cap l _ (sl_later HS.out (show Later w _ from K3.out.2)) hle).mono ?_
  rintro e w4 ⟨gX, rfl, hgX, hgX2, ho, hb⟩
  try simp only [World.size_alloc] at hgX
  have OX := Lib.hid ho
  clear ho
  have K4 := Lib.hid (Held.later K3.out (show Later _ w4 from hb))
  have z4 := Later.size (show Later _ w4 from hb)
  try simp only [World.size_alloc] at z4
  clear hb
  clear K3
  have K5 := Lib.hid (ht_box2 K4.out (.int .i64 B) (.slice (some ⟨gX, 0, none⟩) n n) 26)
  clear K4
  have OX' := Lib.hid (OX.out.alloc (.cells #[.int .i64 B, .slice (some ⟨gX, 0, none⟩) n n] 26))
  clear OX
  have OX := OX'
  clear OX'
  obtain ⟨c0, c1, c2, c3, _⟩ := Held.s4 K5.out
  go_wp2_with fail
  clear c0 c1 c2 c3
  refine (IC.out _ _ _ _ (own_slT OX.out) (HTab.out.later (show Later w _ from K5.out.2))).mono ?_
  rintro e w5 ⟨rfl, hb⟩
  have K6 := Lib.hid (Held.later K5.out (show Later _ w5 from hb))
  have z5 := Later.size (show Later _ w5 from hb)
  try simp only [World.size_alloc] at z5
  have OX' := Lib.hid (tf_lat OX.out (show Later _ w5 from hb))
  clear OX
  have OX := OX'
  clear OX'
  clear hb
  clear K5
  obtain ⟨c0, c1, c2, c3, _⟩ := Held.s4 K6.out
  go_wp2_with fail
  clear c0 c1 c2 c3
  obtain ⟨wz, hwz⟩ : ∃ wz, wz = w5 := ⟨_, rfl⟩
  clear hwz wz
  have KQ : Hid (∀ W', Later w5 W' → Held [(w4.heap.size, 0, .int .i64 B), (w4.heap.size, 1, .slice (some ⟨gX, 0, none⟩) n n), (w.heap.size, 0, .int .i64 B), (w.heap.size, 1, .slice a n cap)] w W') := Lib.hid (fun W' h => K6.out.later h)
  have KS : Hid (∀ W', Later w5 W' → W'.cell? ⟨w4.heap.size, 0, none⟩ = some (.int .i64 B) ∧ W'.cell? ⟨w4.heap.size, 1, none⟩ = some (.slice (some ⟨gX, 0, none⟩) n n) ∧ W'.cell? ⟨w.heap.size, 0, none⟩ = some (.int .i64 B) ∧ W'.cell? ⟨w.heap.size, 1, none⟩ = some (.slice a n cap)) := Lib.hid (fun W' h => by obtain ⟨d0, d1, d2, d3, _⟩ := Held.s4 (KQ.out W' h); exact ⟨d0, d1, d2, d3⟩)
  obtain ⟨d0, d1, d2, d3⟩ := KS.out w5 (Later.refl _)
  go_region_held3 (fun w' => w'.cell? ⟨w4.heap.size, 0, none⟩ = some (.int .i64 B) ∧ w'.cell? ⟨w4.heap.size, 1, none⟩ = some (.slice (some ⟨gX, 0, none⟩) n n) ∧ w'.cell? ⟨w.heap.size, 0, none⟩ = some (.int .i64 B) ∧ w'.cell? ⟨w.heap.size, 1, none⟩ = some (.slice a n cap)) (first | (refine KS.out _ ?_; ((repeat (first | (with_reducible exact Later.refl _) | (with_reducible exact Hid.out (by assumption)) | (with_reducible refine Later.alloc ?_ _) | (with_reducible refine Later.setCell ?_ (by simp; omega) _) | (with_reducible refine Later.setCell ?_ (by simp) _) | (with_reducible refine Later.drewN ?_ _) | (with_reducible refine Later.drew ?_) | (with_reducible refine Later.trans ?_ (Hid.out (by assumption))))); done)))
    (first
      | (go_at_call 15; refine (l_toTraffic B a n cap l _ (sl_later HS.out (show Later w _ from (KQ.out _ (show Later w5 _ from (by repeat (first | (with_reducible exact Later.refl _) | (with_reducible exact Hid.out (by assumption)) | (with_reducible refine Later.alloc ?_ _) | (with_reducible refine Later.setCell ?_ (by simp; omega) _) | (with_reducible refine Later.setCell ?_ (by simp) _) | (with_reducible refine Later.drewN ?_ _) | (with_reducible refine Later.drew ?_) | (with_reducible refine Later.trans ?_ (Hid.out (by assumption))))))).2)) hle).mono ?_; rintro e wp ⟨gP, rfl, _, _, hop, hbp⟩; have HP := Lib.hid hbp; have OP := Lib.hid (own_slT hop); clear hbp hop)
      | (go_at_call 16; refine (l_eqTraffic _ _ _ _ _ _ _ l _ (sl_later (own_slT OX.out) (show Later w5 _ from (by repeat (first | (with_reducible exact Later.refl _) | (with_reducible exact Hid.out (by assumption)) | (with_reducible refine Later.alloc ?_ _) | (with_reducible refine Later.setCell ?_ (by simp; omega) _) | (with_reducible refine Later.setCell ?_ (by simp) _) | (with_reducible refine Later.drewN ?_ _) | (with_reducible refine Later.drew ?_) | (with_reducible refine Later.trans ?_ (Hid.out (by assumption))))))) (sl_later OP.out (show Later wp _ from (by repeat (first | (with_reducible exact Later.refl _) | (with_reducible exact Hid.out (by assumption)) | (with_reducible refine Later.alloc ?_ _) | (with_reducible refine Later.setCell ?_ (by simp; omega) _) | (with_reducible refine Later.setCell ?_ (by simp) _) | (with_reducible refine Later.drewN ?_ _) | (with_reducible refine Later.drew ?_) | (with_reducible refine Later.trans ?_ (Hid.out (by assumption)))))))).mono ?_; rintro e wq ⟨rfl, hbq⟩; have HQ := Lib.hid hbq; clear hbq))
  all_goals
    go_wp2_with fail
    go_ret
    exact ⟨rfl, (KQ.out _ (show Later w5 _ from (by repeat (first | (with_reducible exact Later.refl _) | (with_reducible exact Hid.out (by assumption)) | (with_reducible refine Later.alloc ?_ _) | (with_reducible refine Later.setCell ?_ (by simp; omega) _) | (with_reducible refine Later.setCell ?_ (by simp) _) | (with_reducible refine Later.drewN ?_ _) | (with_reducible refine Later.drew ?_) | (with_reducible refine Later.trans ?_ (Hid.out (by assumption))))))).2⟩
end Go.Proofs.YtdaihpkjnigjgaaDoor
namespace Go.Proofs.YtdaihpkjnigjgaaDoor
open Go.RowKit Go.ChangeShapes Go.WideShapes Go.ChangeAt
theorem gTab : Tryd.prog.globalNamed "internal/strconv.uint64pow10" = some 0 := by kernel_rfl
theorem tTab : (Tryd.prog.globals[0]?).map (·.type) = some 90 := by kernel_rfl
theorem tabTraffic {W : World} (h : laidMetH Tryd.prog Rows.fnExactTrafficTextRow.laid W) : Tab W := by
  rw [MakeChecks.laidMetH_plain _ _ _ (by kernel_rfl)] at h
  obtain ⟨ps, ⟨g0, t0, cs0, f0, p0, q0, _, _, _, _, ⟨g1, t1, cs1, f1, p1, q1, _, _, _, _, ⟨g2, t2, cs2, f2, p2, q2, hg2, ht2, hv2, hd2, _⟩, _⟩, _⟩, _, _⟩ := h
  obtain rfl := Option.some.inj (gTab.symm.trans hg2)
  obtain rfl := Option.some.inj (tTab.symm.trans ht2)
  unfold Tab Lib.TabIs
  rw [hv2, ← Lib.cells_of_tab (k := .u64) (zs := Lib.pow10Tab) Tryd.underlying90 Tryd.underlying79 (by kernel_rfl) (by kernel_rfl) hd2]
end Go.Proofs.YtdaihpkjnigjgaaDoor
namespace Go.Proofs.YtdaihpkjnigjgaaDoor
open Go.RowKit Go.ChangeShapes Go.WideShapes Go.Deep
set_option maxHeartbeats 2000000
set_option maxRecDepth 100000
set_option linter.unusedVariables false
set_option linter.unusedSimpArgs false
section
variable {H : Type} {enc : TypeId × Value → H} {w : World} {base : Nat} {spare : Nat → Bool} {held : Bool}
theorem tf_one_at {cs : List Value} {o : Nat} {v : Value} (h : (cs.drop o).take 1 = [v]) : cs[o]? = some v := by
  have := congrArg (fun l => l[0]?) h
  simpa using this
theorem tf_cells : Tryd.prog.cellsOf 2 = 1 := by kernel_rfl
theorem tf_wf {a : Int} (h : (Lit.int .i64 a).wf = true) : InR a := by
  simpa [InR, Lit.wf, IntKind.min, IntKind.max, IntKind.signed, IntKind.bits] using h
theorem tf_int {n : Nat} {cs : List Value} {y : DataW H × List MemPlace} (h : DataW.trod enc Tryd.prog w base spare held n 2 cs = some y) : ∃ a : Int, cs = [.int .i64 a] ∧ InR a := by
  obtain ⟨a, e, _, hw⟩ := DataW.trod_int Tryd.underlying2 h
  exact ⟨a, e, tf_wf hw⟩
/-- a slice of integers that came in -/
theorem tf_ints {fuel : Nat} {cs : List Value} {y : DataW H × List MemPlace} (hsp : ∀ b, spare b = true) (h : DataW.trod enc Tryd.prog w base spare held fuel 24 cs = some y) :
    ∃ (A : Option Addr) (len cap : Nat) (L : List Int), cs = [.slice A len cap] ∧ len ≤ cap ∧ Sl w A len L := by
  rcases open_slice Tryd.underlying24 h with ⟨e, _⟩ | ⟨a, len, cap, m, n, D, Pl, e, hb, hl, hm, hmm, _, hi⟩
  · exact ⟨none, 0, 0, [], e, Nat.le_refl _, rfl, by omega, fun k hk => by omega, fun x hx => by simp at hx⟩
  · rw [hsp, if_pos rfl] at hmm
    have hlm : len ≤ m := by omega
    have key : ∀ i : Nat, ∃ x : Int, i < len → w.cell? (a.add i) = some (.int .i64 x) ∧ InR x := by
      intro i
      by_cases hlt : i < len
      · obtain ⟨cs', hc, ht⟩ := hi i (by omega)
        rw [tf_cells] at hc
        obtain ⟨_, hcl, hat⟩ := World.cells?_some hc
        obtain ⟨x, ex, hx⟩ := tf_int ht
        refine ⟨x, fun _ => ⟨?_, hx⟩⟩
        have h1 := hat 0 (by omega)
        rw [Go.Deep.add_add] at h1
        rw [show i = i * 1 + 0 by omega, h1, ex]; rfl
      · exact ⟨0, fun hh => absurd hh hlt⟩
    obtain ⟨f, hf⟩ := Classical.axiomOfChoice key
    refine ⟨some a, len, cap, (List.range len).map f, e, hl, by simp, by unfold maxLen at hm; omega, fun k hk => ?_, fun x hx => ?_⟩
    · have h0 := (hf 0 (by omega)).1
      obtain ⟨b, off, spot⟩ := a
      have hspot : spot = none := by simpa [Addr.add] using World.cell?_spot h0
      subst hspot
      refine ⟨b, off, rfl, ?_⟩
      have h1 := (hf k hk).1
      rw [Addr.add_lit] at h1
      rw [h1]
      simp [gx, hk]
    · obtain ⟨i, hi', rfl⟩ := List.mem_map.1 hx
      exact (hf i (List.mem_range.1 hi')).2
/-- a traffic that came in -/
theorem open_traffic {r : Reach} {b0 : Nat} {v : Value} {d : DataW H} {p : List MemPlace} (hsp : ∀ b, spare b = true) (hv : Value.okWide Tryd.prog w r b0 33 v) (h : DataW.Trod enc Tryd.prog w base spare held 33 v d p) :
    ∃ (B : Int) (A : Option Addr) (len cap : Nat) (L : List Int), v = .agg #[.int .i64 B, .slice A len cap] ∧ InR B ∧ len ≤ cap ∧ Sl w A len L := by
  obtain ⟨cs, rfl, hsz⟩ := okWide_struct Tryd.underlying33 hv
  obtain ⟨fuel, hf⟩ := h
  obtain ⟨xs, m, _, _, hl, hlen, hff⟩ := DataW.trod_struct Tryd.underlying33 hf
  rw [show Tryd.prog.cellsOf 33 = 2 by kernel_rfl] at hsz
  have h0 := hff 0 _ rfl
  have h1 := hff 1 _ rfl
  rw [List.getElem?_eq_getElem (by rw [hlen]; decide)] at h0 h1
  obtain ⟨B, eB, rB⟩ := tf_int h0
  obtain ⟨A, len, cap, L, e, hc, hs⟩ := tf_ints hsp h1
  refine ⟨B, A, len, cap, L, ?_, rB, hc, hs⟩
  have eB : (cs.toList.drop 0).take (Tryd.prog.cellsOf 2) = [.int .i64 B] := eB
  have e : (cs.toList.drop 1).take (Tryd.prog.cellsOf 24) = [.slice A len cap] := e
  rw [tf_cells] at eB
  rw [show Tryd.prog.cellsOf 24 = 1 by kernel_rfl] at e
  have e0 := tf_one_at eB
  have e1 := tf_one_at e
  obtain ⟨l⟩ := cs
  match l, hsz with
  | [c0, c1], _ =>
    simp at e0 e1
    rw [e0, e1]
end
end Go.Proofs.YtdaihpkjnigjgaaDoor
