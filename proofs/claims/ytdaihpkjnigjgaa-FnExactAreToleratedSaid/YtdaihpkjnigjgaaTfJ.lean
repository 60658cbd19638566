/- Contracts of chapter 10: uses of blocks and safety, of the program. -/
import Derived.Test.YtdaihpkjnigjgaaTfI
import Derived.Test.YtdaihpkjnigjgaaMark
import Derived.Test.YtdaihpkjnigjgaaHeld
namespace Go.Proofs.Ytdaihpkjnigjgaa
open Go.RowKit
set_option maxHeartbeats 4000000
set_option linter.unusedVariables false
set_option linter.unusedSimpArgs false
theorem tf_none (w : World) (base : Nat) : Own w base (.slice none 0 0) [] := ⟨⟨rfl, .inl ⟨rfl, rfl⟩⟩, fun x hx => by simp at hx⟩
theorem tf_lat {w w' : World} {base : Nat} {v : Value} {l : List Int} (h : Own w base v l) (k : Later w w') : Own w' base v l :=
  h.kept (row := none) ⟨k.os, k.tape, k.output, k.size, fun i hi _ => k.block i hi⟩ (fun _ e => by cases e)
theorem tf_mono {w : World} {b1 b2 : Nat} {v : Value} {l : List Int} (h : Own w b1 v l) (hb : b2 ≤ b1) : Own w b2 v l := by
  obtain ⟨⟨h1, h2⟩, h3⟩ := h
  refine ⟨⟨h1, ?_⟩, h3⟩
  rcases h2 with h2 | ⟨g, cap, cur, e, hg, r⟩
  · exact .inl h2
  · exact .inr ⟨g, cap, cur, e, by omega, r⟩
def usE (B : Int) (l : List Int) : Int := if tfB B l = true then 0 else 1
def usV (B : Int) (l : List Int) : List Int := if tfB B l = true then ldL B l else []
/-- a list of the call's own, and a code -/
def LstC (w : World) (l : List Int) (c : Int) (e : Ending) (w' : World) : Prop := ∃ v, e = .returned (.tuple #[v, .int .i64 c]) ∧ Own w' w.heap.size v l ∧ Later w w'
/-- a cell of a list of the call's own -/
theorem own_at {w : World} {base g n cap : Nat} {l : List Int} (h : Own w base (.slice (some ⟨g, 0, none⟩) n cap) l) (hl : l.length = n) (k : Nat) (hk : k < n) :
    w.cell? ⟨g, k, none⟩ = some (.int .i64 (gx l k)) ∧ w.frozen? ⟨g, k, none⟩ = false := by
  subst hl
  have h1 := h.1
  refine ⟨?_, h1.frozenAt k⟩
  rw [h1.cellAt k (by omega), List.getElem?_map, List.getElem?_eq_getElem hk, ← gx_of l k hk]; rfl
/-- a store into it -/
theorem own_put {w : World} {base g n cap : Nat} {l : List Int} (h : Own w base (.slice (some ⟨g, 0, none⟩) n cap) l) (hl : l.length = n) (k : Nat) (y : Int) (hy : InR y) :
    Own (w.setCell ⟨g, k, none⟩ (.int .i64 y)) base (.slice (some ⟨g, 0, none⟩) n cap) (l.set k y) ∧ w.grownBy (w.setCell ⟨g, k, none⟩ (.int .i64 y)) (some g) := by
  subst hl
  obtain ⟨h1, h2⟩ := h
  have hs := h1.stored k (.int .i64 y)
  refine ⟨⟨by rw [List.length_set, List.map_set]; exact hs.1, fun x hx => ?_⟩, hs.2⟩
  rcases List.mem_or_eq_of_mem_set hx with q | q
  · exact h2 x q
  · rw [q]; exact hy
theorem i_UsesOfBlocks (B : Int) (a : Option Addr) (n cap : Nat) (l : List Int) (w : World) (hs : Sl w a n l) :
    Calls Try.prog 38 #[.agg #[.int .i64 B, .slice a n cap]] w (LstC w (usV B l) (usE B l)) := by
  have HS := Lib.hid hs
  have HL := Lib.hid hs.1
  have hn := hs.2.1
  clear hs
  cases hv : tfB B l
  · have HE : Hid (usE B l = 1) := Lib.hid (by unfold usE; rw [hv]; rfl)
    have HV : Hid (usV B l = []) := Lib.hid (by unfold usV; rw [hv]; rfl)
    go_enter Try.func38, Try.ntmps38
    go_wp2_with (go_at_call 29; refine (i_IsTraffic _ _ _ _ _ _ (sl_later HS.out (show Later w _ from (by repeat (first | (with_reducible exact Later.refl _) | (with_reducible exact Hid.out (by assumption)) | (with_reducible refine Later.alloc ?_ _) | (with_reducible refine Later.setCell ?_ (by simp; omega) _) | (with_reducible refine Later.setCell ?_ (by simp) _) | (with_reducible refine Later.drewN ?_ _) | (with_reducible refine Later.drew ?_) | (with_reducible refine Later.trans ?_ (Hid.out (by assumption)))))))).mono ?_; rintro e w1 ⟨rfl, hb⟩; rw [hv]; have H1 := Lib.hid hb; clear hb)
    refine bodyPost_ret (v := .tuple #[.slice none 0 0, .int .i64 1]) (by simp [results, Try.results38, go_sem, *]) rfl ⟨.slice none 0 0, by rw [HE.out], by rw [HV.out]; exact tf_none _ _, (by repeat (first | (with_reducible exact Later.refl _) | (with_reducible exact Hid.out (by assumption)) | (with_reducible refine Later.alloc ?_ _) | (with_reducible refine Later.setCell ?_ (by simp; omega) _) | (with_reducible refine Later.setCell ?_ (by simp) _) | (with_reducible refine Later.drewN ?_ _) | (with_reducible refine Later.drew ?_) | (with_reducible refine Later.trans ?_ (Hid.out (by assumption)))))⟩
  · obtain ⟨b1, b2, n1, n2, hp⟩ := (tfB_iff B l).1 hv
    have HP := Lib.hid hp
    have HE : Hid (usE B l = 0) := Lib.hid (by unfold usE; rw [hv]; rfl)
    have HV : Hid (usV B l = ldL B l) := Lib.hid (by unfold usV; rw [hv]; rfl)
    rw [HL.out] at n1 n2
    obtain ⟨bn, rfl⟩ := Int.eq_ofNat_of_zero_le (show 0 ≤ B by omega)
    have hB1 : 2 ≤ bn := by omega
    have hB2 : bn ≤ 8 := by omega
    have hB3 : (-bn : Int) < 0 := by omega
    clear hp
    obtain ⟨i0, hi, hz0, hz1, hz2⟩ := info_parts info_i64
    have HI := Lib.hid hi; clear hi
    have HZ0 := Lib.hid hz0; clear hz0
    have HZ1 := Lib.hid hz1; clear hz1
    have HZ2 := Lib.hid hz2; clear hz2
    go_enter Try.func38, Try.ntmps38
    go_wp2_with fail
    refine (i_IsTraffic _ _ _ _ _ _ (sl_later HS.out (show Later w _ from (by repeat (first | (with_reducible exact Later.refl _) | (with_reducible exact Hid.out (by assumption)) | (with_reducible refine Later.alloc ?_ _) | (with_reducible refine Later.setCell ?_ (by simp; omega) _) | (with_reducible refine Later.setCell ?_ (by simp) _) | (with_reducible refine Later.drewN ?_ _) | (with_reducible refine Later.drew ?_) | (with_reducible refine Later.trans ?_ (Hid.out (by assumption)))))))).mono ?_
    rintro e w1 ⟨rfl, hb⟩
    rw [hv]
    obtain ⟨H1, hcc, hff, hzz⟩ := later_facts hb; clear hb
    have q0 : w1.cell? ⟨w.heap.size, 0, none⟩ = some (.int .i64 bn) := by rw [hcc _ _ (by simp)]; simp
    have q1 : w1.cell? ⟨w.heap.size, 1, none⟩ = some (.slice a n cap) := by rw [hcc _ _ (by simp)]; simp
    have hz : w.heap.size + 1 ≤ w1.heap.size := by simpa using hzz
    clear hcc hff hzz
    go_wp2_with (refine wpList_make_full _ rfl _ _ _ rfl (w.heap.size + 1) 2 i0 (.int .i64 0) 1 Try.underlying24 HI.out HZ0.out HZ1.out _ _ _ _ bn rfl rfl (by omega) (by omega) (by rw [HZ2.out]; omega) (by unfold maxLen; omega) hz ?_; intro w2 hown hgrow; have c0 := hgrow.cell q0 (by simp); have c1 := hgrow.cell q1 (by simp))
    have ho : Own w2 (w.heap.size + 1) (.slice (some ⟨w1.heap.size, 0, none⟩) bn bn) (ldL bn (l.take 0)) := by
      rw [List.take_zero, ldL_nil]
      refine ⟨?_, fun x hx => by rw [List.eq_of_mem_replicate hx]; exact ⟨by omega, by omega⟩⟩
      have := toList_madeCells_one (.int .i64 0) bn
      simpa [Value.cells, this] using hown
    have HG : Hid (Later w w2) := Lib.hid (((Later.refl w).alloc (.cells #[.int .i64 bn, .slice a n cap] 26)).trans (H1.out.trans ((Below.refl _ _).grown hgrow (Nat.le_refl _) (fun k e => by cases e))))
    have HO := Lib.hid ho
    obtain ⟨g, hg⟩ : ∃ g, g = w1.heap.size := ⟨_, rfl⟩
    have hgw : w.heap.size + 1 ≤ g := by omega
    rw [← hg] at HO ⊢
    clear hown hgrow ho q0 q1 hz H1 hg
    go_loopw [18] (fun i wr => ∃ k : Nat, k ≤ n ∧ i = .int .i64 k ∧ wr.cell? ⟨w.heap.size, 0, none⟩ = some (.int .i64 bn) ∧ wr.cell? ⟨w.heap.size, 1, none⟩ = some (.slice a n cap) ∧ Own wr (w.heap.size + 1) (.slice (some ⟨g, 0, none⟩) bn bn) (ldL bn (l.take k)) ∧ Later w wr) (fun i _ => n - (intOf i).toNat)
    case atStart => exact ⟨0, by omega, rfl, c0, c1, HO.out, HG.out⟩
    case round =>
      clear c0 c1 HO HG
      obtain ⟨k, hk, rfl, c0, c1, ho, hg⟩ := hrel
      have HO := Lib.hid ho; have HG := Lib.hid hg
      have hgl := (ho.lt g rfl).2
      clear ho hg
      by_cases hlt : k < n
      · obtain ⟨b, off, rfl, hc⟩ := (sl_later HS.out HG.out).at k hlt
        obtain ⟨p1, p2⟩ := plB_at HP.out k (by rw [HL.out]; exact hlt)
        have HK : Hid (incs (ldL bn (l.take k)) (ulP bn (gx l k)) (ulP bn (gx l k)).length = ldL bn (l.take (k + 1))) := Lib.hid (ld_inc k (by rw [HL.out]; exact hlt) b1 b2 ⟨p1, p2⟩ _ rfl)
        obtain ⟨u1, u2, u3⟩ := ulP_in b1 b2 p1 p2
        have HU2 := Lib.hid u2
        have HBD : Hid (∀ m, m ≤ (ulP bn (gx l k)).length → ∀ x ∈ incs (ldL bn (l.take k)) (ulP bn (gx l k)) m, 0 ≤ x ∧ x ≤ 100) := Lib.hid (by
          intro m hm x hx
          obtain ⟨i, hi, rfl⟩ := List.mem_iff_getElem.1 hx
          have hi' : i < bn := by rw [incs_len, ldL_len] at hi; simpa using hi
          rw [← gx_of _ _ hi, incs_gx _ _ _ hm (fun x hx => (u2 x hx).1) _ (by rw [ldL_len]; simpa using hi'), ldL_gx _ _ _ (by simpa using hi')]
          have h1 := cn_le bn (l.take k) (i : Int)
          have h2 : ((ulP bn (gx l k)).take m).count (i : Int) ≤ _ := List.count_le_length
          rw [List.length_take] at h1 h2
          have h4 := HL.out
          omega)
        clear u2 u3
        go_wp2_with fail
        refine (i_usedFrom _ _ _ (by omega) (by omega) (by omega) (by omega)).mono ?_
        rintro e w3 ⟨vu, rfl, hou, hb3⟩
        obtain ⟨au, cu, rfl, hsu, hau⟩ := hou.sl
        obtain ⟨H3, hcc, hff, hzz⟩ := later_facts hb3; clear hb3
        have d0 : w3.cell? ⟨w.heap.size, 0, none⟩ = some (.int .i64 bn) := by rw [hcc _ _ (by omega)]; exact c0
        have d1 : w3.cell? ⟨w.heap.size, 1, none⟩ = some (.slice (some ⟨b, off, none⟩) n cap) := by rw [hcc _ _ (by omega)]; exact c1
        have HO3 := Lib.hid (tf_lat HO.out H3.out)
        have HG3 := Lib.hid (HG.out.trans H3.out)
        have HU := Lib.hid hou
        obtain ⟨bu, hbu⟩ : ∃ bu, bu = wr.heap.size := ⟨_, rfl⟩
        have hgu : g < bu := by omega
        rw [← hbu] at HU
        obtain ⟨U, hU⟩ : ∃ U, U = ulP bn (gx l k) := ⟨_, rfl⟩
        rw [← hU] at HK HU2 HBD HU u1 ⊢
        obtain ⟨m, hm⟩ : ∃ m, m = U.length := ⟨_, rfl⟩
        have HM := Lib.hid hm
        rw [← hm] at u1 ⊢
        clear hcc hff hou hsu c0 c1 hc hm
        go_wp2_with fail
        go_loopw [27] (fun i wq => ∃ j : Nat, j ≤ m ∧ i = .int .i64 j ∧ wq.cell? ⟨w.heap.size, 0, none⟩ = some (.int .i64 bn) ∧ wq.cell? ⟨w.heap.size, 1, none⟩ = some (.slice (some ⟨b, off, none⟩) n cap) ∧ Own wq (w.heap.size + 1) (.slice (some ⟨g, 0, none⟩) bn bn) (incs (ldL bn (l.take k)) U j) ∧ Own wq bu (.slice au m cu) U ∧ Later w wq) (fun i _ => m - (intOf i).toNat)
        case atStart => exact ⟨0, by omega, rfl, d0, d1, HO3.out, by rw [HM.out]; exact HU.out, HG3.out⟩
        case round =>
          clear d0 d1 HO3 HU HG3
          obtain ⟨j, hj, rfl, d0, d1, ho, hu, hl⟩ := hrel
          by_cases hjl : j < m
          · have hUl : U.length = m := HM.out.symm
            obtain ⟨x0, x1⟩ := HU2.out _ (gx_mem U j (by omega))
            obtain ⟨gu, rfl⟩ : ∃ gu, au = some ⟨gu, 0, none⟩ := by
              rcases hu.1.2 with ⟨e, h0⟩ | ⟨gu, _, _, e, _⟩
              · exfalso; omega
              · cases e; exact ⟨gu, rfl⟩
            obtain ⟨cu1, cu2⟩ := own_at hu hUl j hjl
            obtain ⟨xn, hxn⟩ := Int.eq_ofNat_of_zero_le x0
            have hx8 : xn < bn := by omega
            have hln : (incs (ldL bn (l.take k)) U j).length = bn := by rw [incs_len, ldL_len]; simp
            obtain ⟨y1, y2⟩ := own_at ho hln xn hx8
            have hbd := HBD.out j (by omega) _ (gx_mem _ xn (by rw [hln]; exact hx8))
            obtain ⟨z, hz⟩ : ∃ z, z = gx (incs (ldL bn (l.take k)) U j) xn := ⟨_, rfl⟩
            rw [← hz] at y1 hbd
            obtain ⟨z0, z1⟩ := hbd
            obtain ⟨r1, r2⟩ := own_put ho hln xn (z + 1) ⟨by omega, by omega⟩
            have R1 : Hid (Own (wr.setCell ⟨g, xn, none⟩ (.int .i64 (z + 1))) (w.heap.size + 1) (.slice (some ⟨g, 0, none⟩) bn bn) (incs (ldL bn (l.take k)) U (j + 1))) := Lib.hid (by rw [incs_succ _ _ _ (by omega), hxn, Int.toNat_natCast, ← hz]; exact r1)
            have R2 := Lib.hid (hu.kept r2 (fun q e => by cases e; exact hgu))
            have R3 := Lib.hid (hl.setCell (p := ⟨g, xn, none⟩) (show w.heap.size ≤ g by omega) (.int .i64 (z + 1)))
            have R4 := Lib.hid (r2.cell d0 (by simp; omega))
            have R5 := Lib.hid (r2.cell d1 (by simp; omega))
            rw [hxn] at cu1
            clear ho hu hl r1 r2 hz hln
            go_wp2_with fail
            go_roundw
            case rel => exact ⟨j + 1, by omega, by go_num, R4.out, R5.out, R1.out, R2.out, R3.out⟩
            case measure => simp [intOf]; omega
          · obtain rfl : j = m := by omega
            have R1 : Hid (Own wr (w.heap.size + 1) (.slice (some ⟨g, 0, none⟩) bn bn) (ldL bn (l.take (k + 1)))) := Lib.hid (by have := HK.out; rw [← HM.out] at this; rw [← this]; exact ho)
            have R3 := Lib.hid hl
            clear ho hu hl
            go_wp2_with fail
            go_roundw
            case rel => exact ⟨k + 1, by omega, by go_num, d0, d1, R1.out, R3.out⟩
            case measure => simp [intOf]; omega
      · obtain rfl : k = n := by omega
        have R1 : Hid (Own wr (w.heap.size + 1) (.slice (some ⟨g, 0, none⟩) bn bn) (ldL bn l)) := Lib.hid (by have := HO.out; rw [List.take_of_length_le (by rw [HL.out]; exact Nat.le_refl _)] at this; exact this)
        go_wp2_with fail
        refine bodyPost_ret (v := .tuple #[.slice (some ⟨g, 0, none⟩) bn bn, .int .i64 0]) (by simp [results, Try.results38, go_sem, *]) rfl ⟨_, by rw [HE.out], by rw [HV.out]; exact tf_mono R1.out (by omega), HG.out⟩
/-- the greatest of m and the first k of a list -/
def mx10 (m : Int) (l : List Int) : Nat → Int
  | 0 => m
  | k + 1 => max (mx10 m l k) (gx l k)
theorem mx10_le (m c : Int) (l : List Int) (k : Nat) : mx10 m l k ≤ c ↔ m ≤ c ∧ ∀ j, j < k → gx l j ≤ c := by
  induction k with
  | zero => exact ⟨fun h => ⟨h, fun j hj => by omega⟩, fun h => h.1⟩
  | succ k ih =>
    show max _ _ ≤ c ↔ _
    constructor
    · intro h
      obtain ⟨h1, h2⟩ := ih.1 (by omega)
      refine ⟨h1, fun j hj => ?_⟩
      by_cases e : j = k
      · subst e; omega
      · exact h2 j (by omega)
    · intro ⟨h1, h2⟩
      have := ih.2 ⟨h1, fun j hj => h2 j (by omega)⟩
      have := h2 k (by omega)
      omega
theorem i_greatest10 (m : Int) (a : Option Addr) (n cap : Nat) (l : List Int) (w : World) (hs : Sl w a n l) :
    Calls Try.prog 93 #[.int .i64 m, .slice a n cap] w fun e w' => e = .returned (.int .i64 (mx10 m l n)) ∧ Later w w' := by
  have HS := Lib.hid hs
  have hn := hs.2.1
  clear hs
  go_enter Try.func93, Try.ntmps93
  go_wp2_with fail
  go_loop [5, 11] (fun t i => ∃ k : Nat, k ≤ n ∧ i = .int .i64 k ∧ t = .int .i64 (mx10 m l k)) (fun _ i => n - (intOf i).toNat)
  case atStart => exact ⟨0, by omega, rfl, rfl⟩
  case round =>
    obtain ⟨k, hk, rfl, rfl⟩ := hrel
    by_cases hlt : k < n
    · obtain ⟨b, off, rfl, hc⟩ := HS.out.at k hlt
      have HM : Hid (mx10 m l (k + 1) = max (mx10 m l k) (gx l k)) := Lib.hid rfl
      go_wp2_with fail
      go_round
      case rel =>
        refine ⟨k + 1, by omega, by go_num, ?_⟩
        rw [HM.out]
        congr 1
        split <;> omega
      case measure => simp [intOf]; omega
    · obtain rfl : k = n := by omega
      go_wp2_with fail
      go_ret
      exact ⟨rfl, Later.refl _⟩
theorem mx10_sl (B : Int) (l : List Int) : decide (mx10 0 (ldL B l) B.toNat ≤ 1) = slB B l := by
  rw [Bool.eq_iff_iff, decide_eq_true_eq, mx10_le, slB_iff]
  constructor
  · intro ⟨_, h⟩ b hb
    have := h b hb
    rw [ldL_gx B l b hb] at this
    omega
  · intro h
    refine ⟨by omega, fun j hj => ?_⟩
    have := h j hj
    rw [ldL_gx B l j hj]
    omega
theorem i_IsSafeTraffic (B : Int) (a : Option Addr) (n cap : Nat) (l : List Int) (w : World) (hs : Sl w a n l) :
    Calls Try.prog 31 #[.agg #[.int .i64 B, .slice a n cap]] w fun e w' => e = .returned (.bool (sfB B l)) ∧ Later w w' := by
  have HS := Lib.hid hs
  have HL := Lib.hid hs.1
  have hn := hs.2.1
  clear hs
  cases hv : tfB B l
  · have HE : usE B l = 1 := by unfold usE; rw [hv]; rfl
    have HF := Lib.hid (sfB_bad hv)
    go_enter Try.func31, Try.ntmps31
    go_wp2_with fail
    refine (i_UsesOfBlocks _ _ _ _ _ _ (sl_later HS.out (show Later w _ from (by repeat (first | (with_reducible exact Later.refl _) | (with_reducible exact Hid.out (by assumption)) | (with_reducible refine Later.alloc ?_ _) | (with_reducible refine Later.setCell ?_ (by simp; omega) _) | (with_reducible refine Later.setCell ?_ (by simp) _) | (with_reducible refine Later.drewN ?_ _) | (with_reducible refine Later.drew ?_) | (with_reducible refine Later.trans ?_ (Hid.out (by assumption)))))))).mono ?_
    rintro e w1 ⟨v, rfl, ho, hb⟩
    rw [HE]
    have H1 := Lib.hid hb
    clear hb ho HE
    go_wp2_with fail
    go_ret
    exact ⟨ret_b (by rw [HF.out]), (by repeat (first | (with_reducible exact Later.refl _) | (with_reducible exact Hid.out (by assumption)) | (with_reducible refine Later.alloc ?_ _) | (with_reducible refine Later.setCell ?_ (by simp; omega) _) | (with_reducible refine Later.setCell ?_ (by simp) _) | (with_reducible refine Later.drewN ?_ _) | (with_reducible refine Later.drew ?_) | (with_reducible refine Later.trans ?_ (Hid.out (by assumption)))))⟩
  · have HE : usE B l = 0 := by unfold usE; rw [hv]; rfl
    have HV : usV B l = ldL B l := by unfold usV; rw [hv]; rfl
    have HF := Lib.hid (sfB_sl hv)
    have HM := Lib.hid (mx10_sl B l)
    go_enter Try.func31, Try.ntmps31
    go_wp2_with fail
    refine (i_UsesOfBlocks _ _ _ _ _ _ (sl_later HS.out (show Later w _ from (by repeat (first | (with_reducible exact Later.refl _) | (with_reducible exact Hid.out (by assumption)) | (with_reducible refine Later.alloc ?_ _) | (with_reducible refine Later.setCell ?_ (by simp; omega) _) | (with_reducible refine Later.setCell ?_ (by simp) _) | (with_reducible refine Later.drewN ?_ _) | (with_reducible refine Later.drew ?_) | (with_reducible refine Later.trans ?_ (Hid.out (by assumption)))))))).mono ?_
    rintro e w1 ⟨v, rfl, ho, hb⟩
    rw [HE]
    rw [HV] at ho
    obtain ⟨a', c', rfl, hsl, _⟩ := ho.sl
    rw [ldL_len] at hsl ⊢
    have H1 := Lib.hid hb
    have HS1 := Lib.hid hsl
    clear hb ho HE HV hsl
    go_wp2_with (go_at_call 93; refine (i_greatest10 _ _ _ _ _ _ (sl_later HS1.out (show Later w1 _ from (by repeat (first | (with_reducible exact Later.refl _) | (with_reducible exact Hid.out (by assumption)) | (with_reducible refine Later.alloc ?_ _) | (with_reducible refine Later.setCell ?_ (by simp; omega) _) | (with_reducible refine Later.setCell ?_ (by simp) _) | (with_reducible refine Later.drewN ?_ _) | (with_reducible refine Later.drew ?_) | (with_reducible refine Later.trans ?_ (Hid.out (by assumption)))))))).mono ?_; rintro e w2 ⟨rfl, hb⟩; have H2 := Lib.hid hb; clear hb)
    go_ret
    exact ⟨ret_b (by rw [HF.out, ← HM.out]), (by repeat (first | (with_reducible exact Later.refl _) | (with_reducible exact Hid.out (by assumption)) | (with_reducible refine Later.alloc ?_ _) | (with_reducible refine Later.setCell ?_ (by simp; omega) _) | (with_reducible refine Later.setCell ?_ (by simp) _) | (with_reducible refine Later.drewN ?_ _) | (with_reducible refine Later.drew ?_) | (with_reducible refine Later.trans ?_ (Hid.out (by assumption)))))⟩
def udV (B : Int) (l : List Int) (t : Int) : List Int := if thE B l t = 0 then ulM B (gx l t.toNat) B.toNat else []
theorem i_UsedBlocks (B : Int) (a : Option Addr) (n cap : Nat) (l : List Int) (t : Int) (w : World) (hs : Sl w a n l) :
    Calls Try.prog 40 #[.agg #[.int .i64 B, .slice a n cap], .int .i64 t] w (LstC w (udV B l t) (thE B l t)) := by
  have HS := Lib.hid hs
  have HL := Lib.hid hs.1
  have hn := hs.2.1
  clear hs
  by_cases h0 : thE B l t = 0
  · have hh : tfB B l = true ∧ hasT l t = true := by
      unfold thE at h0
      cases hv : tfB B l
      · rw [hv] at h0; simp at h0
      · cases hk : hasT l t
        · rw [hv, hk] at h0; simp at h0
        · exact ⟨rfl, rfl⟩
    obtain ⟨hv, hk⟩ := hh
    obtain ⟨b1, b2, n1, n2, hp⟩ := (tfB_iff B l).1 hv
    obtain ⟨k1, k2⟩ := (hasT_iff l t).1 hk
    rw [HL.out] at k2
    obtain ⟨tn, rfl⟩ := Int.eq_ofNat_of_zero_le k1
    have ht : tn < n := by omega
    obtain ⟨p1, p2⟩ := plB_at hp tn (by rw [HL.out]; exact ht)
    have HV : Hid (udV B l tn = ulP B (gx l tn)) := Lib.hid (by unfold udV; rw [if_pos h0, ul_eq b1 b2 p1 p2]; rfl)
    have HE := Lib.hid h0
    obtain ⟨b, off, rfl, hc⟩ := HS.out.at tn ht
    have hb0 := cell_lt hc
    clear hp h0
    go_enter Try.func40, Try.ntmps40
    go_wp2_with fail
    refine (i_trainError _ _ _ _ _ _ _ (sl_later HS.out (show Later w _ from (by repeat (first | (with_reducible exact Later.refl _) | (with_reducible exact Hid.out (by assumption)) | (with_reducible refine Later.alloc ?_ _) | (with_reducible refine Later.setCell ?_ (by simp; omega) _) | (with_reducible refine Later.setCell ?_ (by simp) _) | (with_reducible refine Later.drewN ?_ _) | (with_reducible refine Later.drew ?_) | (with_reducible refine Later.trans ?_ (Hid.out (by assumption)))))))).mono ?_
    rintro e w1 ⟨rfl, hb⟩
    rw [HE.out]
    obtain ⟨H1, hcc, hff, hzz⟩ := later_facts hb; clear hb
    have c0 : w1.cell? ⟨w.heap.size, 0, none⟩ = some (.int .i64 B) := by rw [hcc _ _ (by simp)]; simp
    have c1 : w1.cell? ⟨w.heap.size, 1, none⟩ = some (.slice (some ⟨b, off, none⟩) n cap) := by rw [hcc _ _ (by simp)]; simp
    have c2 : w1.cell? ⟨b, off + tn, none⟩ = some (.int .i64 (gx l tn)) := by rw [hcc _ _ (by simp; omega), (show Later w (w.alloc _) from (Later.refl _).alloc _).cell (p := ⟨b, off + tn, none⟩) hb0]; exact hc
    clear hcc hff
    go_wp2_with fail
    have KG : Hid (∀ W', Later w1 W' → W'.cell? ⟨w.heap.size, 0, none⟩ = some (.int .i64 B) ∧ W'.cell? ⟨w.heap.size, 1, none⟩ = some (.slice (some ⟨b, off, none⟩) n cap) ∧ W'.cell? ⟨b, off + tn, none⟩ = some (.int .i64 (gx l tn))) := Lib.hid (fun W' k => ⟨by rw [k.cell (p := ⟨w.heap.size, 0, none⟩) (cell_lt c0)]; exact c0, by rw [k.cell (p := ⟨w.heap.size, 1, none⟩) (cell_lt c1)]; exact c1, by rw [k.cell (p := ⟨b, off + tn, none⟩) (cell_lt c2)]; exact c2⟩)
    go_region_held3 (fun w' => w'.cell? ⟨w.heap.size, 0, none⟩ = some (.int .i64 B) ∧ w'.cell? ⟨w.heap.size, 1, none⟩ = some (.slice (some ⟨b, off, none⟩) n cap) ∧ w'.cell? ⟨b, off + tn, none⟩ = some (.int .i64 (gx l tn))) (first | (refine KG.out _ ?_; ((repeat (first | (with_reducible exact Later.refl _) | (with_reducible exact Hid.out (by assumption)) | (with_reducible refine Later.alloc ?_ _) | (with_reducible refine Later.setCell ?_ (by simp; omega) _) | (with_reducible refine Later.setCell ?_ (by simp) _) | (with_reducible refine Later.drewN ?_ _) | (with_reducible refine Later.drew ?_) | (with_reducible refine Later.trans ?_ (Hid.out (by assumption))))); done)))
      (first | (go_at_call 98; refine (i_usedFrom _ _ _ (by omega) (by omega) (by omega) (by omega)).mono ?_; rintro e w3 ⟨vu, rfl, ho, hb⟩; have H3 := Lib.hid hb; have O3 := Lib.hid (tf_mono (b2 := w.heap.size) ho (Nat.le_trans (Later.size ((Later.refl w).alloc (.cells #[.int .i64 B, .slice (some ⟨b, off, none⟩) n cap] 26))) (Nat.le_trans hzz (Later.size (show Later w1 _ from (by repeat (first | (with_reducible exact Later.refl _) | (with_reducible exact Hid.out (by assumption)) | (with_reducible refine Later.alloc ?_ _) | (with_reducible refine Later.setCell ?_ (by simp; omega) _) | (with_reducible refine Later.setCell ?_ (by simp) _) | (with_reducible refine Later.drewN ?_ _) | (with_reducible refine Later.drew ?_) | (with_reducible refine Later.trans ?_ (Hid.out (by assumption)))))))))); clear ho hb))
    all_goals
      go_wp2_with fail
      refine bodyPost_ret (v := .tuple #[vu, .int .i64 0]) (by simp [results, Try.results40, go_sem, *]) rfl ⟨_, by rw [HE.out], by rw [HV.out]; exact tf_lat O3.out (show Later _ _ from (by repeat (first | (with_reducible exact Later.refl _) | (with_reducible exact Hid.out (by assumption)) | (with_reducible refine Later.alloc ?_ _) | (with_reducible refine Later.setCell ?_ (by simp; omega) _) | (with_reducible refine Later.setCell ?_ (by simp) _) | (with_reducible refine Later.drewN ?_ _) | (with_reducible refine Later.drew ?_) | (with_reducible refine Later.trans ?_ (Hid.out (by assumption)))))), (by repeat (first | (with_reducible exact Later.refl _) | (with_reducible exact Hid.out (by assumption)) | (with_reducible refine Later.alloc ?_ _) | (with_reducible refine Later.setCell ?_ (by simp; omega) _) | (with_reducible refine Later.setCell ?_ (by simp) _) | (with_reducible refine Later.drewN ?_ _) | (with_reducible refine Later.drew ?_) | (with_reducible refine Later.trans ?_ (Hid.out (by assumption)))))⟩
  · have HV : Hid (udV B l t = []) := Lib.hid (by unfold udV; rw [if_neg h0])
    have e0 : (thE B l t != 0) = true := by simpa using h0
    obtain ⟨c, hc⟩ : ∃ c, c = thE B l t := ⟨_, rfl⟩
    have HC := Lib.hid hc
    rw [← hc] at e0
    clear h0 hc
    go_enter Try.func40, Try.ntmps40
    go_wp2_with (go_at_call 95; refine (i_trainError _ _ _ _ _ _ _ (sl_later HS.out (show Later w _ from (by repeat (first | (with_reducible exact Later.refl _) | (with_reducible exact Hid.out (by assumption)) | (with_reducible refine Later.alloc ?_ _) | (with_reducible refine Later.setCell ?_ (by simp; omega) _) | (with_reducible refine Later.setCell ?_ (by simp) _) | (with_reducible refine Later.drewN ?_ _) | (with_reducible refine Later.drew ?_) | (with_reducible refine Later.trans ?_ (Hid.out (by assumption)))))))).mono ?_; rintro e w1 ⟨rfl, hb⟩; rw [← HC.out]; have H1 := Lib.hid hb; clear hb)
    refine bodyPost_ret (v := .tuple #[.slice none 0 0, .int .i64 c]) (by simp [results, Try.results40, go_sem, *]) rfl ⟨.slice none 0 0, by rw [HC.out], by rw [HV.out]; exact tf_none _ _, (by repeat (first | (with_reducible exact Later.refl _) | (with_reducible exact Hid.out (by assumption)) | (with_reducible refine Later.alloc ?_ _) | (with_reducible refine Later.setCell ?_ (by simp; omega) _) | (with_reducible refine Later.setCell ?_ (by simp) _) | (with_reducible refine Later.drewN ?_ _) | (with_reducible refine Later.drew ?_) | (with_reducible refine Later.trans ?_ (Hid.out (by assumption)))))⟩
end Go.Proofs.Ytdaihpkjnigjgaa
