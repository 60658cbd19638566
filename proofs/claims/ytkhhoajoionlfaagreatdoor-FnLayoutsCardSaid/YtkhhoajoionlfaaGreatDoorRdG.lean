/- A line read as a segment, by the program: readSegment. -/
import Derived.Test.YtkhhoajoionlfaaGreatDoorRdN
import Derived.Test.YtkhhoajoionlfaaGreatDoorRdS
import Derived.Test.YtkhhoajoionlfaaGreatDoorRdK
import Derived.Test.YtkhhoajoionlfaaGreatDoorSpS
namespace Go.Proofs.YtkhhoajoionlfaaGreatDoor
open Go.RowKit Go.Shelf
set_option maxHeartbeats 4000000
set_option linter.unusedVariables false
set_option linter.unusedSimpArgs false
/-- 'what the line l is loosely read as' -/
def ReadsG (w : World) (l : List UInt8) (e : Ending) (w' : World) : Prop := Later w w' ∧ ∃ y b, RSg l y b ∧ e = .returned (.tuple #[agg7 y, .bool b])
/-- the six numbers' cells, the first k written -/
def Six (w0 W : World) (g : Nat) (k : Nat) (N : List Int) : Prop := w0.heap.size ≤ g ∧ g < W.heap.size ∧ (∀ j, j < 6 → W.cell? ⟨g, j, none⟩ = some (.int .i64 (N.getD j 0))) ∧ (∀ j, j < 6 → W.frozen? ⟨g, j, none⟩ = false)
theorem Six.later {w0 W W' : World} {g k : Nat} {N : List Int} (h : Six w0 W g k N) (b : Later W W') : Six w0 W' g k N :=
  ⟨h.1, Nat.lt_of_lt_of_le h.2.1 b.size, fun j hj => by rw [b.cell (p := ⟨g, j, none⟩) h.2.1]; exact h.2.2.1 j hj, fun j hj => by rw [Below.frozen (p := ⟨g, j, none⟩) b h.2.1]; exact h.2.2.2 j hj⟩
theorem Six.put {w0 W : World} {g k : Nat} {N : List Int} (h : Six w0 W g k N) (hN : N.length = k) (hk : k < 6) (v : Int) : Six w0 (W.setCell ⟨g, k, none⟩ (.int .i64 v)) g (k + 1) (N ++ [v]) := by
  refine ⟨h.1, by rw [World.size_setCell]; exact h.2.1, fun j hj => ?_, fun j hj => by rw [World.frozen?_setCell]; exact h.2.2.2 j hj⟩
  by_cases e : j = k
  · subst e
    rw [World.cell?_setCell_same _ _ _ (h.2.2.1 j hj)]
    rw [List.getD_eq_getElem?_getD, List.getElem?_append_right (by omega), hN]; simp
  · rw [World.cell?_setCell_other _ _ _ _ (by simp [e]), h.2.2.1 j hj]
    by_cases hjk : j < k
    · rw [List.getD_eq_getElem?_getD, List.getD_eq_getElem?_getD, List.getElem?_append_left (by omega)]
    · rw [List.getD_eq_getElem?_getD, List.getD_eq_getElem?_getD, List.getElem?_eq_none (by omega), List.getElem?_eq_none (by simp; omega)]
theorem i_readSegment (s : ByteArray) (w : World) (hs : s.size ≤ 1048576) (hm : MaxL w) (he : Errs w) : Calls Tryz.prog 21 #[.string s] w (ReadsG w s.data.toList) := by
  obtain ⟨l, hl⟩ : ∃ l, l = s.data.toList := ⟨_, rfl⟩
  have hlen : l.length = s.size := by rw [hl]; rfl
  rw [← hl]
  have HL := Lib.hid hl
  have HLEN := Lib.hid hlen
  have HE := Lib.hid he
  clear hl hlen he
  go_enter Tryz.func21, Tryz.ntmps21
  go_wp2_with fail
  refine (i_SplitW s _ hs (hm.later ((Later.refl _).alloc _))).mono ?_
  rw [← HL.out]
  rintro e w1 ⟨g, q, cap, W, hgb, hW, rfl, hwd, hb, hcap⟩
  obtain ⟨H1, hcc, hff, hzz⟩ := later_facts hb
  have B1 := Lib.hid (Later.trans ((Later.refl w).alloc _) hb)
  (try simp at hzz)
  have hz0 : w.heap.size < w1.heap.size := (by omega)
  have R1 : Hid ((∀ j, j < 7 → w1.cell? ⟨w.heap.size, j, none⟩ = some (.int .i64 0)) ∧ ∀ j, j < 7 → w1.frozen? ⟨w.heap.size, j, none⟩ = false) := Lib.hid ⟨fun j hj => by
      rw [hcc _ _ (by simp)]
      have h7 : j = 0 ∨ j = 1 ∨ j = 2 ∨ j = 3 ∨ j = 4 ∨ j = 5 ∨ j = 6 := by omega
      rcases h7 with rfl | rfl | rfl | rfl | rfl | rfl | rfl <;> simp, fun j hj => by rw [hff _ _ (by simp)]; simp⟩
  have HWO : Hid (WdOf l W) := Lib.hid (fun x hx hlx => by rw [hW]; exact words_cut hlx _ rfl)
  have HQ := Lib.hid hwd.1
  have hgw : g ≠ w.heap.size := by simp at hgb; omega
  have hqc := hwd.2.1
  have HWD := Lib.hid hwd
  have hmax : Hid (∀ k, (W.getD k []).length ≤ 1048576) := Lib.hid (fun k => by
    rw [List.getD_eq_getElem?_getD]
    cases h : W[k]? with
    | none => simp
    | some y =>
      have := splitK_le 32 _ l y (by rw [← hW]; exact List.mem_of_getElem? h)
      have h2 := HLEN.out
      simp; omega)
  clear hW hwd hb hm hcc hff hgb
  unfold ReadsG
  by_cases h7 : q = 7
  · subst h7
    have c0 := HWD.out.2.2.2 0 (by omega)
    have hg1 := HWD.out.2.2.1
    go_wp2_with fail
    refine (i_kindNamed _ _).mono ?_
    rintro e w2 ⟨hb2, y, b, hk, rfl⟩
    have HK : Hid (KNm (W.getD 0 []) y b) := Lib.hid hk
    obtain ⟨H2, hcc, hff, hzz2⟩ := later_facts hb2
    have B2 := Lib.hid (Later.trans B1.out (Later.trans (by repeat (first | (with_reducible exact Later.refl _) | (with_reducible refine Later.drewN ?_ _) | (with_reducible refine Later.drew ?_))) hb2))
    have hz2 : w.heap.size < w2.heap.size := (by omega)
    have R2 : Hid ((∀ j, j < 7 → w2.cell? ⟨w.heap.size, j, none⟩ = some (.int .i64 0)) ∧ ∀ j, j < 7 → w2.frozen? ⟨w.heap.size, j, none⟩ = false) := Lib.hid ⟨fun j hj => by rw [hcc _ _ (by simpa using hz0)]; exact R1.out.1 j hj, fun j hj => by rw [hff _ _ (by simpa using hz0)]; exact R1.out.2 j hj⟩
    have WD2 := Lib.hid (HWD.out.later (Later.trans (by repeat (first | (with_reducible exact Later.refl _) | (with_reducible refine Later.drewN ?_ _) | (with_reducible refine Later.drew ?_))) H2.out))
    clear hb2 hk c0 hcc hff
    cases b
    · have HX : Hid (RSg l sg0 false) := Lib.hid (rsg_nok HWO.out HK.out)
      have r0 := R2.out.1 0 (by omega); have r1 := R2.out.1 1 (by omega); have r2 := R2.out.1 2 (by omega); have r3 := R2.out.1 3 (by omega); have r4 := R2.out.1 4 (by omega); have r5 := R2.out.1 5 (by omega); have r6 := R2.out.1 6 (by omega)
      have f0 := R2.out.2 0 (by omega); have f1 := R2.out.2 1 (by omega); have f2 := R2.out.2 2 (by omega); have f3 := R2.out.2 3 (by omega); have f4 := R2.out.2 4 (by omega); have f5 := R2.out.2 5 (by omega); have f6 := R2.out.2 6 (by omega)
      go_wp2_with fail
      refine bodyPost_ret (v := .tuple #[agg7 sg0, .bool false]) (by simp [results, Tryz.results21, go_sem, agg7, sg0, *] <;> omega) rfl ⟨(by repeat (first | (with_reducible exact Later.refl _) | (with_reducible exact Hid.out (by assumption)) | (with_reducible refine Later.alloc ?_ _) | (with_reducible refine Later.setCell ?_ (by simp) _) | (with_reducible refine Later.drewN ?_ _) | (with_reducible refine Later.drew ?_) | (with_reducible refine Later.trans ?_ (Hid.out (by assumption))))), _, _, HX.out, rfl⟩
    · have hcp : 1 ≤ cap - 1 := by omega
      have hg2 := WD2.out.2.2.1
      go_wp2_with fail
      have S0 : Hid (Six w (w2.alloc (.cells #[.int .i64 0, .int .i64 0, .int .i64 0, .int .i64 0, .int .i64 0, .int .i64 0] 69)) w2.heap.size 0 []) := Lib.hid ⟨by omega, by simp, fun j hj => by
        have h7 : j = 0 ∨ j = 1 ∨ j = 2 ∨ j = 3 ∨ j = 4 ∨ j = 5 := by omega
        rcases h7 with rfl | rfl | rfl | rfl | rfl | rfl <;> simp, fun j hj => by simp⟩
      go_loopw [31] (fun i wr => ∃ (k : Nat) (N : List Int), i = .int .i64 k ∧ k ≤ 6 ∧ Hid (Nums W k N) ∧ Six w wr w2.heap.size k N ∧ Later w2 wr) (fun i _ => 6 - (intOf i).toNat)
      case atStart => exact ⟨0, [], rfl, by omega, Lib.hid (nums_nil W), S0.out, by repeat (first | (with_reducible exact Later.refl _) | (with_reducible refine Later.alloc ?_ _) | (with_reducible refine Later.drew ?_))⟩
      case round =>
        obtain ⟨k, N, rfl, hk6, HN, hsx, hb3⟩ := hrel
        have SX := Lib.hid hsx
        have B3 := Lib.hid (Later.trans B2.out hb3)
        have B23 := Lib.hid hb3
        have hz3 : w2.heap.size < wr.heap.size := SX.out.2.1
        clear hsx hb3
        by_cases hlt : k < 6
        · have cw := (WD2.out.later B23.out).2.2.2 (k + 1) (by omega)
          obtain ⟨wk, hwk⟩ : ∃ u, u = W.getD (k + 1) [] := ⟨_, rfl⟩
          have hwl := hmax.out (k + 1)
          rw [← hwk] at hwl
          have hwl' : (tx wk).size ≤ 281474976710656 := by rw [tx_size]; omega
          have cw' : wr.cell? ⟨g, 1 + k, none⟩ = some (.string (tx wk)) := by rw [Nat.add_comm 1 k, hwk]; exact cw
          have HWK := Lib.hid hwk
          clear hwk
          have hgr : g < wr.heap.size := by omega
          clear cw
          go_wp2_with fail
          rcases hr : Lib.parseIntB 64 wk with v | _ | _
          · have HV : Hid (Nums W (k + 1) (N ++ [v])) := Lib.hid (nums_snoc HN.out (by rw [← HWK.out]; exact hr))
            have hvin := parse_in _ _ hr
            refine (i_Parse_ok _ _ hwl' v hr).mono ?_
            rintro e w4 ⟨rfl, hb4⟩
            have B4 := Lib.hid (Later.trans B3.out (Later.trans (by repeat (first | (with_reducible exact Later.refl _) | (with_reducible refine Later.drewN ?_ _) | (with_reducible refine Later.drew ?_))) hb4))
            have B24 := Lib.hid (Later.trans B23.out (Later.trans (by repeat (first | (with_reducible exact Later.refl _) | (with_reducible refine Later.drewN ?_ _) | (with_reducible refine Later.drew ?_))) hb4))
            have S4 := Lib.hid (SX.out.later (Later.trans (by repeat (first | (with_reducible exact Later.refl _) | (with_reducible refine Later.drewN ?_ _) | (with_reducible refine Later.drew ?_))) hb4))
            have hNl := HN.out.1
            have ck := S4.out.2.2.1 k hlt
            have fk := S4.out.2.2.2 k hlt
            have h24 := S4.out.2.1
            have P4 := Lib.hid (S4.out.put hNl hlt v)
            clear hb4 cw' hr hNl
            go_wp2_with fail
            go_roundw
            case rel => exact ⟨k + 1, N ++ [v], by go_num, by omega, HV, P4.out, B24.out.setCell (by simp) _⟩
            case measure => simp [intOf]; omega
          all_goals
            have HX : Hid (RSg l sg0 false) := Lib.hid (rsg_nonum HWO.out k hlt (fun v => by rw [← HWK.out, hr]; exact nofun))
            refine (i_Parse_err _ _ hwl' (HE.out.lat (Later.trans B3.out (by repeat (first | (with_reducible exact Later.refl _) | (with_reducible refine Later.drewN ?_ _) | (with_reducible refine Later.drew ?_))))) (fun v => by show Lib.parseIntB 64 wk ≠ _; rw [hr]; exact nofun)).mono ?_
            rintro e w4 ⟨xv, nv, rfl, hb4⟩
            have B4 := Lib.hid (Later.trans B3.out (Later.trans (by repeat (first | (with_reducible exact Later.refl _) | (with_reducible refine Later.drewN ?_ _) | (with_reducible refine Later.drew ?_))) hb4))
            have B24 : Hid (Later w2 w4) := Lib.hid (Later.trans B23.out (Later.trans (by repeat (first | (with_reducible exact Later.refl _) | (with_reducible refine Later.drewN ?_ _) | (with_reducible refine Later.drew ?_))) hb4))
            have R4 : Hid ((∀ j, j < 7 → w4.cell? ⟨w.heap.size, j, none⟩ = some (.int .i64 0)) ∧ ∀ j, j < 7 → w4.frozen? ⟨w.heap.size, j, none⟩ = false) := Lib.hid ⟨fun j hj => by rw [B24.out.cell (p := ⟨w.heap.size, j, none⟩) hz2]; exact R2.out.1 j hj, fun j hj => by rw [Below.frozen (p := ⟨w.heap.size, j, none⟩) B24.out hz2]; exact R2.out.2 j hj⟩
            have hz4 : w.heap.size < w4.heap.size := Nat.lt_of_lt_of_le hz2 B24.out.size
            clear hb4 cw' hr
            have r0 := R4.out.1 0 (by omega); have r1 := R4.out.1 1 (by omega); have r2 := R4.out.1 2 (by omega); have r3 := R4.out.1 3 (by omega); have r4 := R4.out.1 4 (by omega); have r5 := R4.out.1 5 (by omega); have r6 := R4.out.1 6 (by omega)
            have f0 := R4.out.2 0 (by omega); have f1 := R4.out.2 1 (by omega); have f2 := R4.out.2 2 (by omega); have f3 := R4.out.2 3 (by omega); have f4 := R4.out.2 4 (by omega); have f5 := R4.out.2 5 (by omega); have f6 := R4.out.2 6 (by omega)
            go_wp2_with fail
            refine bodyPost_ret (v := .tuple #[agg7 sg0, .bool false]) (by simp [results, Tryz.results21, go_sem, agg7, sg0, *] <;> omega) rfl ⟨(by repeat (first | (with_reducible exact Later.refl _) | (with_reducible exact Hid.out (by assumption)) | (with_reducible refine Later.alloc ?_ _) | (with_reducible refine Later.setCell ?_ (by simp) _) | (with_reducible refine Later.drewN ?_ _) | (with_reducible refine Later.drew ?_) | (with_reducible refine Later.trans ?_ (Hid.out (by assumption))))), _, _, HX.out, rfl⟩
        · obtain rfl : k = 6 := by omega
          have R3 : Hid ((∀ j, j < 7 → wr.cell? ⟨w.heap.size, j, none⟩ = some (.int .i64 0)) ∧ ∀ j, j < 7 → wr.frozen? ⟨w.heap.size, j, none⟩ = false) := Lib.hid ⟨fun j hj => by rw [B23.out.cell (p := ⟨w.heap.size, j, none⟩) hz2]; exact R2.out.1 j hj, fun j hj => by rw [Below.frozen (p := ⟨w.heap.size, j, none⟩) B23.out hz2]; exact R2.out.2 j hj⟩
          have HX := Lib.hid (rsg_done HWO.out HK.out HN.out)
          have r0 := R3.out.1 0 (by omega); have r1 := R3.out.1 1 (by omega); have r2 := R3.out.1 2 (by omega); have r3 := R3.out.1 3 (by omega); have r4 := R3.out.1 4 (by omega); have r5 := R3.out.1 5 (by omega); have r6 := R3.out.1 6 (by omega)
          have f0 := R3.out.2 0 (by omega); have f1 := R3.out.2 1 (by omega); have f2 := R3.out.2 2 (by omega); have f3 := R3.out.2 3 (by omega); have f4 := R3.out.2 4 (by omega); have f5 := R3.out.2 5 (by omega); have f6 := R3.out.2 6 (by omega)
          have n0 := SX.out.2.2.1 0 (by omega); have n1 := SX.out.2.2.1 1 (by omega); have n2 := SX.out.2.2.1 2 (by omega); have n3 := SX.out.2.2.1 3 (by omega); have n4 := SX.out.2.2.1 4 (by omega); have n5 := SX.out.2.2.1 5 (by omega)
          have hz3w : w.heap.size < wr.heap.size := by omega
          go_wp2_with fail
          refine bodyPost_ret (v := .tuple #[agg7 ⟨y, N.getD 0 0, N.getD 1 0, N.getD 2 0, N.getD 3 0, N.getD 4 0, N.getD 5 0⟩, .bool true]) (by simp [results, Tryz.results21, go_sem, agg7, sg0, *] <;> omega) rfl ⟨(by repeat (first | (with_reducible exact Later.refl _) | (with_reducible exact Hid.out (by assumption)) | (with_reducible refine Later.alloc ?_ _) | (with_reducible refine Later.setCell ?_ (by simp) _) | (with_reducible refine Later.drewN ?_ _) | (with_reducible refine Later.drew ?_) | (with_reducible refine Later.trans ?_ (Hid.out (by assumption))))), _, _, HX.out, rfl⟩
  · have HX : Hid (RSg l sg0 false) := Lib.hid (rsg_no7 HWO.out (by rw [← HQ.out]; exact h7))
    have r0 := R1.out.1 0 (by omega); have r1 := R1.out.1 1 (by omega); have r2 := R1.out.1 2 (by omega); have r3 := R1.out.1 3 (by omega); have r4 := R1.out.1 4 (by omega); have r5 := R1.out.1 5 (by omega); have r6 := R1.out.1 6 (by omega)
    have f0 := R1.out.2 0 (by omega); have f1 := R1.out.2 1 (by omega); have f2 := R1.out.2 2 (by omega); have f3 := R1.out.2 3 (by omega); have f4 := R1.out.2 4 (by omega); have f5 := R1.out.2 5 (by omega); have f6 := R1.out.2 6 (by omega)
    have e7 : ((q : Int) != 7) = true := by simp; omega
    go_wp2_with fail
    refine bodyPost_ret (v := .tuple #[agg7 sg0, .bool false]) (by simp [results, Tryz.results21, go_sem, agg7, sg0, *] <;> omega) rfl ⟨(by repeat (first | (with_reducible exact Later.refl _) | (with_reducible exact Hid.out (by assumption)) | (with_reducible refine Later.alloc ?_ _) | (with_reducible refine Later.setCell ?_ (by simp) _) | (with_reducible refine Later.drewN ?_ _) | (with_reducible refine Later.drew ?_) | (with_reducible refine Later.trans ?_ (Hid.out (by assumption))))), _, _, HX.out, rfl⟩
end Go.Proofs.YtkhhoajoionlfaaGreatDoor
