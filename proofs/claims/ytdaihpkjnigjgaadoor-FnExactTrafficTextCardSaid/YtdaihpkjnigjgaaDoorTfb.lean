/- The text of a traffic, of the model. -/
import Derived.Test.YtdaihpkjnigjgaaDoorTfa
import Derived.Test.YtdaihpkjnigjgaaDoorTfS
import Derived.Test.YtdaihpkjnigjgaaDoorHeld
namespace Go.Proofs.YtdaihpkjnigjgaaDoor
open Go.RowKit Go.Shelf
set_option maxHeartbeats 40000000
set_option linter.unusedVariables false
set_option linter.unusedSimpArgs false
theorem cl_newB (w : World) (cs : Array Value) (T : TypeId) (j : Nat) (v : Value) (h : cs[j]? = some v) : (w.alloc (.cells cs T)).cell? ⟨w.heap.size, j, none⟩ = some v := by
  simp only [World.cell?, heap_alloc_new]; simp [h]
set_option maxRecDepth 100000 in
theorem s_TrafficText (B : Int) (a : Option Addr) (n cap : Nat) (l : List Int) (w : World) (hs : Sl w a n l) :
    Calls Tryd.prog 12 #[.agg #[.int .i64 B, .slice a n cap]] w (Texts w (tfTx B l)) := by
  have HS := Lib.hid hs
  have HL := Lib.hid hs.1
  clear hs
  cases hv : tfB B l
  · have HX : Hid (tfTx B l = []) := Lib.hid (by unfold tfTx; rw [hv]; rfl)
    go_enter Tryd.func12, Tryd.ntmps12
    go_wp2_with (go_at_call 33; refine (s_IsTraffic _ _ _ _ _ _ (sl_later HS.out (show Later w _ from (by repeat (first | (with_reducible exact Later.refl _) | (with_reducible exact Hid.out (by assumption)) | (with_reducible refine Later.alloc ?_ _) | (with_reducible refine Later.setCell ?_ (by simp; omega) _) | (with_reducible refine Later.setCell ?_ (by simp) _) | (with_reducible refine Later.drewN ?_ _) | (with_reducible refine Later.drew ?_) | (with_reducible refine Later.trans ?_ (Hid.out (by assumption)))))))).mono ?_; rintro e w1 ⟨rfl, hb⟩; rw [hv]; have H1 := Lib.hid hb; clear hb)
    go_ret
    exact ⟨by rw [HX.out]; rfl, (show Later w _ from (by repeat (first | (with_reducible exact Later.refl _) | (with_reducible exact Hid.out (by assumption)) | (with_reducible refine Later.alloc ?_ _) | (with_reducible refine Later.setCell ?_ (by simp; omega) _) | (with_reducible refine Later.setCell ?_ (by simp) _) | (with_reducible refine Later.drewN ?_ _) | (with_reducible refine Later.drew ?_) | (with_reducible refine Later.trans ?_ (Hid.out (by assumption))))))⟩
  · obtain ⟨b1, b2, n1, n2, hp⟩ := (tfB_iff B l).1 hv
    rw [HL.out] at n1 n2
    have HP := Lib.hid hp
    have HX : Hid (tfTx B l = txK B l l.length) := Lib.hid (by unfold tfTx; rw [hv]; rfl)
    clear hp
    go_enter Tryd.func12, Tryd.ntmps12
    go_wp2_with fail
    refine (s_IsTraffic _ _ _ _ _ _ (sl_later HS.out (show Later w _ from (by repeat (first | (with_reducible exact Later.refl _) | (with_reducible exact Hid.out (by assumption)) | (with_reducible refine Later.alloc ?_ _) | (with_reducible refine Later.setCell ?_ (by simp; omega) _) | (with_reducible refine Later.setCell ?_ (by simp) _) | (with_reducible refine Later.drewN ?_ _) | (with_reducible refine Later.drew ?_) | (with_reducible refine Later.trans ?_ (Hid.out (by assumption)))))))).mono ?_
    rintro e w1 ⟨rfl, hl⟩
    rw [hv]
    obtain ⟨H1, hcc, hff, hzz⟩ := later_facts hl; clear hl
    simp only [World.size_alloc] at hzz hcc hff
    have q0 : w1.cell? ⟨w.heap.size, 0, none⟩ = some (.int .i64 B) := by rw [hcc _ _ (by omega)]; simp
    have q1 : w1.cell? ⟨w.heap.size, 1, none⟩ = some (.slice a n cap) := by rw [hcc _ _ (by omega)]; simp
    have HG1 : Hid (Later w w1) := Lib.hid (by repeat (first | (with_reducible exact Later.refl _) | (with_reducible exact Hid.out (by assumption)) | (with_reducible refine Later.alloc ?_ _) | (with_reducible refine Later.setCell ?_ (by simp; omega) _) | (with_reducible refine Later.setCell ?_ (by simp) _) | (with_reducible refine Later.drewN ?_ _) | (with_reducible refine Later.drew ?_) | (with_reducible refine Later.trans ?_ (Hid.out (by assumption)))))
    clear hcc hff H1
    go_wp2_with fail
    refine (s_Dec 100 B _ (by omega) (by omega) (by omega)).mono ?_
    rintro e w2 ⟨rfl, hl⟩
    obtain ⟨H2, hcc, hff, hzz2⟩ := later_facts (show Later w1 w2 from hl); clear hl
    have c0 : w2.cell? ⟨w.heap.size, 0, none⟩ = some (.int .i64 B) := by rw [hcc _ _ (by omega)]; exact q0
    have c1 : w2.cell? ⟨w.heap.size, 1, none⟩ = some (.slice a n cap) := by rw [hcc _ _ (by omega)]; exact q1
    have HG2 : Hid (Later w w2) := Lib.hid (HG1.out.trans H2.out)
    have hT0 : tx (Lib.decDigits B.toNat) = tx (txK B l 0) := by rw [txK_0, itoa_nn B (by omega)]
    clear hcc hff q0 q1 H2 HG1
    go_wp2_with fail
    go_loopw [3, 4] (fun v i wr => ∃ k : Nat, k ≤ n ∧ i = .int .i64 k ∧ v = .string (tx (txK B l k)) ∧ wr.cell? ⟨w.heap.size, 0, none⟩ = some (.int .i64 B) ∧ wr.cell? ⟨w.heap.size, 1, none⟩ = some (.slice a n cap) ∧ Later w wr) (fun _ i _ => n - (intOf i).toNat)
    case atStart => exact ⟨0, by omega, rfl, rfl, c0, c1, HG2.out⟩
    case round =>
      clear HG2 hT0 c0 c1
      obtain ⟨k, hk, rfl, rfl, q0, q1, hg⟩ := hrel
      have HG := Lib.hid hg
      clear hg
      by_cases hlt : k < n
      · obtain ⟨b, off, rfl, hc⟩ := (sl_later HS.out HG.out).at k hlt
        obtain ⟨p1, p2⟩ := plB_at HP.out k (by rw [HL.out]; exact hlt)
        have HN := Lib.hid (txK_succ B l k (by rw [HL.out]; exact hlt))
        have hlen := txK_len b1 b2 HP.out k (by rw [HL.out]; exact hk)
        obtain ⟨p, hpe⟩ : ∃ p, p = gx l k := ⟨_, rfl⟩
        rw [← hpe] at hc p1 p2 HN
        have m0 : 0 ≤ p / 3 := by omega
        have hm : p % 3 = 0 ∨ p % 3 = 1 ∨ p % 3 = 2 := by omega
        obtain ⟨T, hT⟩ : ∃ T, T = txK B l k := ⟨_, rfl⟩
        rw [← hT] at HN hlen ⊢
        have e1 : IntKind.i64.wrap (p.tdiv 3) = p / 3 := by rw [Int.tdiv_eq_ediv_of_nonneg p1, IntWalk.i64_in _ (by omega)]
        have e2 : p.tmod 3 = p % 3 := Int.tmod_eq_emod_of_nonneg p1
        obtain ⟨tb, htb⟩ : ∃ tb, tb = tx T := ⟨_, rfl⟩
        obtain ⟨db, hdb⟩ : ∃ db, db = tx (Lib.itoa (p / 3)) := ⟨_, rfl⟩
        have hdl : db.size ≤ 22 := by rw [hdb, tx_size]; exact itoa_len _ (by omega) (by omega)
        have hTl : tb.size ≤ 1000 := by rw [htb, tx_size]; omega
        have hz1 : ¬ 9223372036854775807 < tb.size + 1 := by omega
        have hz2 : ¬ 9223372036854775807 < tb.size + 1 + db.size := by omega
        have hz3 : ¬ 9223372036854775807 < tb.size + 1 + db.size + 1 := by omega
        have DEC : Hid (∀ W, Calls Tryd.prog 34 #[.int .i64 (p / 3)] W (fun e w' => e = .returned (.string db) ∧ Later W w')) := Lib.hid (fun W => (s_Dec 100 (p / 3) W (by omega) (by omega) (by omega)).mono (fun e w' h => ⟨by rw [h.1, hdb, itoa_nn _ m0], h.2⟩))
        have HTB := Lib.hid htb; have HDB := Lib.hid hdb
        rw [← htb]
        clear htb hdb
        have hcb := cell_lt hc
        have hw0 := cell_lt q0
        clear hpe hT
        have KS : Hid (∀ W', Later wr W' → W'.cell? ⟨w.heap.size, 0, none⟩ = some (.int .i64 B) ∧ W'.cell? ⟨w.heap.size, 1, none⟩ = some (.slice (some ⟨b, off, none⟩) n cap) ∧ W'.cell? ⟨b, off + k, none⟩ = some (.int .i64 p)) := Lib.hid (fun W' h => ⟨by rw [h.cell (p := ⟨w.heap.size, 0, none⟩) (cell_lt q0)]; exact q0, by rw [h.cell (p := ⟨w.heap.size, 1, none⟩) (cell_lt q1)]; exact q1, by rw [h.cell (p := ⟨b, off + k, none⟩) hcb]; exact hc⟩)
        obtain ⟨r, hr⟩ := Int.eq_ofNat_of_zero_le (show 0 ≤ p % 3 by omega)
        have hr3 : r < 3 := by omega
        have hr3i : (r : Int) < 3 := by omega
        obtain ⟨cb, hcb'⟩ : ∃ cb, cb = tx [chP (p % 3)] := ⟨_, rfl⟩
        have CL : ∀ W : World, (W.alloc (.cells #[.string ⟨#[114]⟩, .string ⟨#[104]⟩, .string ⟨#[99]⟩] 9)).cell? ⟨W.heap.size, r, none⟩ = some (.string cb) := fun W => by
          have h3 : r = 0 ∨ r = 1 ∨ r = 2 := by omega
          rcases h3 with rfl | rfl | rfl
          · rw [hcb', hr]; exact cl_newB _ _ _ _ _ rfl
          · rw [hcb', hr]; exact cl_newB _ _ _ _ _ rfl
          · rw [hcb', hr]; exact cl_newB _ _ _ _ _ rfl
        have hcs : cb.size = 1 := by rw [hcb']; rfl
        have hz4 : ¬ 9223372036854775807 < tb.size + 1 + db.size + cb.size := by omega
        have HW : Hid (wdP p = Lib.itoa (p / 3) ++ [chP (p % 3)]) := Lib.hid rfl
        have HV := Lib.hid (show tx (txK B l (k + 1)) = _ from by rw [HN.out, HW.out, ← List.append_assoc, ← tx_app, ← tx_app, ← tx_app, ← HTB.out, ← HDB.out, ← hcb'])
        rw [hr] at e2
        clear hm hcb' hr
        go_wp2_with fail
        go_region_law (first
          | (go_simp; go_at_call 34; refine (DEC.out _).mono ?_; rintro e w4 ⟨rfl, hb4⟩; obtain ⟨H4, hcc, hff, hzz⟩ := later_facts hb4; obtain ⟨r0, r1, r2⟩ := KS.out w4 (show Later wr w4 from (by repeat (first | (with_reducible exact Later.refl _) | (with_reducible exact Hid.out (by assumption)) | (with_reducible refine Later.alloc ?_ _) | (with_reducible refine Later.setCell ?_ (by simp; omega) _) | (with_reducible refine Later.setCell ?_ (by simp) _) | (with_reducible refine Later.drewN ?_ _) | (with_reducible refine Later.drew ?_) | (with_reducible refine Later.trans ?_ (Hid.out (by assumption)))))); have y0 := cell_lt r0; have y2 := cell_lt r2; clear hb4))
        all_goals
          go_wp2_with fail
          go_roundw
          case rel => exact ⟨k + 1, by omega, by go_num, by rw [HV.out]; rfl, (KS.out _ (show Later wr _ from (by repeat (first | (with_reducible exact Later.refl _) | (with_reducible exact Hid.out (by assumption)) | (with_reducible refine Later.alloc ?_ _) | (with_reducible refine Later.setCell ?_ (by simp; omega) _) | (with_reducible refine Later.setCell ?_ (by simp) _) | (with_reducible refine Later.drewN ?_ _) | (with_reducible refine Later.drew ?_) | (with_reducible refine Later.trans ?_ (Hid.out (by assumption))))))).1, (KS.out _ (show Later wr _ from (by repeat (first | (with_reducible exact Later.refl _) | (with_reducible exact Hid.out (by assumption)) | (with_reducible refine Later.alloc ?_ _) | (with_reducible refine Later.setCell ?_ (by simp; omega) _) | (with_reducible refine Later.setCell ?_ (by simp) _) | (with_reducible refine Later.drewN ?_ _) | (with_reducible refine Later.drew ?_) | (with_reducible refine Later.trans ?_ (Hid.out (by assumption))))))).2.1, HG.out.trans (show Later wr _ from (by repeat (first | (with_reducible exact Later.refl _) | (with_reducible exact Hid.out (by assumption)) | (with_reducible refine Later.alloc ?_ _) | (with_reducible refine Later.setCell ?_ (by simp; omega) _) | (with_reducible refine Later.setCell ?_ (by simp) _) | (with_reducible refine Later.drewN ?_ _) | (with_reducible refine Later.drew ?_) | (with_reducible refine Later.trans ?_ (Hid.out (by assumption))))))⟩
          case measure => simp [intOf]; omega
      · obtain rfl : k = n := by omega
        go_wp2_with fail
        go_ret
        exact ⟨by rw [HX.out, HL.out]; rfl, HG.out⟩
end Go.Proofs.YtdaihpkjnigjgaaDoor
