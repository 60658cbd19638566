/- Contracts of chapter 11: faults and reports, of the model. -/
import Derived.Test.YtpeebgkgccacbaaIkJ
import Derived.Test.YtpeebgkgccacbaaTfS
namespace Go.Proofs.Ytpeebgkgccacbaa
open Go.RowKit
set_option maxHeartbeats 4000000
set_option maxRecDepth 100000
set_option linter.unusedVariables false
set_option linter.unusedSimpArgs false
theorem s_l11Number (B : Int) (w : World) : Calls Try.prog 38 #[.int .i64 B] w fun e w' => e = .returned (.bool (nbB B)) ∧ w = w' := by
  have HN : Hid ((decide (2 ≤ B) && decide (B ≤ 8)) = nbB B) := Lib.hid rfl
  go_enter Try.func38, Try.ntmps38
  go_wp2_with (go_at_call 39; refine (s_In _ _ _ _).mono ?_; rintro e w' ⟨rfl, rfl⟩)
  go_ret
  exact ⟨ret_b (by rw [← HN.out]), rfl⟩
theorem keep2 {W : World} {b : Nat} {x y : Value} (q0 : W.cell? ⟨b, 0, none⟩ = some x) (q1 : W.cell? ⟨b, 1, none⟩ = some y) : ∀ W', Later W W' → W'.cell? ⟨b, 0, none⟩ = some x ∧ W'.cell? ⟨b, 1, none⟩ = some y := fun W' h => ⟨by rw [h.cell (p := ⟨b, 0, none⟩) (cell_lt q0)]; exact q0, by rw [h.cell (p := ⟨b, 1, none⟩) (cell_lt q0)]; exact q1⟩
theorem s_AreFaults (B : Int) (hB : InR B) (a : Option Addr) (n cap : Nat) (l : List Int) (w : World) (hs : Wd w a n 3 l) :
    Calls Try.prog 29 #[.int .i64 B, .slice a n cap] w fun e w' => e = .returned (.bool (ikA B n l)) ∧ Later w w' := by
  have HS := Lib.hid hs
  have hn := hs.2.1
  clear hs
  obtain ⟨M, hM⟩ : ∃ M, IntKind.i64.wrap (B - 1) = M := ⟨_, rfl⟩
  have HA : Hid ((ikKs M l n && (nbB B && decide (n ≤ 8))) = ikA B n l) := Lib.hid (ikA_ms B M n l (fun h => by
    obtain ⟨b1, b2⟩ := (nbB_iff B).1 h
    rw [← hM, IntWalk.i64_in _ (by omega)]))
  go_enter Try.func29, Try.ntmps29
  go_wp2_with fail
  go_loopw [5] (fun i wr => ∃ k : Nat, k ≤ n ∧ i = .int .i64 k ∧ ikKs M l k = true ∧ Later w wr) (fun i _ => n - (intOf i).toNat)
  case atStart => exact ⟨0, by omega, rfl, rfl, Later.refl _⟩
  case round =>
    obtain ⟨k, hk, rfl, hp, hg⟩ := hrel
    have HP := Lib.hid hp; have HG := Lib.hid hg
    clear hp hg
    by_cases hlt : k < n
    · obtain ⟨b', off, rfl, c0, c1, c2⟩ := (HS.out.later HG.out).three k hlt
      have hcb := cell_lt c0
      have HN := Lib.hid (ikKs_succ M l k)
      have HB : Hid ((ikFs M (ikb l k) (ikc l k) (ikv l k) && !ikS l k (ikb l k) (ikc l k)) = false → ikA B n l = false) := Lib.hid (fun h => by rw [← HA.out, ikKs_no hlt h]; rfl)
      obtain ⟨x, hx⟩ : ∃ x, x = ikb l k := ⟨_, rfl⟩
      obtain ⟨y, hy⟩ : ∃ x, x = ikc l k := ⟨_, rfl⟩
      obtain ⟨z, hz⟩ : ∃ x, x = ikv l k := ⟨_, rfl⟩
      rw [← hx, ← hy, ← hz] at HN HB
      rw [← hx] at c0
      rw [← hy] at c1
      rw [← hz] at c2
      clear hx hy hz
      cases e1 : (decide (0 ≤ x) && decide (x ≤ M))
      · have HQ : Hid (ikA B n l = false) := Lib.hid (HB.out (by unfold ikFs; rw [e1]; rfl))
        have E1 := Lib.hid e1
        clear HN HB e1
        go_wp2_with (go_at_call 39; refine (s_In _ _ _ _).mono ?_; rintro e w' ⟨rfl, rfl⟩; rw [E1.out])
        go_ret
        exact ⟨ret_b (by rw [HQ.out]), (by repeat (first | (with_reducible exact Later.refl _) | (with_reducible exact Hid.out (by assumption)) | (with_reducible refine Later.alloc ?_ _) | (with_reducible refine Later.setCell ?_ (by simp; omega) _) | (with_reducible refine Later.setCell ?_ (by simp) _) | (with_reducible refine Later.drewN ?_ _) | (with_reducible refine Later.drew ?_) | (with_reducible refine Later.trans ?_ (Hid.out (by assumption)))))⟩
      · cases e2 : (decide (0 ≤ y) && decide (y ≤ 1))
        · have HQ : Hid (ikA B n l = false) := Lib.hid (HB.out (by unfold ikFs; rw [e1, e2]; rfl))
          have E1 := Lib.hid e1; have E2 := Lib.hid e2
          clear HN HB e1 e2
          go_wp2_with (go_at_call 39; refine (s_In _ _ _ _).mono ?_; rintro e w' ⟨rfl, rfl⟩; first | rw [E1.out] | rw [E2.out])
          go_ret
          exact ⟨ret_b (by rw [HQ.out]), (by repeat (first | (with_reducible exact Later.refl _) | (with_reducible exact Hid.out (by assumption)) | (with_reducible refine Later.alloc ?_ _) | (with_reducible refine Later.setCell ?_ (by simp; omega) _) | (with_reducible refine Later.setCell ?_ (by simp) _) | (with_reducible refine Later.drewN ?_ _) | (with_reducible refine Later.drew ?_) | (with_reducible refine Later.trans ?_ (Hid.out (by assumption)))))⟩
        · cases e3 : (decide (0 ≤ z) && decide (z ≤ 1))
          · have HQ : Hid (ikA B n l = false) := Lib.hid (HB.out (by unfold ikFs; rw [e1, e2, e3]; rfl))
            have E1 := Lib.hid e1; have E2 := Lib.hid e2; have E3 := Lib.hid e3
            clear HN HB e1 e2 e3
            go_wp2_with (go_at_call 39; refine (s_In _ _ _ _).mono ?_; rintro e w' ⟨rfl, rfl⟩; first | rw [E1.out] | rw [E2.out] | rw [E3.out])
            go_ret
            exact ⟨ret_b (by rw [HQ.out]), (by repeat (first | (with_reducible exact Later.refl _) | (with_reducible exact Hid.out (by assumption)) | (with_reducible refine Later.alloc ?_ _) | (with_reducible refine Later.setCell ?_ (by simp; omega) _) | (with_reducible refine Later.setCell ?_ (by simp) _) | (with_reducible refine Later.drewN ?_ _) | (with_reducible refine Later.drew ?_) | (with_reducible refine Later.trans ?_ (Hid.out (by assumption)))))⟩
          · have HF1 : Hid (ikFs M x y z = true) := Lib.hid (by unfold ikFs; rw [e1, e2, e3]; rfl)
            have E1 := Lib.hid e1; have E2 := Lib.hid e2; have E3 := Lib.hid e3
            clear e1 e2 e3
            go_wp2_with (go_at_call 39; refine (s_In _ _ _ _).mono ?_; rintro e w' ⟨rfl, rfl⟩; first | rw [E1.out] | rw [E2.out] | rw [E3.out])
            go_loopw [7] (fun i wq => ∃ j : Nat, j ≤ k ∧ i = .int .i64 j ∧ ikS l j x y = false ∧ wq.cell? ⟨wr.heap.size, 0, none⟩ = some (.int .i64 x) ∧ wq.cell? ⟨wr.heap.size, 1, none⟩ = some (.int .i64 y) ∧ Later wr wq) (fun i _ => k - (intOf i).toNat)
            case atStart => exact ⟨0, by omega, rfl, rfl, by simp, by simp, (by repeat (first | (with_reducible exact Later.refl _) | (with_reducible exact Hid.out (by assumption)) | (with_reducible refine Later.alloc ?_ _) | (with_reducible refine Later.setCell ?_ (by simp; omega) _) | (with_reducible refine Later.setCell ?_ (by simp) _) | (with_reducible refine Later.drewN ?_ _) | (with_reducible refine Later.drew ?_) | (with_reducible refine Later.trans ?_ (Hid.out (by assumption)))))⟩
            case round =>
              obtain ⟨j, hj, rfl, hp, q0, q1, hg⟩ := hrel
              have HPJ := Lib.hid hp; have HGJ := Lib.hid hg
              clear hp hg
              by_cases hjl : j < k
              · obtain ⟨b2, off2, eb, d0, d1, d2⟩ := (HS.out.later (HG.out.trans HGJ.out)).three j (by omega)
                cases eb
                have hq0 := cell_lt q0
                have hd0 := cell_lt d0
                have HNJ := Lib.hid (ikS_succ l j x y)
                have HBJ : Hid ((ikb l j == x && ikc l j == y) = true → ikA B n l = false) := Lib.hid (fun h => HB.out (by rw [ikS_hit hjl h]; simp))
                have hj1 : (0 : Int) ≤ j := by omega
                have hj2 : (j : Int) < n := by omega
                obtain ⟨x2, hx2⟩ : ∃ x, x = ikb l j := ⟨_, rfl⟩
                obtain ⟨y2, hy2⟩ : ∃ x, x = ikc l j := ⟨_, rfl⟩
                rw [← hx2, ← hy2] at HNJ HBJ
                rw [← hx2] at d0
                rw [← hy2] at d1
                clear hx2 hy2
                have KJ := Lib.hid (keep2 q0 q1)
                cases g1 : (x2 == x)
                · have HQ : Hid (ikS l (j + 1) x y = false) := Lib.hid (by rw [HNJ.out, HPJ.out, g1]; rfl)
                  clear HNJ HBJ
                  go_wp2_with fail
                  go_quiet (fail)
                  go_wp2_with fail
                  go_roundw
                  case rel => exact ⟨j + 1, by omega, by go_num, HQ.out, (KJ.out _ (by repeat (first | (with_reducible exact Later.refl _) | (with_reducible exact Hid.out (by assumption)) | (with_reducible refine Later.alloc ?_ _) | (with_reducible refine Later.setCell ?_ (by simp; omega) _) | (with_reducible refine Later.setCell ?_ (by simp) _) | (with_reducible refine Later.drewN ?_ _) | (with_reducible refine Later.drew ?_) | (with_reducible refine Later.trans ?_ (Hid.out (by assumption)))))).1, (KJ.out _ (by repeat (first | (with_reducible exact Later.refl _) | (with_reducible exact Hid.out (by assumption)) | (with_reducible refine Later.alloc ?_ _) | (with_reducible refine Later.setCell ?_ (by simp; omega) _) | (with_reducible refine Later.setCell ?_ (by simp) _) | (with_reducible refine Later.drewN ?_ _) | (with_reducible refine Later.drew ?_) | (with_reducible refine Later.trans ?_ (Hid.out (by assumption)))))).2, (by repeat (first | (with_reducible exact Later.refl _) | (with_reducible exact Hid.out (by assumption)) | (with_reducible refine Later.alloc ?_ _) | (with_reducible refine Later.setCell ?_ (by simp; omega) _) | (with_reducible refine Later.setCell ?_ (by simp) _) | (with_reducible refine Later.drewN ?_ _) | (with_reducible refine Later.drew ?_) | (with_reducible refine Later.trans ?_ (Hid.out (by assumption)))))⟩
                  case measure => simp [intOf]; omega
                · cases g2 : (y2 == y)
                  · have HQ : Hid (ikS l (j + 1) x y = false) := Lib.hid (by rw [HNJ.out, HPJ.out, g2]; simp)
                    clear HNJ HBJ
                    go_wp2_with fail
                    go_quiet (fail)
                    go_wp2_with fail
                    go_roundw
                    case rel => exact ⟨j + 1, by omega, by go_num, HQ.out, (KJ.out _ (by repeat (first | (with_reducible exact Later.refl _) | (with_reducible exact Hid.out (by assumption)) | (with_reducible refine Later.alloc ?_ _) | (with_reducible refine Later.setCell ?_ (by simp; omega) _) | (with_reducible refine Later.setCell ?_ (by simp) _) | (with_reducible refine Later.drewN ?_ _) | (with_reducible refine Later.drew ?_) | (with_reducible refine Later.trans ?_ (Hid.out (by assumption)))))).1, (KJ.out _ (by repeat (first | (with_reducible exact Later.refl _) | (with_reducible exact Hid.out (by assumption)) | (with_reducible refine Later.alloc ?_ _) | (with_reducible refine Later.setCell ?_ (by simp; omega) _) | (with_reducible refine Later.setCell ?_ (by simp) _) | (with_reducible refine Later.drewN ?_ _) | (with_reducible refine Later.drew ?_) | (with_reducible refine Later.trans ?_ (Hid.out (by assumption)))))).2, (by repeat (first | (with_reducible exact Later.refl _) | (with_reducible exact Hid.out (by assumption)) | (with_reducible refine Later.alloc ?_ _) | (with_reducible refine Later.setCell ?_ (by simp; omega) _) | (with_reducible refine Later.setCell ?_ (by simp) _) | (with_reducible refine Later.drewN ?_ _) | (with_reducible refine Later.drew ?_) | (with_reducible refine Later.trans ?_ (Hid.out (by assumption)))))⟩
                    case measure => simp [intOf]; omega
                  · have HQ : Hid (ikA B n l = false) := Lib.hid (HBJ.out (by rw [g1, g2]; rfl))
                    clear HNJ HBJ
                    go_wp2_with fail
                    go_quiet (fail)
                    go_wp2_with fail
                    go_ret
                    exact ⟨ret_b (by rw [HQ.out]), (by repeat (first | (with_reducible exact Later.refl _) | (with_reducible exact Hid.out (by assumption)) | (with_reducible refine Later.alloc ?_ _) | (with_reducible refine Later.setCell ?_ (by simp; omega) _) | (with_reducible refine Later.setCell ?_ (by simp) _) | (with_reducible refine Later.drewN ?_ _) | (with_reducible refine Later.drew ?_) | (with_reducible refine Later.trans ?_ (Hid.out (by assumption)))))⟩
              · obtain rfl : j = k := by omega
                have HQ : Hid (ikKs M l (j + 1) = true) := Lib.hid (by rw [HN.out, HP.out, HF1.out, HPJ.out]; rfl)
                go_wp2_with fail
                go_roundw
                case rel => exact ⟨j + 1, by omega, by go_num, HQ.out, (by repeat (first | (with_reducible exact Later.refl _) | (with_reducible exact Hid.out (by assumption)) | (with_reducible refine Later.alloc ?_ _) | (with_reducible refine Later.setCell ?_ (by simp; omega) _) | (with_reducible refine Later.setCell ?_ (by simp) _) | (with_reducible refine Later.drewN ?_ _) | (with_reducible refine Later.drew ?_) | (with_reducible refine Later.trans ?_ (Hid.out (by assumption)))))⟩
                case measure => simp [intOf]; omega
    · obtain rfl : k = n := by omega
      have HV : Hid ((nbB B && decide (k ≤ 8)) = ikA B k l) := Lib.hid (by rw [← HA.out, HP.out]; rfl)
      cases hb : nbB B
      · have HNB := Lib.hid hb
        clear hb
        go_wp2_with (go_at_call 38; refine (s_l11Number _ _).mono ?_; rintro e w' ⟨rfl, rfl⟩; rw [HNB.out])
        go_ret
        exact ⟨ret_b (by rw [← HV.out, HNB.out]; rfl), HG.out⟩
      · have HNB := Lib.hid hb
        clear hb
        go_wp2_with (go_at_call 38; refine (s_l11Number _ _).mono ?_; rintro e w' ⟨rfl, rfl⟩; rw [HNB.out])
        go_ret
        exact ⟨ret_b (by rw [← HV.out, HNB.out, Bool.eq_iff_iff]; simp; omega), HG.out⟩
theorem ikR_in (v : Int) : (decide (0 ≤ v) && decide (v ≤ 1)) = ikR v := by
  rw [Bool.eq_iff_iff, ikR_iff]; simp; omega
end Go.Proofs.Ytpeebgkgccacbaa
