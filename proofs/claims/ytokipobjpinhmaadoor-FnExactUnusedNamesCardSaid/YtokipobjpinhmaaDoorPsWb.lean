/- The laws' helpers on programs: equality. -/
import Derived.Test.YtokipobjpinhmaaDoorPsWa
namespace Go.Proofs.YtokipobjpinhmaaDoor
open Go.RowKit Go.Shelf
set_option maxHeartbeats 8000000
set_option maxRecDepth 100000
set_option linter.unusedVariables false
set_option linter.unusedSimpArgs false
theorem l_eqStringS_same (a b : Option Addr) (n cap m cap' : Nat) (W : List (List UInt8)) (w : World) (hs : Sts w a n W) (ht : Sts w b m W) :
    Calls Tryd.prog 33 #[.slice a n cap, .slice b m cap'] w fun e w' => e = .returned (.bool true) ∧ Later w w' := by
  have hn := hs.1; have hm := ht.1
  obtain rfl : n = m := by omega
  have HS := Lib.hid hs; have HT := Lib.hid ht
  have hn' := hs.2.1
  clear hs ht hm hn
  have e0 : ((n : Int) != (n : Int)) = false := by simp
  go_enter Tryd.func33, Tryd.ntmps33
  go_wp2
  go_loopw [5] (fun i wr => ∃ k : Nat, k ≤ n ∧ i = .int .i64 k ∧ Later w wr) (fun i _ => n - (intOf i).toNat)
  case atStart => exact ⟨0, by omega, rfl, Later.refl _⟩
  case round =>
    obtain ⟨k, hk, rfl, hlw⟩ := hrel
    have HW := Lib.hid hlw
    clear hlw
    by_cases hlt : k < n
    · obtain ⟨b1, o1, rfl, c1⟩ := (HS.out.later HW.out).at k hlt
      obtain ⟨b2, o2, rfl, d1⟩ := (HT.out.later HW.out).at k hlt
      obtain ⟨y, hy⟩ : ∃ y, y = tx (wx W k) := ⟨_, rfl⟩
      rw [← hy] at c1 d1
      have e9 : (y.toList != y.toList) = false := by simp
      clear hy
      go_wp2_with fail
      go_region_held3 (fun w' => w'.cell? ⟨b1, o1 + k, none⟩ = some (.string y) ∧ w'.cell? ⟨b2, o2 + k, none⟩ = some (.string y)) (exact ⟨c1, d1⟩) (fail)
      go_wp2
      go_roundw
      case rel => exact ⟨k + 1, by omega, by go_num, (by repeat (first | (with_reducible exact Later.refl _) | (with_reducible exact Hid.out (by assumption)) | (with_reducible refine Later.alloc ?_ _) | (with_reducible refine Later.setCell ?_ (by simp; omega) _) | (with_reducible refine Later.setCell ?_ (by simp) _) | (with_reducible refine Later.drewN ?_ _) | (with_reducible refine Later.drew ?_) | (with_reducible refine Later.trans ?_ (Hid.out (by assumption)))))⟩
      case measure => simp [intOf]; omega
    · obtain rfl : k = n := by omega
      go_wp2
      go_ret
      exact ⟨rfl, HW.out⟩
theorem l_eqLine_same (t : List UInt8) (a b : Option Addr) (n cap cap' : Nat) (L : List Trm) (w : World) (hs : Trs w a n L) (ht : Trs w b n L) :
    Calls Tryd.prog 105 #[.agg #[.string (tx t), .slice a n cap], .agg #[.string (tx t), .slice b n cap']] w fun e w' => e = .returned (.bool true) ∧ Later w w' := by
  have HS := Lib.hid hs; have HT := Lib.hid ht
  clear hs ht
  obtain ⟨s, hs⟩ : ∃ s, s = tx t := ⟨_, rfl⟩
  rw [← hs]
  have e9 : (s.toList != s.toList) = false := by simp
  clear hs
  go_enter Tryd.func105, Tryd.ntmps105
  go_wp2_with fail
  refine (l_eqTermS_same a b n cap n cap' L _ (HS.out.later (by repeat (first | (with_reducible exact Later.refl _) | (with_reducible exact Hid.out (by assumption)) | (with_reducible refine Later.alloc ?_ _) | (with_reducible refine Later.setCell ?_ (by simp; omega) _) | (with_reducible refine Later.setCell ?_ (by simp) _) | (with_reducible refine Later.drewN ?_ _) | (with_reducible refine Later.drew ?_) | (with_reducible refine Later.trans ?_ (Hid.out (by assumption)))))) (HT.out.later (by repeat (first | (with_reducible exact Later.refl _) | (with_reducible exact Hid.out (by assumption)) | (with_reducible refine Later.alloc ?_ _) | (with_reducible refine Later.setCell ?_ (by simp; omega) _) | (with_reducible refine Later.setCell ?_ (by simp) _) | (with_reducible refine Later.drewN ?_ _) | (with_reducible refine Later.drew ?_) | (with_reducible refine Later.trans ?_ (Hid.out (by assumption))))))).mono ?_
  rintro e w1 ⟨rfl, hb⟩
  have HB : Hid (Later w w1) := Lib.hid (Later.trans (by repeat (first | (with_reducible exact Later.refl _) | (with_reducible exact Hid.out (by assumption)) | (with_reducible refine Later.alloc ?_ _) | (with_reducible refine Later.setCell ?_ (by simp; omega) _) | (with_reducible refine Later.setCell ?_ (by simp) _) | (with_reducible refine Later.drewN ?_ _) | (with_reducible refine Later.drew ?_) | (with_reducible refine Later.trans ?_ (Hid.out (by assumption))))) hb)
  clear hb
  go_wp2_with fail
  go_ret
  exact ⟨rfl, HB.out⟩
theorem l_eqLineS_same (a b : Option Addr) (n cap m cap' : Nat) (M : List Lne) (w : World) (hs : Lns w a n M) (ht : Lns w b m M) :
    Calls Tryd.prog 65 #[.slice a n cap, .slice b m cap'] w fun e w' => e = .returned (.bool true) ∧ Later w w' := by
  have hn := hs.1; have hm := ht.1
  obtain rfl : n = m := by omega
  have HS := Lib.hid hs; have HT := Lib.hid ht
  have hn' := hs.2.1
  clear hs ht hm hn
  have e0 : ((n : Int) != (n : Int)) = false := by simp
  go_enter Tryd.func65, Tryd.ntmps65
  go_wp2
  go_loopw [5] (fun i wr => ∃ k : Nat, k ≤ n ∧ i = .int .i64 k ∧ Later w wr) (fun i _ => n - (intOf i).toNat)
  case atStart => exact ⟨0, by omega, rfl, Later.refl _⟩
  case round =>
    obtain ⟨k, hk, rfl, hlw⟩ := hrel
    have HW := Lib.hid hlw
    clear hlw
    by_cases hlt : k < n
    · obtain ⟨b1, o1, ta, tc, rfl, c1, c2, c3⟩ := (HS.out.later HW.out).2.2.1 k hlt
      obtain ⟨b2, o2, ua, uc, rfl, d1, d2, d3⟩ := (HT.out.later HW.out).2.2.1 k hlt
      have C3 := Lib.hid c3; have D3 := Lib.hid d3
      have EQ := Lib.hid (fun W h1 h2 => l_eqLine_same (ltx M k) ta ua (lrx M k).length tc uc (lrx M k) W h1 h2)
      obtain ⟨y, hy⟩ : ∃ y, y = tx (ltx M k) := ⟨_, rfl⟩
      obtain ⟨q, hq⟩ : ∃ q, q = (lrx M k).length := ⟨_, rfl⟩
      rw [← hy] at c1 d1 EQ; rw [← hq] at c2 d2 C3 D3 EQ
      have C := Lib.hid c1; have C' := Lib.hid c2; have D := Lib.hid d1; have D' := Lib.hid d2
      have KL : Hid (∀ W', Later wr W' → W'.cell? ⟨b1, o1 + k * 2, none⟩ = some (.string y) ∧ W'.cell? ⟨b1, o1 + k * 2 + 1, none⟩ = some (.slice ta q tc) ∧ W'.cell? ⟨b2, o2 + k * 2, none⟩ = some (.string y) ∧ W'.cell? ⟨b2, o2 + k * 2 + 1, none⟩ = some (.slice ua q uc)) := Lib.hid (fun W' h => ⟨by rw [h.cell (p := ⟨b1, o1 + k * 2, none⟩) (cell_lt C.out)]; exact C.out, by rw [h.cell (p := ⟨b1, o1 + k * 2 + 1, none⟩) (cell_lt C.out)]; exact C'.out, by rw [h.cell (p := ⟨b2, o2 + k * 2, none⟩) (cell_lt D.out)]; exact D.out, by rw [h.cell (p := ⟨b2, o2 + k * 2 + 1, none⟩) (cell_lt D.out)]; exact D'.out⟩)
      have RL := Lib.hid (Later.refl wr)
      clear hy hq c3 d3
      go_wp2_with fail
      go_region_held3 (fun w' => w'.cell? ⟨b1, o1 + k * 2, none⟩ = some (.string y) ∧ w'.cell? ⟨b1, o1 + k * 2 + 1, none⟩ = some (.slice ta q tc) ∧ w'.cell? ⟨b2, o2 + k * 2, none⟩ = some (.string y) ∧ w'.cell? ⟨b2, o2 + k * 2 + 1, none⟩ = some (.slice ua q uc)) (exact KL.out _ (by repeat (first | (with_reducible exact Later.refl _) | (with_reducible exact Hid.out (by assumption)) | (with_reducible refine Later.alloc ?_ _) | (with_reducible refine Later.setCell ?_ (by simp; omega) _) | (with_reducible refine Later.setCell ?_ (by simp) _) | (with_reducible refine Later.drewN ?_ _) | (with_reducible refine Later.drew ?_) | (with_reducible refine Later.trans ?_ (Hid.out (by assumption))))))
        (first | (go_at_call 105; refine (EQ.out _ (C3.out.later (by repeat (first | (with_reducible exact Later.refl _) | (with_reducible exact Hid.out (by assumption)) | (with_reducible refine Later.alloc ?_ _) | (with_reducible refine Later.setCell ?_ (by simp; omega) _) | (with_reducible refine Later.setCell ?_ (by simp) _) | (with_reducible refine Later.drewN ?_ _) | (with_reducible refine Later.drew ?_) | (with_reducible refine Later.trans ?_ (Hid.out (by assumption)))))) (D3.out.later (by repeat (first | (with_reducible exact Later.refl _) | (with_reducible exact Hid.out (by assumption)) | (with_reducible refine Later.alloc ?_ _) | (with_reducible refine Later.setCell ?_ (by simp; omega) _) | (with_reducible refine Later.setCell ?_ (by simp) _) | (with_reducible refine Later.drewN ?_ _) | (with_reducible refine Later.drew ?_) | (with_reducible refine Later.trans ?_ (Hid.out (by assumption))))))).mono ?_; rintro e w1 ⟨rfl, hb1⟩; have H1 := Lib.hid hb1; clear hb1))
      all_goals
        go_wp2
        go_roundw
        case rel => exact ⟨k + 1, by omega, by go_num, (by repeat (first | (with_reducible exact Later.refl _) | (with_reducible exact Hid.out (by assumption)) | (with_reducible refine Later.alloc ?_ _) | (with_reducible refine Later.setCell ?_ (by simp; omega) _) | (with_reducible refine Later.setCell ?_ (by simp) _) | (with_reducible refine Later.drewN ?_ _) | (with_reducible refine Later.drew ?_) | (with_reducible refine Later.trans ?_ (Hid.out (by assumption)))))⟩
        case measure => simp [intOf]; omega
    · obtain rfl : k = n := by omega
      go_wp2
      go_ret
      exact ⟨rfl, HW.out⟩
theorem l_eqProgram_same (u v : Value) (p : Prg) (w : World) (hu : PgV w u p) (hv : PgV w v p) :
    Calls Tryd.prog 26 #[u, v] w fun e w' => e = .returned (.bool true) ∧ Later w w' := by
  obtain ⟨a1, ac1, a2, ac2, a3, ac3, a4, ac4, rfl, h1, h2, h3, h4, _, _⟩ := hu
  obtain ⟨b1, bc1, b2, bc2, b3, bc3, b4, bc4, rfl, g1, g2, g3, g4, _, _⟩ := hv
  have P1 := Lib.hid h1; have P2 := Lib.hid h2; have P3 := Lib.hid h3; have P4 := Lib.hid h4
  have Q1 := Lib.hid g1; have Q2 := Lib.hid g2; have Q3 := Lib.hid g3; have Q4 := Lib.hid g4
  clear h1 h2 h3 h4 g1 g2 g3 g4
  obtain ⟨s0, hs0⟩ : ∃ q, q = tx p.nm := ⟨_, rfl⟩
  obtain ⟨s4, hs4⟩ : ∃ q, q = tx p.grd := ⟨_, rfl⟩
  obtain ⟨n1, hn1⟩ : ∃ q, q = p.ins.length := ⟨_, rfl⟩
  obtain ⟨n2, hn2⟩ : ∃ q, q = p.vrs.length := ⟨_, rfl⟩
  obtain ⟨n3, hn3⟩ : ∃ q, q = p.outs.length := ⟨_, rfl⟩
  obtain ⟨n4, hn4⟩ : ∃ q, q = p.lns.length := ⟨_, rfl⟩
  rw [← hn1] at P1 Q1; rw [← hn2] at P2 Q2; rw [← hn3] at P3 Q3; rw [← hn4] at P4 Q4
  rw [← hs0, ← hs4, ← hn1, ← hn2, ← hn3, ← hn4]
  have e0 : (s0.toList != s0.toList) = false := by simp
  have e4 : (s4.toList != s4.toList) = false := by simp
  clear hs0 hs4 hn1 hn2 hn3 hn4
  have f0 : Fr (w.heap.size) [.string s0, .slice a1 n1 ac1, .slice a2 n2 ac2, .slice a3 n3 ac3, .string s4, .slice a4 n4 ac4] (w.alloc (.cells #[.string s0, .slice a1 n1 ac1, .slice a2 n2 ac2, .slice a3 n3 ac3, .string s4, .slice a4 n4 ac4] 27)) := frP_new w [.string s0, .slice a1 n1 ac1, .slice a2 n2 ac2, .slice a3 n3 ac3, .string s4, .slice a4 n4 ac4] _
  have F0 := Lib.hid (fr_later f0 ((Later.refl (w.alloc (.cells #[.string s0, .slice a1 n1 ac1, .slice a2 n2 ac2, .slice a3 n3 ac3, .string s4, .slice a4 n4 ac4] 27))).alloc (.cells #[.string s0, .slice b1 n1 bc1, .slice b2 n2 bc2, .slice b3 n3 bc3, .string s4, .slice b4 n4 bc4] 27)))
  have F1 : Hid (Fr (w.heap.size + 1) [.string s0, .slice b1 n1 bc1, .slice b2 n2 bc2, .slice b3 n3 bc3, .string s4, .slice b4 n4 bc4] ((w.alloc (.cells #[.string s0, .slice a1 n1 ac1, .slice a2 n2 ac2, .slice a3 n3 ac3, .string s4, .slice a4 n4 ac4] 27)).alloc (.cells #[.string s0, .slice b1 n1 bc1, .slice b2 n2 bc2, .slice b3 n3 bc3, .string s4, .slice b4 n4 bc4] 27))) := Lib.hid (by have h := frP_new (w.alloc (.cells #[.string s0, .slice a1 n1 ac1, .slice a2 n2 ac2, .slice a3 n3 ac3, .string s4, .slice a4 n4 ac4] 27)) [.string s0, .slice b1 n1 bc1, .slice b2 n2 bc2, .slice b3 n3 bc3, .string s4, .slice b4 n4 bc4] 27; rwa [World.size_alloc] at h)
  have HL : Hid (Later w ((w.alloc (.cells #[.string s0, .slice a1 n1 ac1, .slice a2 n2 ac2, .slice a3 n3 ac3, .string s4, .slice a4 n4 ac4] 27)).alloc (.cells #[.string s0, .slice b1 n1 bc1, .slice b2 n2 bc2, .slice b3 n3 bc3, .string s4, .slice b4 n4 bc4] 27))) := Lib.hid (((Later.refl _).alloc _).alloc _)
  clear f0
  go_enter Tryd.func26, Tryd.ntmps26
  go_wp2_with fail
  refine calls_into (S := fun W => Fr (w.heap.size) [.string s0, .slice a1 n1 ac1, .slice a2 n2 ac2, .slice a3 n3 ac3, .string s4, .slice a4 n4 ac4] W ∧ Fr (w.heap.size + 1) [.string s0, .slice b1 n1 bc1, .slice b2 n2 bc2, .slice b3 n3 bc3, .string s4, .slice b4 n4 bc4] W ∧ Later w W) ⟨F0.out, F1.out, HL.out⟩ ?_
  clear F0 F1 HL
  rintro W0 ⟨f0, f1, hl⟩
  refine (l_eqStringS_same a1 b1 n1 ac1 n1 bc1 p.ins _ (P1.out.later hl) (Q1.out.later hl)).mono ?_
  rintro e v0 ⟨rfl, hb⟩
  have F0 := Lib.hid (fr_later f0 hb)
  have F1 := Lib.hid (fr_later f1 hb)
  have HL := Lib.hid (hl.trans hb)
  clear f0 f1 hl hb
  obtain ⟨q0, q1, q2, q3, q4, q5, _, _, _, _, _, _⟩ := F0.out.o6
  obtain ⟨o0, o1, o2, o3, o4, o5, _, _, _, _, _, _⟩ := F1.out.o6
  go_wp2_with fail
  clear q0 q1 q2 q3 q4 q5 o0 o1 o2 o3 o4 o5
  refine calls_into (S := fun W => Fr (w.heap.size) [.string s0, .slice a1 n1 ac1, .slice a2 n2 ac2, .slice a3 n3 ac3, .string s4, .slice a4 n4 ac4] W ∧ Fr (w.heap.size + 1) [.string s0, .slice b1 n1 bc1, .slice b2 n2 bc2, .slice b3 n3 bc3, .string s4, .slice b4 n4 bc4] W ∧ Later w W) ⟨F0.out, F1.out, HL.out⟩ ?_
  clear F0 F1 HL
  rintro W1 ⟨f0, f1, hl⟩
  refine (l_eqStringS_same a2 b2 n2 ac2 n2 bc2 p.vrs _ (P2.out.later hl) (Q2.out.later hl)).mono ?_
  rintro e v1 ⟨rfl, hb⟩
  have F0 := Lib.hid (fr_later f0 hb)
  have F1 := Lib.hid (fr_later f1 hb)
  have HL := Lib.hid (hl.trans hb)
  clear f0 f1 hl hb
  obtain ⟨q0, q1, q2, q3, q4, q5, _, _, _, _, _, _⟩ := F0.out.o6
  obtain ⟨o0, o1, o2, o3, o4, o5, _, _, _, _, _, _⟩ := F1.out.o6
  go_wp2_with fail
  clear q0 q1 q2 q3 q4 q5 o0 o1 o2 o3 o4 o5
  refine calls_into (S := fun W => Fr (w.heap.size) [.string s0, .slice a1 n1 ac1, .slice a2 n2 ac2, .slice a3 n3 ac3, .string s4, .slice a4 n4 ac4] W ∧ Fr (w.heap.size + 1) [.string s0, .slice b1 n1 bc1, .slice b2 n2 bc2, .slice b3 n3 bc3, .string s4, .slice b4 n4 bc4] W ∧ Later w W) ⟨F0.out, F1.out, HL.out⟩ ?_
  clear F0 F1 HL
  rintro W2 ⟨f0, f1, hl⟩
  refine (l_eqStringS_same a3 b3 n3 ac3 n3 bc3 p.outs _ (P3.out.later hl) (Q3.out.later hl)).mono ?_
  rintro e v2 ⟨rfl, hb⟩
  have F0 := Lib.hid (fr_later f0 hb)
  have F1 := Lib.hid (fr_later f1 hb)
  have HL := Lib.hid (hl.trans hb)
  clear f0 f1 hl hb
  obtain ⟨q0, q1, q2, q3, q4, q5, _, _, _, _, _, _⟩ := F0.out.o6
  obtain ⟨o0, o1, o2, o3, o4, o5, _, _, _, _, _, _⟩ := F1.out.o6
  go_wp2_with fail
  clear q0 q1 q2 q3 q4 q5 o0 o1 o2 o3 o4 o5
  refine calls_into (S := fun W => Fr (w.heap.size) [.string s0, .slice a1 n1 ac1, .slice a2 n2 ac2, .slice a3 n3 ac3, .string s4, .slice a4 n4 ac4] W ∧ Fr (w.heap.size + 1) [.string s0, .slice b1 n1 bc1, .slice b2 n2 bc2, .slice b3 n3 bc3, .string s4, .slice b4 n4 bc4] W ∧ Later w W) ⟨F0.out, F1.out, HL.out⟩ ?_
  clear F0 F1 HL
  rintro W3 ⟨f0, f1, hl⟩
  refine (l_eqLineS_same a4 b4 n4 ac4 n4 bc4 p.lns _ (P4.out.later hl) (Q4.out.later hl)).mono ?_
  rintro e v3 ⟨rfl, hb⟩
  have F0 := Lib.hid (fr_later f0 hb)
  have F1 := Lib.hid (fr_later f1 hb)
  have HL := Lib.hid (hl.trans hb)
  clear f0 f1 hl hb
  obtain ⟨q0, q1, q2, q3, q4, q5, _, _, _, _, _, _⟩ := F0.out.o6
  obtain ⟨o0, o1, o2, o3, o4, o5, _, _, _, _, _, _⟩ := F1.out.o6
  go_wp2_with fail
  go_ret
  exact ⟨rfl, HL.out⟩
end Go.Proofs.YtokipobjpinhmaaDoor
