/- The laws' helpers on programs: equality. | Programs that are written: IsWritten, of the program and of the model. | Programs that are written: IsWritten of the model. | LineOf, of the program and of the model. | Names of a program: declared, assigned, read, used: the program's methods. | BlocksIn, of the program and of the model. | The laws' helpers on programs: marks. | The laws' helpers on programs: markProgram. | The laws' helpers on terms: marked, held. | The walk of the exact law on BlocksIn. -/
import Derived.Test.YtokipobjpinhmaaDoorPsWa
import Derived.Test.YtokipobjpinhmaaDoorPsWi
import Derived.Test.YtokipobjpinhmaaDoorPuT
import Derived.Test.YtokipobjpinhmaaDoorPuC
import Derived.Test.YtokipobjpinhmaaDoorTkF
import Derived.Test.YtokipobjpinhmaaDoorPsq
namespace Go.Proofs.YtokipobjpinhmaaDoor
open Go.RowKit Go.Shelf
set_option maxHeartbeats 8000000
set_option maxRecDepth 100000
set_option linter.unusedVariables false
set_option linter.unusedSimpArgs false
theorem l_eqStringS_same (a b : Option Addr) (n cap m cap' : Nat) (W : List (List UInt8)) (w : World) (hs : Sts w a n W) (ht : Sts w b m W) :
    Calls Tryd.prog 33 #[.slice a n cap, .slice b m cap'] w fun e w' => e = .returned (.bool true) ∧ Later w w' := by
  have hn := hs.1; have hm := ht.1
  obtain rfl : n = m := by omega
  have HS := Lib.hid hs; have HT := Lib.hid ht
  have hn' := hs.2.1
  clear hs ht hm hn
  have e0 : ((n : Int) != (n : Int)) = false := by simp
  go_enter Tryd.func33, Tryd.ntmps33
  go_wp2
  go_loopw [5] (fun i wr => ∃ k : Nat, k ≤ n ∧ i = .int .i64 k ∧ Later w wr) (fun i _ => n - (intOf i).toNat)
  case atStart => exact ⟨0, by omega, rfl, Later.refl _⟩
  case round =>
    obtain ⟨k, hk, rfl, hlw⟩ := hrel
    have HW := Lib.hid hlw
    clear hlw
    by_cases hlt : k < n
    · obtain ⟨b1, o1, rfl, c1⟩ := (HS.out.later HW.out).at k hlt
      obtain ⟨b2, o2, rfl, d1⟩ := (HT.out.later HW.out).at k hlt
      obtain ⟨y, hy⟩ : ∃ y, y = tx (wx W k) := ⟨_, rfl⟩
      rw [← hy] at c1 d1
      have e9 : (y.toList != y.toList) = false := by simp
      clear hy
      go_wp2_with fail
      go_region_held3 (fun w' => w'.cell? ⟨b1, o1 + k, none⟩ = some (.string y) ∧ w'.cell? ⟨b2, o2 + k, none⟩ = some (.string y)) (exact ⟨c1, d1⟩) (fail)
      go_wp2
      go_roundw
      case rel => exact ⟨k + 1, by omega, by go_num, (by repeat (first | (with_reducible exact Later.refl _) | (with_reducible exact Hid.out (by assumption)) | (with_reducible refine Later.alloc ?_ _) | (with_reducible refine Later.setCell ?_ (by simp; omega) _) | (with_reducible refine Later.setCell ?_ (by simp) _) | (with_reducible refine Later.drewN ?_ _) | (with_reducible refine Later.drew ?_) | (with_reducible refine Later.trans ?_ (Hid.out (by assumption)))))⟩
      case measure => simp [intOf]; omega
    · obtain rfl : k = n := by omega
      go_wp2
      go_ret
      exact ⟨rfl, HW.out⟩
theorem l_eqLine_same (t : List UInt8) (a b : Option Addr) (n cap cap' : Nat) (L : List Trm) (w : World) (hs : Trs w a n L) (ht : Trs w b n L) :
    Calls Tryd.prog 105 #[.agg #[.string (tx t), .slice a n cap], .agg #[.string (tx t), .slice b n cap']] w fun e w' => e = .returned (.bool true) ∧ Later w w' := by
  have HS := Lib.hid hs; have HT := Lib.hid ht
  clear hs ht
  obtain ⟨s, hs⟩ : ∃ s, s = tx t := ⟨_, rfl⟩
  rw [← hs]
  have e9 : (s.toList != s.toList) = false := by simp
  clear hs
  go_enter Tryd.func105, Tryd.ntmps105
  go_wp2_with fail
  refine (l_eqTermS_same a b n cap n cap' L _ (HS.out.later (by repeat (first | (with_reducible exact Later.refl _) | (with_reducible exact Hid.out (by assumption)) | (with_reducible refine Later.alloc ?_ _) | (with_reducible refine Later.setCell ?_ (by simp; omega) _) | (with_reducible refine Later.setCell ?_ (by simp) _) | (with_reducible refine Later.drewN ?_ _) | (with_reducible refine Later.drew ?_) | (with_reducible refine Later.trans ?_ (Hid.out (by assumption)))))) (HT.out.later (by repeat (first | (with_reducible exact Later.refl _) | (with_reducible exact Hid.out (by assumption)) | (with_reducible refine Later.alloc ?_ _) | (with_reducible refine Later.setCell ?_ (by simp; omega) _) | (with_reducible refine Later.setCell ?_ (by simp) _) | (with_reducible refine Later.drewN ?_ _) | (with_reducible refine Later.drew ?_) | (with_reducible refine Later.trans ?_ (Hid.out (by assumption))))))).mono ?_
  rintro e w1 ⟨rfl, hb⟩
  have HB : Hid (Later w w1) := Lib.hid (Later.trans (by repeat (first | (with_reducible exact Later.refl _) | (with_reducible exact Hid.out (by assumption)) | (with_reducible refine Later.alloc ?_ _) | (with_reducible refine Later.setCell ?_ (by simp; omega) _) | (with_reducible refine Later.setCell ?_ (by simp) _) | (with_reducible refine Later.drewN ?_ _) | (with_reducible refine Later.drew ?_) | (with_reducible refine Later.trans ?_ (Hid.out (by assumption))))) hb)
  clear hb
  go_wp2_with fail
  go_ret
  exact ⟨rfl, HB.out⟩
theorem l_eqLineS_same (a b : Option Addr) (n cap m cap' : Nat) (M : List Lne) (w : World) (hs : Lns w a n M) (ht : Lns w b m M) :
    Calls Tryd.prog 65 #[.slice a n cap, .slice b m cap'] w fun e w' => e = .returned (.bool true) ∧ Later w w' := by
  have hn := hs.1; have hm := ht.1
  obtain rfl : n = m := by omega
  have HS := Lib.hid hs; have HT := Lib.hid ht
  have hn' := hs.2.1
  clear hs ht hm hn
  have e0 : ((n : Int) != (n : Int)) = false := by simp
  go_enter Tryd.func65, Tryd.ntmps65
  go_wp2
  go_loopw [5] (fun i wr => ∃ k : Nat, k ≤ n ∧ i = .int .i64 k ∧ Later w wr) (fun i _ => n - (intOf i).toNat)
  case atStart => exact ⟨0, by omega, rfl, Later.refl _⟩
  case round =>
    obtain ⟨k, hk, rfl, hlw⟩ := hrel
    have HW := Lib.hid hlw
    clear hlw
    by_cases hlt : k < n
    · obtain ⟨b1, o1, ta, tc, rfl, c1, c2, c3⟩ := (HS.out.later HW.out).2.2.1 k hlt
      obtain ⟨b2, o2, ua, uc, rfl, d1, d2, d3⟩ := (HT.out.later HW.out).2.2.1 k hlt
      have C3 := Lib.hid c3; have D3 := Lib.hid d3
      have EQ := Lib.hid (fun W h1 h2 => l_eqLine_same (ltx M k) ta ua (lrx M k).length tc uc (lrx M k) W h1 h2)
      obtain ⟨y, hy⟩ : ∃ y, y = tx (ltx M k) := ⟨_, rfl⟩
      obtain ⟨q, hq⟩ : ∃ q, q = (lrx M k).length := ⟨_, rfl⟩
      rw [← hy] at c1 d1 EQ; rw [← hq] at c2 d2 C3 D3 EQ
      have C := Lib.hid c1; have C' := Lib.hid c2; have D := Lib.hid d1; have D' := Lib.hid d2
      have KL : Hid (∀ W', Later wr W' → W'.cell? ⟨b1, o1 + k * 2, none⟩ = some (.string y) ∧ W'.cell? ⟨b1, o1 + k * 2 + 1, none⟩ = some (.slice ta q tc) ∧ W'.cell? ⟨b2, o2 + k * 2, none⟩ = some (.string y) ∧ W'.cell? ⟨b2, o2 + k * 2 + 1, none⟩ = some (.slice ua q uc)) := Lib.hid (fun W' h => ⟨by rw [h.cell (p := ⟨b1, o1 + k * 2, none⟩) (cell_lt C.out)]; exact C.out, by rw [h.cell (p := ⟨b1, o1 + k * 2 + 1, none⟩) (cell_lt C.out)]; exact C'.out, by rw [h.cell (p := ⟨b2, o2 + k * 2, none⟩) (cell_lt D.out)]; exact D.out, by rw [h.cell (p := ⟨b2, o2 + k * 2 + 1, none⟩) (cell_lt D.out)]; exact D'.out⟩)
      have RL := Lib.hid (Later.refl wr)
      clear hy hq c3 d3
      go_wp2_with fail
      go_region_held3 (fun w' => w'.cell? ⟨b1, o1 + k * 2, none⟩ = some (.string y) ∧ w'.cell? ⟨b1, o1 + k * 2 + 1, none⟩ = some (.slice ta q tc) ∧ w'.cell? ⟨b2, o2 + k * 2, none⟩ = some (.string y) ∧ w'.cell? ⟨b2, o2 + k * 2 + 1, none⟩ = some (.slice ua q uc)) (exact KL.out _ (by repeat (first | (with_reducible exact Later.refl _) | (with_reducible exact Hid.out (by assumption)) | (with_reducible refine Later.alloc ?_ _) | (with_reducible refine Later.setCell ?_ (by simp; omega) _) | (with_reducible refine Later.setCell ?_ (by simp) _) | (with_reducible refine Later.drewN ?_ _) | (with_reducible refine Later.drew ?_) | (with_reducible refine Later.trans ?_ (Hid.out (by assumption))))))
        (first | (go_at_call 105; refine (EQ.out _ (C3.out.later (by repeat (first | (with_reducible exact Later.refl _) | (with_reducible exact Hid.out (by assumption)) | (with_reducible refine Later.alloc ?_ _) | (with_reducible refine Later.setCell ?_ (by simp; omega) _) | (with_reducible refine Later.setCell ?_ (by simp) _) | (with_reducible refine Later.drewN ?_ _) | (with_reducible refine Later.drew ?_) | (with_reducible refine Later.trans ?_ (Hid.out (by assumption)))))) (D3.out.later (by repeat (first | (with_reducible exact Later.refl _) | (with_reducible exact Hid.out (by assumption)) | (with_reducible refine Later.alloc ?_ _) | (with_reducible refine Later.setCell ?_ (by simp; omega) _) | (with_reducible refine Later.setCell ?_ (by simp) _) | (with_reducible refine Later.drewN ?_ _) | (with_reducible refine Later.drew ?_) | (with_reducible refine Later.trans ?_ (Hid.out (by assumption))))))).mono ?_; rintro e w1 ⟨rfl, hb1⟩; have H1 := Lib.hid hb1; clear hb1))
      all_goals
        go_wp2
        go_roundw
        case rel => exact ⟨k + 1, by omega, by go_num, (by repeat (first | (with_reducible exact Later.refl _) | (with_reducible exact Hid.out (by assumption)) | (with_reducible refine Later.alloc ?_ _) | (with_reducible refine Later.setCell ?_ (by simp; omega) _) | (with_reducible refine Later.setCell ?_ (by simp) _) | (with_reducible refine Later.drewN ?_ _) | (with_reducible refine Later.drew ?_) | (with_reducible refine Later.trans ?_ (Hid.out (by assumption)))))⟩
        case measure => simp [intOf]; omega
    · obtain rfl : k = n := by omega
      go_wp2
      go_ret
      exact ⟨rfl, HW.out⟩
theorem l_eqProgram_same (u v : Value) (p : Prg) (w : World) (hu : PgV w u p) (hv : PgV w v p) :
    Calls Tryd.prog 26 #[u, v] w fun e w' => e = .returned (.bool true) ∧ Later w w' := by
  obtain ⟨a1, ac1, a2, ac2, a3, ac3, a4, ac4, rfl, h1, h2, h3, h4, _, _⟩ := hu
  obtain ⟨b1, bc1, b2, bc2, b3, bc3, b4, bc4, rfl, g1, g2, g3, g4, _, _⟩ := hv
  have P1 := Lib.hid h1; have P2 := Lib.hid h2; have P3 := Lib.hid h3; have P4 := Lib.hid h4
  have Q1 := Lib.hid g1; have Q2 := Lib.hid g2; have Q3 := Lib.hid g3; have Q4 := Lib.hid g4
  clear h1 h2 h3 h4 g1 g2 g3 g4
  obtain ⟨s0, hs0⟩ : ∃ q, q = tx p.nm := ⟨_, rfl⟩
  obtain ⟨s4, hs4⟩ : ∃ q, q = tx p.grd := ⟨_, rfl⟩
  obtain ⟨n1, hn1⟩ : ∃ q, q = p.ins.length := ⟨_, rfl⟩
  obtain ⟨n2, hn2⟩ : ∃ q, q = p.vrs.length := ⟨_, rfl⟩
  obtain ⟨n3, hn3⟩ : ∃ q, q = p.outs.length := ⟨_, rfl⟩
  obtain ⟨n4, hn4⟩ : ∃ q, q = p.lns.length := ⟨_, rfl⟩
  rw [← hn1] at P1 Q1; rw [← hn2] at P2 Q2; rw [← hn3] at P3 Q3; rw [← hn4] at P4 Q4
  rw [← hs0, ← hs4, ← hn1, ← hn2, ← hn3, ← hn4]
  have e0 : (s0.toList != s0.toList) = false := by simp
  have e4 : (s4.toList != s4.toList) = false := by simp
  clear hs0 hs4 hn1 hn2 hn3 hn4
  have f0 : Fr (w.heap.size) [.string s0, .slice a1 n1 ac1, .slice a2 n2 ac2, .slice a3 n3 ac3, .string s4, .slice a4 n4 ac4] (w.alloc (.cells #[.string s0, .slice a1 n1 ac1, .slice a2 n2 ac2, .slice a3 n3 ac3, .string s4, .slice a4 n4 ac4] 27)) := frP_new w [.string s0, .slice a1 n1 ac1, .slice a2 n2 ac2, .slice a3 n3 ac3, .string s4, .slice a4 n4 ac4] _
  have F0 := Lib.hid (fr_later f0 ((Later.refl (w.alloc (.cells #[.string s0, .slice a1 n1 ac1, .slice a2 n2 ac2, .slice a3 n3 ac3, .string s4, .slice a4 n4 ac4] 27))).alloc (.cells #[.string s0, .slice b1 n1 bc1, .slice b2 n2 bc2, .slice b3 n3 bc3, .string s4, .slice b4 n4 bc4] 27)))
  have F1 : Hid (Fr (w.heap.size + 1) [.string s0, .slice b1 n1 bc1, .slice b2 n2 bc2, .slice b3 n3 bc3, .string s4, .slice b4 n4 bc4] ((w.alloc (.cells #[.string s0, .slice a1 n1 ac1, .slice a2 n2 ac2, .slice a3 n3 ac3, .string s4, .slice a4 n4 ac4] 27)).alloc (.cells #[.string s0, .slice b1 n1 bc1, .slice b2 n2 bc2, .slice b3 n3 bc3, .string s4, .slice b4 n4 bc4] 27))) := Lib.hid (by have h := frP_new (w.alloc (.cells #[.string s0, .slice a1 n1 ac1, .slice a2 n2 ac2, .slice a3 n3 ac3, .string s4, .slice a4 n4 ac4] 27)) [.string s0, .slice b1 n1 bc1, .slice b2 n2 bc2, .slice b3 n3 bc3, .string s4, .slice b4 n4 bc4] 27; rwa [World.size_alloc] at h)
  have HL : Hid (Later w ((w.alloc (.cells #[.string s0, .slice a1 n1 ac1, .slice a2 n2 ac2, .slice a3 n3 ac3, .string s4, .slice a4 n4 ac4] 27)).alloc (.cells #[.string s0, .slice b1 n1 bc1, .slice b2 n2 bc2, .slice b3 n3 bc3, .string s4, .slice b4 n4 bc4] 27))) := Lib.hid (((Later.refl _).alloc _).alloc _)
  clear f0
  go_enter Tryd.func26, Tryd.ntmps26
  go_wp2_with fail
  refine calls_into (S := fun W => Fr (w.heap.size) [.string s0, .slice a1 n1 ac1, .slice a2 n2 ac2, .slice a3 n3 ac3, .string s4, .slice a4 n4 ac4] W ∧ Fr (w.heap.size + 1) [.string s0, .slice b1 n1 bc1, .slice b2 n2 bc2, .slice b3 n3 bc3, .string s4, .slice b4 n4 bc4] W ∧ Later w W) ⟨F0.out, F1.out, HL.out⟩ ?_
  clear F0 F1 HL
  rintro W0 ⟨f0, f1, hl⟩
  refine (l_eqStringS_same a1 b1 n1 ac1 n1 bc1 p.ins _ (P1.out.later hl) (Q1.out.later hl)).mono ?_
  rintro e v0 ⟨rfl, hb⟩
  have F0 := Lib.hid (fr_later f0 hb)
  have F1 := Lib.hid (fr_later f1 hb)
  have HL := Lib.hid (hl.trans hb)
  clear f0 f1 hl hb
  obtain ⟨q0, q1, q2, q3, q4, q5, _, _, _, _, _, _⟩ := F0.out.o6
  obtain ⟨o0, o1, o2, o3, o4, o5, _, _, _, _, _, _⟩ := F1.out.o6
  go_wp2_with fail
  clear q0 q1 q2 q3 q4 q5 o0 o1 o2 o3 o4 o5
  refine calls_into (S := fun W => Fr (w.heap.size) [.string s0, .slice a1 n1 ac1, .slice a2 n2 ac2, .slice a3 n3 ac3, .string s4, .slice a4 n4 ac4] W ∧ Fr (w.heap.size + 1) [.string s0, .slice b1 n1 bc1, .slice b2 n2 bc2, .slice b3 n3 bc3, .string s4, .slice b4 n4 bc4] W ∧ Later w W) ⟨F0.out, F1.out, HL.out⟩ ?_
  clear F0 F1 HL
  rintro W1 ⟨f0, f1, hl⟩
  refine (l_eqStringS_same a2 b2 n2 ac2 n2 bc2 p.vrs _ (P2.out.later hl) (Q2.out.later hl)).mono ?_
  rintro e v1 ⟨rfl, hb⟩
  have F0 := Lib.hid (fr_later f0 hb)
  have F1 := Lib.hid (fr_later f1 hb)
  have HL := Lib.hid (hl.trans hb)
  clear f0 f1 hl hb
  obtain ⟨q0, q1, q2, q3, q4, q5, _, _, _, _, _, _⟩ := F0.out.o6
  obtain ⟨o0, o1, o2, o3, o4, o5, _, _, _, _, _, _⟩ := F1.out.o6
  go_wp2_with fail
  clear q0 q1 q2 q3 q4 q5 o0 o1 o2 o3 o4 o5
  refine calls_into (S := fun W => Fr (w.heap.size) [.string s0, .slice a1 n1 ac1, .slice a2 n2 ac2, .slice a3 n3 ac3, .string s4, .slice a4 n4 ac4] W ∧ Fr (w.heap.size + 1) [.string s0, .slice b1 n1 bc1, .slice b2 n2 bc2, .slice b3 n3 bc3, .string s4, .slice b4 n4 bc4] W ∧ Later w W) ⟨F0.out, F1.out, HL.out⟩ ?_
  clear F0 F1 HL
  rintro W2 ⟨f0, f1, hl⟩
  refine (l_eqStringS_same a3 b3 n3 ac3 n3 bc3 p.outs _ (P3.out.later hl) (Q3.out.later hl)).mono ?_
  rintro e v2 ⟨rfl, hb⟩
  have F0 := Lib.hid (fr_later f0 hb)
  have F1 := Lib.hid (fr_later f1 hb)
  have HL := Lib.hid (hl.trans hb)
  clear f0 f1 hl hb
  obtain ⟨q0, q1, q2, q3, q4, q5, _, _, _, _, _, _⟩ := F0.out.o6
  obtain ⟨o0, o1, o2, o3, o4, o5, _, _, _, _, _, _⟩ := F1.out.o6
  go_wp2_with fail
  clear q0 q1 q2 q3 q4 q5 o0 o1 o2 o3 o4 o5
  refine calls_into (S := fun W => Fr (w.heap.size) [.string s0, .slice a1 n1 ac1, .slice a2 n2 ac2, .slice a3 n3 ac3, .string s4, .slice a4 n4 ac4] W ∧ Fr (w.heap.size + 1) [.string s0, .slice b1 n1 bc1, .slice b2 n2 bc2, .slice b3 n3 bc3, .string s4, .slice b4 n4 bc4] W ∧ Later w W) ⟨F0.out, F1.out, HL.out⟩ ?_
  clear F0 F1 HL
  rintro W3 ⟨f0, f1, hl⟩
  refine (l_eqLineS_same a4 b4 n4 ac4 n4 bc4 p.lns _ (P4.out.later hl) (Q4.out.later hl)).mono ?_
  rintro e v3 ⟨rfl, hb⟩
  have F0 := Lib.hid (fr_later f0 hb)
  have F1 := Lib.hid (fr_later f1 hb)
  have HL := Lib.hid (hl.trans hb)
  clear f0 f1 hl hb
  obtain ⟨q0, q1, q2, q3, q4, q5, _, _, _, _, _, _⟩ := F0.out.o6
  obtain ⟨o0, o1, o2, o3, o4, o5, _, _, _, _, _, _⟩ := F1.out.o6
  go_wp2_with fail
  go_ret
  exact ⟨rfl, HL.out⟩
end Go.Proofs.YtokipobjpinhmaaDoor
namespace Go.Proofs.YtokipobjpinhmaaDoor
open Go.RowKit Go.Shelf
set_option maxHeartbeats 16000000
set_option maxRecDepth 100000
set_option linter.unusedVariables false
set_option linter.unusedSimpArgs false
theorem i_IsWritten (v : Value) (p : Prg) (w : World) (hp : PgV w v p) (ho : Ops w) (hl : p.lns.length ≤ 1000000000) : Calls Tryd.prog 49 #[v] w fun e w' => e = .returned (.bool (wrtB p)) ∧ Later w w' := by
  obtain ⟨a1, c1, a2, c2, a3, c3, a4, c4, rfl, h1, h2, h3, h4, h5, h6⟩ := hp
  have P1 := Lib.hid h1; have P2 := Lib.hid h2; have P3 := Lib.hid h3; have P4 := Lib.hid h4
  have HO := Lib.hid ho
  have N0 : Hid (∀ W, Calls Tryd.prog 78 #[.string (tx p.nm)] W fun e w' => e = .returned (.bool (nmB p.nm)) ∧ Later W w') := Lib.hid (fun W => i_isName (tx p.nm) W h5)
  have N4 : Hid (∀ W, Calls Tryd.prog 78 #[.string (tx p.grd)] W fun e w' => e = .returned (.bool (nmB p.grd)) ∧ Later W w') := Lib.hid (fun W => i_isName (tx p.grd) W h6)
  have A1 := Lib.hid (fun W h => i_areNames a1 p.ins.length c1 p.ins W h)
  have A2 := Lib.hid (fun W h => i_areNames a2 p.vrs.length c2 p.vrs W h)
  have A3 := Lib.hid (fun W h => i_areNames a3 p.outs.length c3 p.outs W h)
  have A4 := Lib.hid (fun W h ho => i_areLines a4 p.lns.length c4 p.lns W h ho)
  have EG : ((tx p.grd).toList.isEmpty) = decide (p.grd = []) := by
    rw [Lib.toList_data]
    show p.grd.isEmpty = _
    cases p.grd <;> simp
  have HW : Hid (wrtB p = (nmB p.nm && (decide (p.grd = []) || nmB p.grd) && decide (1 ≤ p.ins.length) && decide (1 ≤ p.outs.length) && nmsB p.ins && nmsB p.vrs && nmsB p.outs && lnsB p.lns)) := Lib.hid rfl
  have hn1 := P1.out.2.1; have hn3 := P3.out.2.1
  obtain ⟨s0, hs0⟩ : ∃ q, q = tx p.nm := ⟨_, rfl⟩
  obtain ⟨s4, hs4⟩ : ∃ q, q = tx p.grd := ⟨_, rfl⟩
  obtain ⟨n1, hn1q⟩ : ∃ q, q = p.ins.length := ⟨_, rfl⟩
  obtain ⟨n2, hn2q⟩ : ∃ q, q = p.vrs.length := ⟨_, rfl⟩
  obtain ⟨n3, hn3q⟩ : ∃ q, q = p.outs.length := ⟨_, rfl⟩
  obtain ⟨n4, hn4q⟩ : ∃ q, q = p.lns.length := ⟨_, rfl⟩
  obtain ⟨b0, hb0⟩ : ∃ q, q = nmB p.nm := ⟨_, rfl⟩
  obtain ⟨b4, hb4⟩ : ∃ q, q = nmB p.grd := ⟨_, rfl⟩
  obtain ⟨g0, hg0⟩ : ∃ q, q = decide (p.grd = []) := ⟨_, rfl⟩
  obtain ⟨b1, hb1⟩ : ∃ q, q = nmsB p.ins := ⟨_, rfl⟩
  obtain ⟨b2, hb2⟩ : ∃ q, q = nmsB p.vrs := ⟨_, rfl⟩
  obtain ⟨b3, hb3⟩ : ∃ q, q = nmsB p.outs := ⟨_, rfl⟩
  obtain ⟨b5, hb5⟩ : ∃ q, q = lnsB p.lns := ⟨_, rfl⟩
  rw [← hs0] at N0; rw [← hs4] at N4 EG; rw [← hb0] at N0 HW; rw [← hb4] at N4 HW; rw [← hg0] at EG HW; rw [← hb1] at A1 HW; rw [← hb2] at A2 HW; rw [← hb3] at A3 HW; rw [← hb5] at A4 HW
  rw [← hn1q] at A1 P1 HW hn1; rw [← hn2q] at A2 P2; rw [← hn3q] at A3 P3 HW hn3; rw [← hn4q] at A4 P4
  rw [← hs0, ← hs4, ← hn1q, ← hn2q, ← hn3q, ← hn4q]
  clear hs0 hs4 hn1q hn2q hn3q hn4q hb0 hb4 hg0 hb1 hb2 hb3 hb5 h1 h2 h3 h4 h5 h6 ho hl
  have q0 : (w.alloc (.cells #[.string s0, .slice a1 n1 c1, .slice a2 n2 c2, .slice a3 n3 c3, .string s4, .slice a4 n4 c4] 27)).cell? ⟨w.heap.size, 0, none⟩ = some (.string s0) := by rw [cell_of_row _ _ 0 _ _ (0, 0) (heap_alloc_new w _)]; rfl
  have q1 : (w.alloc (.cells #[.string s0, .slice a1 n1 c1, .slice a2 n2 c2, .slice a3 n3 c3, .string s4, .slice a4 n4 c4] 27)).cell? ⟨w.heap.size, 1, none⟩ = some (.slice a1 n1 c1) := by rw [cell_of_row _ _ 1 _ _ (0, 0) (heap_alloc_new w _)]; rfl
  have q2 : (w.alloc (.cells #[.string s0, .slice a1 n1 c1, .slice a2 n2 c2, .slice a3 n3 c3, .string s4, .slice a4 n4 c4] 27)).cell? ⟨w.heap.size, 2, none⟩ = some (.slice a2 n2 c2) := by rw [cell_of_row _ _ 2 _ _ (0, 0) (heap_alloc_new w _)]; rfl
  have q3 : (w.alloc (.cells #[.string s0, .slice a1 n1 c1, .slice a2 n2 c2, .slice a3 n3 c3, .string s4, .slice a4 n4 c4] 27)).cell? ⟨w.heap.size, 3, none⟩ = some (.slice a3 n3 c3) := by rw [cell_of_row _ _ 3 _ _ (0, 0) (heap_alloc_new w _)]; rfl
  have q4 : (w.alloc (.cells #[.string s0, .slice a1 n1 c1, .slice a2 n2 c2, .slice a3 n3 c3, .string s4, .slice a4 n4 c4] 27)).cell? ⟨w.heap.size, 4, none⟩ = some (.string s4) := by rw [cell_of_row _ _ 4 _ _ (0, 0) (heap_alloc_new w _)]; rfl
  have q5 : (w.alloc (.cells #[.string s0, .slice a1 n1 c1, .slice a2 n2 c2, .slice a3 n3 c3, .string s4, .slice a4 n4 c4] 27)).cell? ⟨w.heap.size, 5, none⟩ = some (.slice a4 n4 c4) := by rw [cell_of_row _ _ 5 _ _ (0, 0) (heap_alloc_new w _)]; rfl
  have hW0 : w.heap.size < (w.alloc (.cells #[.string s0, .slice a1 n1 c1, .slice a2 n2 c2, .slice a3 n3 c3, .string s4, .slice a4 n4 c4] 27)).heap.size := by rw [World.size_alloc]; exact Nat.lt_succ_self _
  have C0 : Hid (∀ W', Later (w.alloc (.cells #[.string s0, .slice a1 n1 c1, .slice a2 n2 c2, .slice a3 n3 c3, .string s4, .slice a4 n4 c4] 27)) W' → W'.cell? ⟨w.heap.size, 0, none⟩ = some (.string s0) ∧ W'.cell? ⟨w.heap.size, 1, none⟩ = some (.slice a1 n1 c1) ∧ W'.cell? ⟨w.heap.size, 2, none⟩ = some (.slice a2 n2 c2) ∧ W'.cell? ⟨w.heap.size, 3, none⟩ = some (.slice a3 n3 c3) ∧ W'.cell? ⟨w.heap.size, 4, none⟩ = some (.string s4) ∧ W'.cell? ⟨w.heap.size, 5, none⟩ = some (.slice a4 n4 c4)) := Lib.hid (fun W' q => ⟨by rw [q.cell (p := ⟨w.heap.size, 0, none⟩) hW0]; exact q0, by rw [q.cell (p := ⟨w.heap.size, 1, none⟩) hW0]; exact q1, by rw [q.cell (p := ⟨w.heap.size, 2, none⟩) hW0]; exact q2, by rw [q.cell (p := ⟨w.heap.size, 3, none⟩) hW0]; exact q3, by rw [q.cell (p := ⟨w.heap.size, 4, none⟩) hW0]; exact q4, by rw [q.cell (p := ⟨w.heap.size, 5, none⟩) hW0]; exact q5⟩)
  have A0 : Hid (Later w (w.alloc (.cells #[.string s0, .slice a1 n1 c1, .slice a2 n2 c2, .slice a3 n3 c3, .string s4, .slice a4 n4 c4] 27))) := Lib.hid ((Later.refl _).alloc _)
  clear hW0
  go_enter Tryd.func49, Tryd.ntmps49
  go_wp2_with fail
  generalize w.alloc (.cells #[.string s0, .slice a1 n1 c1, .slice a2 n2 c2, .slice a3 n3 c3, .string s4, .slice a4 n4 c4] 27) = W0 at C0 A0 q0 q1 q2 q3 q4 q5 ⊢
  clear q0 q1 q2 q3 q4 q5
  refine (N0.out _).mono ?_
  rintro e w1 ⟨rfl, hb⟩
  have L1 := Lib.hid (show Later W0 w1 from hb)
  obtain ⟨q0, q1, q2, q3, q4, q5⟩ := C0.out _ hb
  clear hb
  cases b0
  · have HWF : Hid (wrtB p = false) := Lib.hid (by rw [HW.out]; rfl)
    go_wp2_with fail
    all_goals
      go_ret
      exact ⟨by rw [HWF.out]; rfl, Later.trans A0.out L1.out⟩
  · cases g0
    · cases b4
      · have HWF : Hid (wrtB p = false) := Lib.hid (by rw [HW.out]; rfl)
        go_wp2_with (first
    | (go_at_call 78; refine (N4.out _).mono ?_; rintro e w2 ⟨rfl, hb⟩; have LW := Lib.hid (Later.trans (show Later W0 _ from (Hid.out (by assumption))) hb); obtain ⟨q0, q1, q2, q3, q4, q5⟩ := C0.out _ LW.out; clear hb)
    | (go_at_call_of 88 a1; refine (A1.out _ (P1.out.later (Later.trans A0.out (Hid.out (by assumption))))).mono ?_; rintro e w2 ⟨rfl, hb⟩; have LW := Lib.hid (Later.trans (show Later W0 _ from (Hid.out (by assumption))) hb); obtain ⟨q0, q1, q2, q3, q4, q5⟩ := C0.out _ LW.out; clear hb)
    | (go_at_call_of 88 a2; refine (A2.out _ (P2.out.later (Later.trans A0.out (Hid.out (by assumption))))).mono ?_; rintro e w2 ⟨rfl, hb⟩; have LW := Lib.hid (Later.trans (show Later W0 _ from (Hid.out (by assumption))) hb); obtain ⟨q0, q1, q2, q3, q4, q5⟩ := C0.out _ LW.out; clear hb)
    | (go_at_call_of 88 a3; refine (A3.out _ (P3.out.later (Later.trans A0.out (Hid.out (by assumption))))).mono ?_; rintro e w2 ⟨rfl, hb⟩; have LW := Lib.hid (Later.trans (show Later W0 _ from (Hid.out (by assumption))) hb); obtain ⟨q0, q1, q2, q3, q4, q5⟩ := C0.out _ LW.out; clear hb)
    | (go_at_call 89; refine (A4.out _ (P4.out.later (Later.trans A0.out (Hid.out (by assumption)))) (HO.out.later (Later.trans A0.out (Hid.out (by assumption))))).mono ?_; rintro e w2 ⟨rfl, hb⟩; have LW := Lib.hid (Later.trans (show Later W0 _ from (Hid.out (by assumption))) hb); obtain ⟨q0, q1, q2, q3, q4, q5⟩ := C0.out _ LW.out; clear hb))
        all_goals
          go_ret
          exact ⟨by rw [HWF.out]; rfl, Later.trans A0.out (Hid.out (by assumption))⟩
      · have HW := Lib.hid HW.out
        rcases (show n1 = 0 ∨ (1 ≤ n1 ∧ n3 = 0) ∨ (1 ≤ n1 ∧ 1 ≤ n3) by omega) with h | ⟨h, h'⟩ | ⟨h, h'⟩
        · subst h
          go_wp2_with (first
    | (go_at_call 78; refine (N4.out _).mono ?_; rintro e w2 ⟨rfl, hb⟩; have LW := Lib.hid (Later.trans (show Later W0 _ from (Hid.out (by assumption))) hb); obtain ⟨q0, q1, q2, q3, q4, q5⟩ := C0.out _ LW.out; clear hb)
    | (go_at_call_of 88 a1; refine (A1.out _ (P1.out.later (Later.trans A0.out (Hid.out (by assumption))))).mono ?_; rintro e w2 ⟨rfl, hb⟩; have LW := Lib.hid (Later.trans (show Later W0 _ from (Hid.out (by assumption))) hb); obtain ⟨q0, q1, q2, q3, q4, q5⟩ := C0.out _ LW.out; clear hb)
    | (go_at_call_of 88 a2; refine (A2.out _ (P2.out.later (Later.trans A0.out (Hid.out (by assumption))))).mono ?_; rintro e w2 ⟨rfl, hb⟩; have LW := Lib.hid (Later.trans (show Later W0 _ from (Hid.out (by assumption))) hb); obtain ⟨q0, q1, q2, q3, q4, q5⟩ := C0.out _ LW.out; clear hb)
    | (go_at_call_of 88 a3; refine (A3.out _ (P3.out.later (Later.trans A0.out (Hid.out (by assumption))))).mono ?_; rintro e w2 ⟨rfl, hb⟩; have LW := Lib.hid (Later.trans (show Later W0 _ from (Hid.out (by assumption))) hb); obtain ⟨q0, q1, q2, q3, q4, q5⟩ := C0.out _ LW.out; clear hb)
    | (go_at_call 89; refine (A4.out _ (P4.out.later (Later.trans A0.out (Hid.out (by assumption)))) (HO.out.later (Later.trans A0.out (Hid.out (by assumption))))).mono ?_; rintro e w2 ⟨rfl, hb⟩; have LW := Lib.hid (Later.trans (show Later W0 _ from (Hid.out (by assumption))) hb); obtain ⟨q0, q1, q2, q3, q4, q5⟩ := C0.out _ LW.out; clear hb))
          all_goals
            go_ret
            exact ⟨by rw [HW.out]; rfl, Later.trans A0.out (Hid.out (by assumption))⟩
        · subst h'
          rw [decide_eq_true h] at HW
          have e1 : ((n1 : Int) == 0) = false := by simp; omega
          go_wp2_with (first
    | (go_at_call 78; refine (N4.out _).mono ?_; rintro e w2 ⟨rfl, hb⟩; have LW := Lib.hid (Later.trans (show Later W0 _ from (Hid.out (by assumption))) hb); obtain ⟨q0, q1, q2, q3, q4, q5⟩ := C0.out _ LW.out; clear hb)
    | (go_at_call_of 88 a1; refine (A1.out _ (P1.out.later (Later.trans A0.out (Hid.out (by assumption))))).mono ?_; rintro e w2 ⟨rfl, hb⟩; have LW := Lib.hid (Later.trans (show Later W0 _ from (Hid.out (by assumption))) hb); obtain ⟨q0, q1, q2, q3, q4, q5⟩ := C0.out _ LW.out; clear hb)
    | (go_at_call_of 88 a2; refine (A2.out _ (P2.out.later (Later.trans A0.out (Hid.out (by assumption))))).mono ?_; rintro e w2 ⟨rfl, hb⟩; have LW := Lib.hid (Later.trans (show Later W0 _ from (Hid.out (by assumption))) hb); obtain ⟨q0, q1, q2, q3, q4, q5⟩ := C0.out _ LW.out; clear hb)
    | (go_at_call_of 88 a3; refine (A3.out _ (P3.out.later (Later.trans A0.out (Hid.out (by assumption))))).mono ?_; rintro e w2 ⟨rfl, hb⟩; have LW := Lib.hid (Later.trans (show Later W0 _ from (Hid.out (by assumption))) hb); obtain ⟨q0, q1, q2, q3, q4, q5⟩ := C0.out _ LW.out; clear hb)
    | (go_at_call 89; refine (A4.out _ (P4.out.later (Later.trans A0.out (Hid.out (by assumption)))) (HO.out.later (Later.trans A0.out (Hid.out (by assumption))))).mono ?_; rintro e w2 ⟨rfl, hb⟩; have LW := Lib.hid (Later.trans (show Later W0 _ from (Hid.out (by assumption))) hb); obtain ⟨q0, q1, q2, q3, q4, q5⟩ := C0.out _ LW.out; clear hb))
          all_goals
            go_ret
            exact ⟨by rw [HW.out]; rfl, Later.trans A0.out (Hid.out (by assumption))⟩
        · rw [decide_eq_true h, decide_eq_true h'] at HW
          have e1 : ((n1 : Int) == 0) = false := by simp; omega
          have e3 : ((n3 : Int) == 0) = false := by simp; omega
          clear h h'
          cases b1
          · have HW : Hid (wrtB p = false) := Lib.hid (by rw [HW.out]; rfl)
            go_wp2_with (first
    | (go_at_call 78; refine (N4.out _).mono ?_; rintro e w2 ⟨rfl, hb⟩; have LW := Lib.hid (Later.trans (show Later W0 _ from (Hid.out (by assumption))) hb); obtain ⟨q0, q1, q2, q3, q4, q5⟩ := C0.out _ LW.out; clear hb)
    | (go_at_call_of 88 a1; refine (A1.out _ (P1.out.later (Later.trans A0.out (Hid.out (by assumption))))).mono ?_; rintro e w2 ⟨rfl, hb⟩; have LW := Lib.hid (Later.trans (show Later W0 _ from (Hid.out (by assumption))) hb); obtain ⟨q0, q1, q2, q3, q4, q5⟩ := C0.out _ LW.out; clear hb)
    | (go_at_call_of 88 a2; refine (A2.out _ (P2.out.later (Later.trans A0.out (Hid.out (by assumption))))).mono ?_; rintro e w2 ⟨rfl, hb⟩; have LW := Lib.hid (Later.trans (show Later W0 _ from (Hid.out (by assumption))) hb); obtain ⟨q0, q1, q2, q3, q4, q5⟩ := C0.out _ LW.out; clear hb)
    | (go_at_call_of 88 a3; refine (A3.out _ (P3.out.later (Later.trans A0.out (Hid.out (by assumption))))).mono ?_; rintro e w2 ⟨rfl, hb⟩; have LW := Lib.hid (Later.trans (show Later W0 _ from (Hid.out (by assumption))) hb); obtain ⟨q0, q1, q2, q3, q4, q5⟩ := C0.out _ LW.out; clear hb)
    | (go_at_call 89; refine (A4.out _ (P4.out.later (Later.trans A0.out (Hid.out (by assumption)))) (HO.out.later (Later.trans A0.out (Hid.out (by assumption))))).mono ?_; rintro e w2 ⟨rfl, hb⟩; have LW := Lib.hid (Later.trans (show Later W0 _ from (Hid.out (by assumption))) hb); obtain ⟨q0, q1, q2, q3, q4, q5⟩ := C0.out _ LW.out; clear hb))
            all_goals
              go_ret
              exact ⟨by rw [HW.out]; rfl, Later.trans A0.out (Hid.out (by assumption))⟩
          · cases b2
            · have HW : Hid (wrtB p = false) := Lib.hid (by rw [HW.out]; rfl)
              go_wp2_with (first
    | (go_at_call 78; refine (N4.out _).mono ?_; rintro e w2 ⟨rfl, hb⟩; have LW := Lib.hid (Later.trans (show Later W0 _ from (Hid.out (by assumption))) hb); obtain ⟨q0, q1, q2, q3, q4, q5⟩ := C0.out _ LW.out; clear hb)
    | (go_at_call_of 88 a1; refine (A1.out _ (P1.out.later (Later.trans A0.out (Hid.out (by assumption))))).mono ?_; rintro e w2 ⟨rfl, hb⟩; have LW := Lib.hid (Later.trans (show Later W0 _ from (Hid.out (by assumption))) hb); obtain ⟨q0, q1, q2, q3, q4, q5⟩ := C0.out _ LW.out; clear hb)
    | (go_at_call_of 88 a2; refine (A2.out _ (P2.out.later (Later.trans A0.out (Hid.out (by assumption))))).mono ?_; rintro e w2 ⟨rfl, hb⟩; have LW := Lib.hid (Later.trans (show Later W0 _ from (Hid.out (by assumption))) hb); obtain ⟨q0, q1, q2, q3, q4, q5⟩ := C0.out _ LW.out; clear hb)
    | (go_at_call_of 88 a3; refine (A3.out _ (P3.out.later (Later.trans A0.out (Hid.out (by assumption))))).mono ?_; rintro e w2 ⟨rfl, hb⟩; have LW := Lib.hid (Later.trans (show Later W0 _ from (Hid.out (by assumption))) hb); obtain ⟨q0, q1, q2, q3, q4, q5⟩ := C0.out _ LW.out; clear hb)
    | (go_at_call 89; refine (A4.out _ (P4.out.later (Later.trans A0.out (Hid.out (by assumption)))) (HO.out.later (Later.trans A0.out (Hid.out (by assumption))))).mono ?_; rintro e w2 ⟨rfl, hb⟩; have LW := Lib.hid (Later.trans (show Later W0 _ from (Hid.out (by assumption))) hb); obtain ⟨q0, q1, q2, q3, q4, q5⟩ := C0.out _ LW.out; clear hb))
              all_goals
                go_ret
                exact ⟨by rw [HW.out]; rfl, Later.trans A0.out (Hid.out (by assumption))⟩
            · cases b3
              · have HW : Hid (wrtB p = false) := Lib.hid (by rw [HW.out]; rfl)
                go_wp2_with (first
    | (go_at_call 78; refine (N4.out _).mono ?_; rintro e w2 ⟨rfl, hb⟩; have LW := Lib.hid (Later.trans (show Later W0 _ from (Hid.out (by assumption))) hb); obtain ⟨q0, q1, q2, q3, q4, q5⟩ := C0.out _ LW.out; clear hb)
    | (go_at_call_of 88 a1; refine (A1.out _ (P1.out.later (Later.trans A0.out (Hid.out (by assumption))))).mono ?_; rintro e w2 ⟨rfl, hb⟩; have LW := Lib.hid (Later.trans (show Later W0 _ from (Hid.out (by assumption))) hb); obtain ⟨q0, q1, q2, q3, q4, q5⟩ := C0.out _ LW.out; clear hb)
    | (go_at_call_of 88 a2; refine (A2.out _ (P2.out.later (Later.trans A0.out (Hid.out (by assumption))))).mono ?_; rintro e w2 ⟨rfl, hb⟩; have LW := Lib.hid (Later.trans (show Later W0 _ from (Hid.out (by assumption))) hb); obtain ⟨q0, q1, q2, q3, q4, q5⟩ := C0.out _ LW.out; clear hb)
    | (go_at_call_of 88 a3; refine (A3.out _ (P3.out.later (Later.trans A0.out (Hid.out (by assumption))))).mono ?_; rintro e w2 ⟨rfl, hb⟩; have LW := Lib.hid (Later.trans (show Later W0 _ from (Hid.out (by assumption))) hb); obtain ⟨q0, q1, q2, q3, q4, q5⟩ := C0.out _ LW.out; clear hb)
    | (go_at_call 89; refine (A4.out _ (P4.out.later (Later.trans A0.out (Hid.out (by assumption)))) (HO.out.later (Later.trans A0.out (Hid.out (by assumption))))).mono ?_; rintro e w2 ⟨rfl, hb⟩; have LW := Lib.hid (Later.trans (show Later W0 _ from (Hid.out (by assumption))) hb); obtain ⟨q0, q1, q2, q3, q4, q5⟩ := C0.out _ LW.out; clear hb))
                all_goals
                  go_ret
                  exact ⟨by rw [HW.out]; rfl, Later.trans A0.out (Hid.out (by assumption))⟩
              · have HW : Hid (wrtB p = b5) := Lib.hid (by rw [HW.out]; rfl)
                go_wp2_with (first
    | (go_at_call 78; refine (N4.out _).mono ?_; rintro e w2 ⟨rfl, hb⟩; have LW := Lib.hid (Later.trans (show Later W0 _ from (Hid.out (by assumption))) hb); obtain ⟨q0, q1, q2, q3, q4, q5⟩ := C0.out _ LW.out; clear hb)
    | (go_at_call_of 88 a1; refine (A1.out _ (P1.out.later (Later.trans A0.out (Hid.out (by assumption))))).mono ?_; rintro e w2 ⟨rfl, hb⟩; have LW := Lib.hid (Later.trans (show Later W0 _ from (Hid.out (by assumption))) hb); obtain ⟨q0, q1, q2, q3, q4, q5⟩ := C0.out _ LW.out; clear hb)
    | (go_at_call_of 88 a2; refine (A2.out _ (P2.out.later (Later.trans A0.out (Hid.out (by assumption))))).mono ?_; rintro e w2 ⟨rfl, hb⟩; have LW := Lib.hid (Later.trans (show Later W0 _ from (Hid.out (by assumption))) hb); obtain ⟨q0, q1, q2, q3, q4, q5⟩ := C0.out _ LW.out; clear hb)
    | (go_at_call_of 88 a3; refine (A3.out _ (P3.out.later (Later.trans A0.out (Hid.out (by assumption))))).mono ?_; rintro e w2 ⟨rfl, hb⟩; have LW := Lib.hid (Later.trans (show Later W0 _ from (Hid.out (by assumption))) hb); obtain ⟨q0, q1, q2, q3, q4, q5⟩ := C0.out _ LW.out; clear hb)
    | (go_at_call 89; refine (A4.out _ (P4.out.later (Later.trans A0.out (Hid.out (by assumption)))) (HO.out.later (Later.trans A0.out (Hid.out (by assumption))))).mono ?_; rintro e w2 ⟨rfl, hb⟩; have LW := Lib.hid (Later.trans (show Later W0 _ from (Hid.out (by assumption))) hb); obtain ⟨q0, q1, q2, q3, q4, q5⟩ := C0.out _ LW.out; clear hb))
                all_goals
                  go_ret
                  exact ⟨by rw [HW.out]; rfl, Later.trans A0.out (Hid.out (by assumption))⟩
    · have HW : Hid (wrtB p = (true && (true || true) && decide (1 ≤ n1) && decide (1 ≤ n3) && b1 && b2 && b3 && b5)) := Lib.hid (by rw [HW.out]; rfl)
      rcases (show n1 = 0 ∨ (1 ≤ n1 ∧ n3 = 0) ∨ (1 ≤ n1 ∧ 1 ≤ n3) by omega) with h | ⟨h, h'⟩ | ⟨h, h'⟩
      · subst h
        go_wp2_with (first
    | (go_at_call 78; refine (N4.out _).mono ?_; rintro e w2 ⟨rfl, hb⟩; have LW := Lib.hid (Later.trans (show Later W0 _ from (Hid.out (by assumption))) hb); obtain ⟨q0, q1, q2, q3, q4, q5⟩ := C0.out _ LW.out; clear hb)
    | (go_at_call_of 88 a1; refine (A1.out _ (P1.out.later (Later.trans A0.out (Hid.out (by assumption))))).mono ?_; rintro e w2 ⟨rfl, hb⟩; have LW := Lib.hid (Later.trans (show Later W0 _ from (Hid.out (by assumption))) hb); obtain ⟨q0, q1, q2, q3, q4, q5⟩ := C0.out _ LW.out; clear hb)
    | (go_at_call_of 88 a2; refine (A2.out _ (P2.out.later (Later.trans A0.out (Hid.out (by assumption))))).mono ?_; rintro e w2 ⟨rfl, hb⟩; have LW := Lib.hid (Later.trans (show Later W0 _ from (Hid.out (by assumption))) hb); obtain ⟨q0, q1, q2, q3, q4, q5⟩ := C0.out _ LW.out; clear hb)
    | (go_at_call_of 88 a3; refine (A3.out _ (P3.out.later (Later.trans A0.out (Hid.out (by assumption))))).mono ?_; rintro e w2 ⟨rfl, hb⟩; have LW := Lib.hid (Later.trans (show Later W0 _ from (Hid.out (by assumption))) hb); obtain ⟨q0, q1, q2, q3, q4, q5⟩ := C0.out _ LW.out; clear hb)
    | (go_at_call 89; refine (A4.out _ (P4.out.later (Later.trans A0.out (Hid.out (by assumption)))) (HO.out.later (Later.trans A0.out (Hid.out (by assumption))))).mono ?_; rintro e w2 ⟨rfl, hb⟩; have LW := Lib.hid (Later.trans (show Later W0 _ from (Hid.out (by assumption))) hb); obtain ⟨q0, q1, q2, q3, q4, q5⟩ := C0.out _ LW.out; clear hb))
        all_goals
          go_ret
          exact ⟨by rw [HW.out]; rfl, Later.trans A0.out (Hid.out (by assumption))⟩
      · subst h'
        rw [decide_eq_true h] at HW
        have e1 : ((n1 : Int) == 0) = false := by simp; omega
        go_wp2_with (first
    | (go_at_call 78; refine (N4.out _).mono ?_; rintro e w2 ⟨rfl, hb⟩; have LW := Lib.hid (Later.trans (show Later W0 _ from (Hid.out (by assumption))) hb); obtain ⟨q0, q1, q2, q3, q4, q5⟩ := C0.out _ LW.out; clear hb)
    | (go_at_call_of 88 a1; refine (A1.out _ (P1.out.later (Later.trans A0.out (Hid.out (by assumption))))).mono ?_; rintro e w2 ⟨rfl, hb⟩; have LW := Lib.hid (Later.trans (show Later W0 _ from (Hid.out (by assumption))) hb); obtain ⟨q0, q1, q2, q3, q4, q5⟩ := C0.out _ LW.out; clear hb)
    | (go_at_call_of 88 a2; refine (A2.out _ (P2.out.later (Later.trans A0.out (Hid.out (by assumption))))).mono ?_; rintro e w2 ⟨rfl, hb⟩; have LW := Lib.hid (Later.trans (show Later W0 _ from (Hid.out (by assumption))) hb); obtain ⟨q0, q1, q2, q3, q4, q5⟩ := C0.out _ LW.out; clear hb)
    | (go_at_call_of 88 a3; refine (A3.out _ (P3.out.later (Later.trans A0.out (Hid.out (by assumption))))).mono ?_; rintro e w2 ⟨rfl, hb⟩; have LW := Lib.hid (Later.trans (show Later W0 _ from (Hid.out (by assumption))) hb); obtain ⟨q0, q1, q2, q3, q4, q5⟩ := C0.out _ LW.out; clear hb)
    | (go_at_call 89; refine (A4.out _ (P4.out.later (Later.trans A0.out (Hid.out (by assumption)))) (HO.out.later (Later.trans A0.out (Hid.out (by assumption))))).mono ?_; rintro e w2 ⟨rfl, hb⟩; have LW := Lib.hid (Later.trans (show Later W0 _ from (Hid.out (by assumption))) hb); obtain ⟨q0, q1, q2, q3, q4, q5⟩ := C0.out _ LW.out; clear hb))
        all_goals
          go_ret
          exact ⟨by rw [HW.out]; rfl, Later.trans A0.out (Hid.out (by assumption))⟩
      · rw [decide_eq_true h, decide_eq_true h'] at HW
        have e1 : ((n1 : Int) == 0) = false := by simp; omega
        have e3 : ((n3 : Int) == 0) = false := by simp; omega
        clear h h'
        cases b1
        · have HW : Hid (wrtB p = false) := Lib.hid (by rw [HW.out]; rfl)
          go_wp2_with (first
    | (go_at_call 78; refine (N4.out _).mono ?_; rintro e w2 ⟨rfl, hb⟩; have LW := Lib.hid (Later.trans (show Later W0 _ from (Hid.out (by assumption))) hb); obtain ⟨q0, q1, q2, q3, q4, q5⟩ := C0.out _ LW.out; clear hb)
    | (go_at_call_of 88 a1; refine (A1.out _ (P1.out.later (Later.trans A0.out (Hid.out (by assumption))))).mono ?_; rintro e w2 ⟨rfl, hb⟩; have LW := Lib.hid (Later.trans (show Later W0 _ from (Hid.out (by assumption))) hb); obtain ⟨q0, q1, q2, q3, q4, q5⟩ := C0.out _ LW.out; clear hb)
    | (go_at_call_of 88 a2; refine (A2.out _ (P2.out.later (Later.trans A0.out (Hid.out (by assumption))))).mono ?_; rintro e w2 ⟨rfl, hb⟩; have LW := Lib.hid (Later.trans (show Later W0 _ from (Hid.out (by assumption))) hb); obtain ⟨q0, q1, q2, q3, q4, q5⟩ := C0.out _ LW.out; clear hb)
    | (go_at_call_of 88 a3; refine (A3.out _ (P3.out.later (Later.trans A0.out (Hid.out (by assumption))))).mono ?_; rintro e w2 ⟨rfl, hb⟩; have LW := Lib.hid (Later.trans (show Later W0 _ from (Hid.out (by assumption))) hb); obtain ⟨q0, q1, q2, q3, q4, q5⟩ := C0.out _ LW.out; clear hb)
    | (go_at_call 89; refine (A4.out _ (P4.out.later (Later.trans A0.out (Hid.out (by assumption)))) (HO.out.later (Later.trans A0.out (Hid.out (by assumption))))).mono ?_; rintro e w2 ⟨rfl, hb⟩; have LW := Lib.hid (Later.trans (show Later W0 _ from (Hid.out (by assumption))) hb); obtain ⟨q0, q1, q2, q3, q4, q5⟩ := C0.out _ LW.out; clear hb))
          all_goals
            go_ret
            exact ⟨by rw [HW.out]; rfl, Later.trans A0.out (Hid.out (by assumption))⟩
        · cases b2
          · have HW : Hid (wrtB p = false) := Lib.hid (by rw [HW.out]; rfl)
            go_wp2_with (first
    | (go_at_call 78; refine (N4.out _).mono ?_; rintro e w2 ⟨rfl, hb⟩; have LW := Lib.hid (Later.trans (show Later W0 _ from (Hid.out (by assumption))) hb); obtain ⟨q0, q1, q2, q3, q4, q5⟩ := C0.out _ LW.out; clear hb)
    | (go_at_call_of 88 a1; refine (A1.out _ (P1.out.later (Later.trans A0.out (Hid.out (by assumption))))).mono ?_; rintro e w2 ⟨rfl, hb⟩; have LW := Lib.hid (Later.trans (show Later W0 _ from (Hid.out (by assumption))) hb); obtain ⟨q0, q1, q2, q3, q4, q5⟩ := C0.out _ LW.out; clear hb)
    | (go_at_call_of 88 a2; refine (A2.out _ (P2.out.later (Later.trans A0.out (Hid.out (by assumption))))).mono ?_; rintro e w2 ⟨rfl, hb⟩; have LW := Lib.hid (Later.trans (show Later W0 _ from (Hid.out (by assumption))) hb); obtain ⟨q0, q1, q2, q3, q4, q5⟩ := C0.out _ LW.out; clear hb)
    | (go_at_call_of 88 a3; refine (A3.out _ (P3.out.later (Later.trans A0.out (Hid.out (by assumption))))).mono ?_; rintro e w2 ⟨rfl, hb⟩; have LW := Lib.hid (Later.trans (show Later W0 _ from (Hid.out (by assumption))) hb); obtain ⟨q0, q1, q2, q3, q4, q5⟩ := C0.out _ LW.out; clear hb)
    | (go_at_call 89; refine (A4.out _ (P4.out.later (Later.trans A0.out (Hid.out (by assumption)))) (HO.out.later (Later.trans A0.out (Hid.out (by assumption))))).mono ?_; rintro e w2 ⟨rfl, hb⟩; have LW := Lib.hid (Later.trans (show Later W0 _ from (Hid.out (by assumption))) hb); obtain ⟨q0, q1, q2, q3, q4, q5⟩ := C0.out _ LW.out; clear hb))
            all_goals
              go_ret
              exact ⟨by rw [HW.out]; rfl, Later.trans A0.out (Hid.out (by assumption))⟩
          · cases b3
            · have HW : Hid (wrtB p = false) := Lib.hid (by rw [HW.out]; rfl)
              go_wp2_with (first
    | (go_at_call 78; refine (N4.out _).mono ?_; rintro e w2 ⟨rfl, hb⟩; have LW := Lib.hid (Later.trans (show Later W0 _ from (Hid.out (by assumption))) hb); obtain ⟨q0, q1, q2, q3, q4, q5⟩ := C0.out _ LW.out; clear hb)
    | (go_at_call_of 88 a1; refine (A1.out _ (P1.out.later (Later.trans A0.out (Hid.out (by assumption))))).mono ?_; rintro e w2 ⟨rfl, hb⟩; have LW := Lib.hid (Later.trans (show Later W0 _ from (Hid.out (by assumption))) hb); obtain ⟨q0, q1, q2, q3, q4, q5⟩ := C0.out _ LW.out; clear hb)
    | (go_at_call_of 88 a2; refine (A2.out _ (P2.out.later (Later.trans A0.out (Hid.out (by assumption))))).mono ?_; rintro e w2 ⟨rfl, hb⟩; have LW := Lib.hid (Later.trans (show Later W0 _ from (Hid.out (by assumption))) hb); obtain ⟨q0, q1, q2, q3, q4, q5⟩ := C0.out _ LW.out; clear hb)
    | (go_at_call_of 88 a3; refine (A3.out _ (P3.out.later (Later.trans A0.out (Hid.out (by assumption))))).mono ?_; rintro e w2 ⟨rfl, hb⟩; have LW := Lib.hid (Later.trans (show Later W0 _ from (Hid.out (by assumption))) hb); obtain ⟨q0, q1, q2, q3, q4, q5⟩ := C0.out _ LW.out; clear hb)
    | (go_at_call 89; refine (A4.out _ (P4.out.later (Later.trans A0.out (Hid.out (by assumption)))) (HO.out.later (Later.trans A0.out (Hid.out (by assumption))))).mono ?_; rintro e w2 ⟨rfl, hb⟩; have LW := Lib.hid (Later.trans (show Later W0 _ from (Hid.out (by assumption))) hb); obtain ⟨q0, q1, q2, q3, q4, q5⟩ := C0.out _ LW.out; clear hb))
              all_goals
                go_ret
                exact ⟨by rw [HW.out]; rfl, Later.trans A0.out (Hid.out (by assumption))⟩
            · have HW : Hid (wrtB p = b5) := Lib.hid (by rw [HW.out]; rfl)
              go_wp2_with (first
    | (go_at_call 78; refine (N4.out _).mono ?_; rintro e w2 ⟨rfl, hb⟩; have LW := Lib.hid (Later.trans (show Later W0 _ from (Hid.out (by assumption))) hb); obtain ⟨q0, q1, q2, q3, q4, q5⟩ := C0.out _ LW.out; clear hb)
    | (go_at_call_of 88 a1; refine (A1.out _ (P1.out.later (Later.trans A0.out (Hid.out (by assumption))))).mono ?_; rintro e w2 ⟨rfl, hb⟩; have LW := Lib.hid (Later.trans (show Later W0 _ from (Hid.out (by assumption))) hb); obtain ⟨q0, q1, q2, q3, q4, q5⟩ := C0.out _ LW.out; clear hb)
    | (go_at_call_of 88 a2; refine (A2.out _ (P2.out.later (Later.trans A0.out (Hid.out (by assumption))))).mono ?_; rintro e w2 ⟨rfl, hb⟩; have LW := Lib.hid (Later.trans (show Later W0 _ from (Hid.out (by assumption))) hb); obtain ⟨q0, q1, q2, q3, q4, q5⟩ := C0.out _ LW.out; clear hb)
    | (go_at_call_of 88 a3; refine (A3.out _ (P3.out.later (Later.trans A0.out (Hid.out (by assumption))))).mono ?_; rintro e w2 ⟨rfl, hb⟩; have LW := Lib.hid (Later.trans (show Later W0 _ from (Hid.out (by assumption))) hb); obtain ⟨q0, q1, q2, q3, q4, q5⟩ := C0.out _ LW.out; clear hb)
    | (go_at_call 89; refine (A4.out _ (P4.out.later (Later.trans A0.out (Hid.out (by assumption)))) (HO.out.later (Later.trans A0.out (Hid.out (by assumption))))).mono ?_; rintro e w2 ⟨rfl, hb⟩; have LW := Lib.hid (Later.trans (show Later W0 _ from (Hid.out (by assumption))) hb); obtain ⟨q0, q1, q2, q3, q4, q5⟩ := C0.out _ LW.out; clear hb))
              all_goals
                go_ret
                exact ⟨by rw [HW.out]; rfl, Later.trans A0.out (Hid.out (by assumption))⟩
end Go.Proofs.YtokipobjpinhmaaDoor
namespace Go.Proofs.YtokipobjpinhmaaDoor
open Go.RowKit Go.Shelf
set_option maxHeartbeats 4000000
set_option maxRecDepth 100000
set_option linter.unusedVariables false
set_option linter.unusedSimpArgs false
theorem wrtB_model (p : Prg) : wrtB p = (nmB p.nm && (nmsB p.ins && decide (1 ≤ p.ins.length)) && (nmsB p.vrs && decide (0 ≤ p.vrs.length)) && (nmsB p.outs && decide (1 ≤ p.outs.length)) && (decide (p.grd = []) || nmB p.grd) && lnsB p.lns) := by
  unfold wrtB
  rw [decide_eq_true (Nat.zero_le p.vrs.length)]
  cases nmB p.nm <;> cases nmsB p.ins <;> cases decide (1 ≤ p.ins.length) <;> cases nmsB p.vrs <;> cases nmsB p.outs <;> cases decide (1 ≤ p.outs.length) <;> cases decide (p.grd = []) <;> cases nmB p.grd <;> cases lnsB p.lns <;> rfl
theorem s_IsWritten (v : Value) (p : Prg) (w : World) (hp : PgV w v p) (hl : p.lns.length ≤ 1000000000) : Calls Tryd.prog 51 #[v] w fun e w' => e = .returned (.bool (wrtB p)) ∧ Later w w' := by
  obtain ⟨a1, c1, a2, c2, a3, c3, a4, c4, rfl, h1, h2, h3, h4, h5, h6⟩ := hp
  have P1 := Lib.hid h1; have P2 := Lib.hid h2; have P3 := Lib.hid h3; have P4 := Lib.hid h4
  have N0 : Hid (∀ W, Calls Tryd.prog 74 #[.string (tx p.nm)] W fun e w' => e = .returned (.bool (nmB p.nm)) ∧ Later W w') := Lib.hid (fun W => s_Name (tx p.nm) W h5)
  have N4 : Hid (∀ W, Calls Tryd.prog 74 #[.string (tx p.grd)] W fun e w' => e = .returned (.bool (nmB p.grd)) ∧ Later W w') := Lib.hid (fun W => s_Name (tx p.grd) W h6)
  have A1 := Lib.hid (fun W h => s_Names a1 p.ins.length c1 p.ins 1 W (by omega) h)
  have A2 := Lib.hid (fun W h => s_Names a2 p.vrs.length c2 p.vrs 0 W (by omega) h)
  have A3 := Lib.hid (fun W h => s_Names a3 p.outs.length c3 p.outs 1 W (by omega) h)
  have EG : ((tx p.grd).toList.isEmpty) = decide (p.grd = []) := by
    rw [Lib.toList_data]
    show p.grd.isEmpty = _
    cases p.grd <;> simp
  have HW : Hid (wrtB p = (nmB p.nm && (nmsB p.ins && decide (1 ≤ p.ins.length)) && (nmsB p.vrs && decide (0 ≤ p.vrs.length)) && (nmsB p.outs && decide (1 ≤ p.outs.length)) && (decide (p.grd = []) || nmB p.grd) && lnsB p.lns)) := Lib.hid (wrtB_model p)
  have hn4 := P4.out.2.1
  obtain ⟨s0, hs0⟩ : ∃ q, q = tx p.nm := ⟨_, rfl⟩
  obtain ⟨s4, hs4⟩ : ∃ q, q = tx p.grd := ⟨_, rfl⟩
  obtain ⟨n1, hn1q⟩ : ∃ q, q = p.ins.length := ⟨_, rfl⟩
  obtain ⟨n2, hn2q⟩ : ∃ q, q = p.vrs.length := ⟨_, rfl⟩
  obtain ⟨n3, hn3q⟩ : ∃ q, q = p.outs.length := ⟨_, rfl⟩
  obtain ⟨n4, hn4q⟩ : ∃ q, q = p.lns.length := ⟨_, rfl⟩
  obtain ⟨M, hM⟩ : ∃ q, q = p.lns := ⟨_, rfl⟩
  obtain ⟨b0, hb0⟩ : ∃ q, q = nmB p.nm := ⟨_, rfl⟩
  obtain ⟨b4, hb4⟩ : ∃ q, q = nmB p.grd := ⟨_, rfl⟩
  obtain ⟨g0, hg0⟩ : ∃ q, q = decide (p.grd = []) := ⟨_, rfl⟩
  obtain ⟨d1, hd1⟩ : ∃ q, q = (nmsB p.ins && decide (1 ≤ p.ins.length)) := ⟨_, rfl⟩
  obtain ⟨d2, hd2⟩ : ∃ q, q = (nmsB p.vrs && decide (0 ≤ p.vrs.length)) := ⟨_, rfl⟩
  obtain ⟨d3, hd3⟩ : ∃ q, q = (nmsB p.outs && decide (1 ≤ p.outs.length)) := ⟨_, rfl⟩
  rw [← hd1] at A1 HW; rw [← hd2] at A2 HW; rw [← hd3] at A3 HW
  rw [← hs0] at N0; rw [← hs4] at N4 EG; rw [← hb0] at N0 HW; rw [← hb4] at N4 HW; rw [← hg0] at EG HW
  rw [← hn1q] at A1 P1; rw [← hn2q] at A2 P2; rw [← hn3q] at A3 P3; rw [← hn4q] at P4 hn4 hl; rw [← hM] at P4 HW
  rw [← hs0, ← hs4, ← hn1q, ← hn2q, ← hn3q, ← hn4q]
  have HL := Lib.hid P4.out.1
  clear hs0 hs4 hn1q hn2q hn3q hn4q hM hb0 hb4 hg0 hd1 hd2 hd3 h1 h2 h3 h4 h5 h6
  have q0 : (w.alloc (.cells #[.string s0, .slice a1 n1 c1, .slice a2 n2 c2, .slice a3 n3 c3, .string s4, .slice a4 n4 c4] 27)).cell? ⟨w.heap.size, 0, none⟩ = some (.string s0) := by rw [cell_of_row _ _ 0 _ _ (0, 0) (heap_alloc_new w _)]; rfl
  have q1 : (w.alloc (.cells #[.string s0, .slice a1 n1 c1, .slice a2 n2 c2, .slice a3 n3 c3, .string s4, .slice a4 n4 c4] 27)).cell? ⟨w.heap.size, 1, none⟩ = some (.slice a1 n1 c1) := by rw [cell_of_row _ _ 1 _ _ (0, 0) (heap_alloc_new w _)]; rfl
  have q2 : (w.alloc (.cells #[.string s0, .slice a1 n1 c1, .slice a2 n2 c2, .slice a3 n3 c3, .string s4, .slice a4 n4 c4] 27)).cell? ⟨w.heap.size, 2, none⟩ = some (.slice a2 n2 c2) := by rw [cell_of_row _ _ 2 _ _ (0, 0) (heap_alloc_new w _)]; rfl
  have q3 : (w.alloc (.cells #[.string s0, .slice a1 n1 c1, .slice a2 n2 c2, .slice a3 n3 c3, .string s4, .slice a4 n4 c4] 27)).cell? ⟨w.heap.size, 3, none⟩ = some (.slice a3 n3 c3) := by rw [cell_of_row _ _ 3 _ _ (0, 0) (heap_alloc_new w _)]; rfl
  have q4 : (w.alloc (.cells #[.string s0, .slice a1 n1 c1, .slice a2 n2 c2, .slice a3 n3 c3, .string s4, .slice a4 n4 c4] 27)).cell? ⟨w.heap.size, 4, none⟩ = some (.string s4) := by rw [cell_of_row _ _ 4 _ _ (0, 0) (heap_alloc_new w _)]; rfl
  have q5 : (w.alloc (.cells #[.string s0, .slice a1 n1 c1, .slice a2 n2 c2, .slice a3 n3 c3, .string s4, .slice a4 n4 c4] 27)).cell? ⟨w.heap.size, 5, none⟩ = some (.slice a4 n4 c4) := by rw [cell_of_row _ _ 5 _ _ (0, 0) (heap_alloc_new w _)]; rfl
  have hW0 : w.heap.size < (w.alloc (.cells #[.string s0, .slice a1 n1 c1, .slice a2 n2 c2, .slice a3 n3 c3, .string s4, .slice a4 n4 c4] 27)).heap.size := by rw [World.size_alloc]; exact Nat.lt_succ_self _
  have C0 : Hid (∀ W', Later (w.alloc (.cells #[.string s0, .slice a1 n1 c1, .slice a2 n2 c2, .slice a3 n3 c3, .string s4, .slice a4 n4 c4] 27)) W' → W'.cell? ⟨w.heap.size, 0, none⟩ = some (.string s0) ∧ W'.cell? ⟨w.heap.size, 1, none⟩ = some (.slice a1 n1 c1) ∧ W'.cell? ⟨w.heap.size, 2, none⟩ = some (.slice a2 n2 c2) ∧ W'.cell? ⟨w.heap.size, 3, none⟩ = some (.slice a3 n3 c3) ∧ W'.cell? ⟨w.heap.size, 4, none⟩ = some (.string s4) ∧ W'.cell? ⟨w.heap.size, 5, none⟩ = some (.slice a4 n4 c4)) := Lib.hid (fun W' q => ⟨by rw [q.cell (p := ⟨w.heap.size, 0, none⟩) hW0]; exact q0, by rw [q.cell (p := ⟨w.heap.size, 1, none⟩) hW0]; exact q1, by rw [q.cell (p := ⟨w.heap.size, 2, none⟩) hW0]; exact q2, by rw [q.cell (p := ⟨w.heap.size, 3, none⟩) hW0]; exact q3, by rw [q.cell (p := ⟨w.heap.size, 4, none⟩) hW0]; exact q4, by rw [q.cell (p := ⟨w.heap.size, 5, none⟩) hW0]; exact q5⟩)
  have A0 : Hid (Later w (w.alloc (.cells #[.string s0, .slice a1 n1 c1, .slice a2 n2 c2, .slice a3 n3 c3, .string s4, .slice a4 n4 c4] 27))) := Lib.hid ((Later.refl _).alloc _)
  clear hW0
  go_enter Tryd.func51, Tryd.ntmps51
  go_wp2_with fail
  generalize w.alloc (.cells #[.string s0, .slice a1 n1 c1, .slice a2 n2 c2, .slice a3 n3 c3, .string s4, .slice a4 n4 c4] 27) = W0 at C0 A0 q0 q1 q2 q3 q4 q5 ⊢
  clear q0 q1 q2 q3 q4 q5
  refine (N0.out _).mono ?_
  rintro e w1 ⟨rfl, hb⟩
  have L1 := Lib.hid (show Later W0 w1 from hb)
  obtain ⟨q0, q1, q2, q3, q4, q5⟩ := C0.out _ hb
  clear hb
  cases b0
  · have HWF : Hid (wrtB p = false) := Lib.hid (by rw [HW.out]; rfl)
    go_wp2_with fail
    all_goals
      go_ret
      exact ⟨by rw [HWF.out]; rfl, Later.trans A0.out L1.out⟩
  cases d1
  · have HWF : Hid (wrtB p = false) := Lib.hid (by rw [HW.out]; rfl)
    go_wp2_with (first
    | (go_at_call_of 74 s4; refine (N4.out _).mono ?_; rintro e w2 ⟨rfl, hb⟩; have LW := Lib.hid (Later.trans (show Later W0 _ from (Hid.out (by assumption))) hb); obtain ⟨q0, q1, q2, q3, q4, q5⟩ := C0.out _ LW.out; clear hb)
    | (go_at_call_of 96 a1; refine (A1.out _ (P1.out.later (Later.trans A0.out (Hid.out (by assumption))))).mono ?_; rintro e w2 ⟨rfl, hb⟩; have LW := Lib.hid (Later.trans (show Later W0 _ from (Hid.out (by assumption))) hb); obtain ⟨q0, q1, q2, q3, q4, q5⟩ := C0.out _ LW.out; clear hb)
    | (go_at_call_of 96 a2; refine (A2.out _ (P2.out.later (Later.trans A0.out (Hid.out (by assumption))))).mono ?_; rintro e w2 ⟨rfl, hb⟩; have LW := Lib.hid (Later.trans (show Later W0 _ from (Hid.out (by assumption))) hb); obtain ⟨q0, q1, q2, q3, q4, q5⟩ := C0.out _ LW.out; clear hb)
    | (go_at_call_of 96 a3; refine (A3.out _ (P3.out.later (Later.trans A0.out (Hid.out (by assumption))))).mono ?_; rintro e w2 ⟨rfl, hb⟩; have LW := Lib.hid (Later.trans (show Later W0 _ from (Hid.out (by assumption))) hb); obtain ⟨q0, q1, q2, q3, q4, q5⟩ := C0.out _ LW.out; clear hb))
    all_goals
      go_ret
      exact ⟨by rw [HWF.out]; rfl, Later.trans A0.out (Hid.out (by assumption))⟩
  cases d2
  · have HWF : Hid (wrtB p = false) := Lib.hid (by rw [HW.out]; rfl)
    go_wp2_with (first
    | (go_at_call_of 74 s4; refine (N4.out _).mono ?_; rintro e w2 ⟨rfl, hb⟩; have LW := Lib.hid (Later.trans (show Later W0 _ from (Hid.out (by assumption))) hb); obtain ⟨q0, q1, q2, q3, q4, q5⟩ := C0.out _ LW.out; clear hb)
    | (go_at_call_of 96 a1; refine (A1.out _ (P1.out.later (Later.trans A0.out (Hid.out (by assumption))))).mono ?_; rintro e w2 ⟨rfl, hb⟩; have LW := Lib.hid (Later.trans (show Later W0 _ from (Hid.out (by assumption))) hb); obtain ⟨q0, q1, q2, q3, q4, q5⟩ := C0.out _ LW.out; clear hb)
    | (go_at_call_of 96 a2; refine (A2.out _ (P2.out.later (Later.trans A0.out (Hid.out (by assumption))))).mono ?_; rintro e w2 ⟨rfl, hb⟩; have LW := Lib.hid (Later.trans (show Later W0 _ from (Hid.out (by assumption))) hb); obtain ⟨q0, q1, q2, q3, q4, q5⟩ := C0.out _ LW.out; clear hb)
    | (go_at_call_of 96 a3; refine (A3.out _ (P3.out.later (Later.trans A0.out (Hid.out (by assumption))))).mono ?_; rintro e w2 ⟨rfl, hb⟩; have LW := Lib.hid (Later.trans (show Later W0 _ from (Hid.out (by assumption))) hb); obtain ⟨q0, q1, q2, q3, q4, q5⟩ := C0.out _ LW.out; clear hb))
    all_goals
      go_ret
      exact ⟨by rw [HWF.out]; rfl, Later.trans A0.out (Hid.out (by assumption))⟩
  cases d3
  · have HWF : Hid (wrtB p = false) := Lib.hid (by rw [HW.out]; rfl)
    go_wp2_with (first
    | (go_at_call_of 74 s4; refine (N4.out _).mono ?_; rintro e w2 ⟨rfl, hb⟩; have LW := Lib.hid (Later.trans (show Later W0 _ from (Hid.out (by assumption))) hb); obtain ⟨q0, q1, q2, q3, q4, q5⟩ := C0.out _ LW.out; clear hb)
    | (go_at_call_of 96 a1; refine (A1.out _ (P1.out.later (Later.trans A0.out (Hid.out (by assumption))))).mono ?_; rintro e w2 ⟨rfl, hb⟩; have LW := Lib.hid (Later.trans (show Later W0 _ from (Hid.out (by assumption))) hb); obtain ⟨q0, q1, q2, q3, q4, q5⟩ := C0.out _ LW.out; clear hb)
    | (go_at_call_of 96 a2; refine (A2.out _ (P2.out.later (Later.trans A0.out (Hid.out (by assumption))))).mono ?_; rintro e w2 ⟨rfl, hb⟩; have LW := Lib.hid (Later.trans (show Later W0 _ from (Hid.out (by assumption))) hb); obtain ⟨q0, q1, q2, q3, q4, q5⟩ := C0.out _ LW.out; clear hb)
    | (go_at_call_of 96 a3; refine (A3.out _ (P3.out.later (Later.trans A0.out (Hid.out (by assumption))))).mono ?_; rintro e w2 ⟨rfl, hb⟩; have LW := Lib.hid (Later.trans (show Later W0 _ from (Hid.out (by assumption))) hb); obtain ⟨q0, q1, q2, q3, q4, q5⟩ := C0.out _ LW.out; clear hb))
    all_goals
      go_ret
      exact ⟨by rw [HWF.out]; rfl, Later.trans A0.out (Hid.out (by assumption))⟩
  cases g0
  · cases b4
    · have HWF : Hid (wrtB p = false) := Lib.hid (by rw [HW.out]; rfl)
      go_wp2_with (first
    | (go_at_call_of 74 s4; refine (N4.out _).mono ?_; rintro e w2 ⟨rfl, hb⟩; have LW := Lib.hid (Later.trans (show Later W0 _ from (Hid.out (by assumption))) hb); obtain ⟨q0, q1, q2, q3, q4, q5⟩ := C0.out _ LW.out; clear hb)
    | (go_at_call_of 96 a1; refine (A1.out _ (P1.out.later (Later.trans A0.out (Hid.out (by assumption))))).mono ?_; rintro e w2 ⟨rfl, hb⟩; have LW := Lib.hid (Later.trans (show Later W0 _ from (Hid.out (by assumption))) hb); obtain ⟨q0, q1, q2, q3, q4, q5⟩ := C0.out _ LW.out; clear hb)
    | (go_at_call_of 96 a2; refine (A2.out _ (P2.out.later (Later.trans A0.out (Hid.out (by assumption))))).mono ?_; rintro e w2 ⟨rfl, hb⟩; have LW := Lib.hid (Later.trans (show Later W0 _ from (Hid.out (by assumption))) hb); obtain ⟨q0, q1, q2, q3, q4, q5⟩ := C0.out _ LW.out; clear hb)
    | (go_at_call_of 96 a3; refine (A3.out _ (P3.out.later (Later.trans A0.out (Hid.out (by assumption))))).mono ?_; rintro e w2 ⟨rfl, hb⟩; have LW := Lib.hid (Later.trans (show Later W0 _ from (Hid.out (by assumption))) hb); obtain ⟨q0, q1, q2, q3, q4, q5⟩ := C0.out _ LW.out; clear hb))
      all_goals
        go_ret
        exact ⟨by rw [HWF.out]; rfl, Later.trans A0.out (Hid.out (by assumption))⟩
    · have HW : Hid (wrtB p = lnsB M) := Lib.hid (by rw [HW.out]; rfl)
      go_wp2_with (first
          | (go_at_call_of 74 s4; refine (N4.out _).mono ?_; rintro e w2 ⟨rfl, hb⟩; have LW := Lib.hid (Later.trans (show Later W0 _ from (Hid.out (by assumption))) hb); obtain ⟨q0, q1, q2, q3, q4, q5⟩ := C0.out _ LW.out; clear hb)
          | (go_at_call_of 96 a1; refine (A1.out _ (P1.out.later (Later.trans A0.out (Hid.out (by assumption))))).mono ?_; rintro e w2 ⟨rfl, hb⟩; have LW := Lib.hid (Later.trans (show Later W0 _ from (Hid.out (by assumption))) hb); obtain ⟨q0, q1, q2, q3, q4, q5⟩ := C0.out _ LW.out; clear hb)
          | (go_at_call_of 96 a2; refine (A2.out _ (P2.out.later (Later.trans A0.out (Hid.out (by assumption))))).mono ?_; rintro e w2 ⟨rfl, hb⟩; have LW := Lib.hid (Later.trans (show Later W0 _ from (Hid.out (by assumption))) hb); obtain ⟨q0, q1, q2, q3, q4, q5⟩ := C0.out _ LW.out; clear hb)
          | (go_at_call_of 96 a3; refine (A3.out _ (P3.out.later (Later.trans A0.out (Hid.out (by assumption))))).mono ?_; rintro e w2 ⟨rfl, hb⟩; have LW := Lib.hid (Later.trans (show Later W0 _ from (Hid.out (by assumption))) hb); obtain ⟨q0, q1, q2, q3, q4, q5⟩ := C0.out _ LW.out; clear hb))
      clear q0 q1 q2 q3 q4 q5
      go_loopw [3] (fun i wr => ∃ k : Nat, k ≤ n4 ∧ i = .int .i64 k ∧ Later W0 wr ∧ Hid (∀ j, j < k → lnOk M j = true)) (fun i _ => n4 - (intOf i).toNat)
      case atStart => exact ⟨0, by omega, rfl, (Hid.out (by assumption)), Lib.hid (by intro j h; omega)⟩
      case round =>
        obtain ⟨k, hk, rfl, hb, HI⟩ := hrel
        have B3 := Lib.hid hb
        obtain ⟨q0, q1, q2, q3, q4, q5⟩ := C0.out _ hb
        by_cases hlt : k < n4
        · have PL := Lib.hid (P4.out.later (Later.trans A0.out hb))
          obtain ⟨b, off, ta, tc, rfl, z0, z1, z2⟩ := PL.out.2.2.1 k hlt
          have hle := (PL.out.rng k hlt).1
          have hle2 := (PL.out.rng k hlt).2
          have HT2 := Lib.hid z2
          have IN : Hid (∀ W', Calls Tryd.prog 74 #[.string (tx (ltx M k))] W' fun e w' => e = .returned (.bool (nmB (ltx M k))) ∧ Later W' w') := Lib.hid (fun W' => s_Name (tx (ltx M k)) W' hle)
          have IE := Lib.hid (fun W' h1 => s_IsExpression ta (lrx M k).length tc (lrx M k) W' h1 (by omega))
          have HK : Hid (lnOk M k = (nmB (ltx M k) && exB (lrx M k))) := Lib.hid rfl
          obtain ⟨y, hy⟩ : ∃ y, y = tx (ltx M k) := ⟨_, rfl⟩
          obtain ⟨q, hq⟩ : ∃ y, y = (lrx M k).length := ⟨_, rfl⟩
          obtain ⟨t1, ht1⟩ : ∃ b, b = nmB (ltx M k) := ⟨_, rfl⟩
          obtain ⟨t2, ht2⟩ : ∃ b, b = exB (lrx M k) := ⟨_, rfl⟩
          rw [← hy] at z0 IN; rw [← hq] at z1 IE HT2
          rw [← ht1] at IN HK; rw [← ht2] at IE HK
          have Z0 := Lib.hid z0; have Z1 := Lib.hid z1
          have KL : Hid (∀ W', Later wr W' → W'.cell? ⟨b, off + k * 2, none⟩ = some (.string y) ∧ W'.cell? ⟨b, off + k * 2 + 1, none⟩ = some (.slice ta q tc)) := Lib.hid (fun W' h => ⟨by rw [h.cell (p := ⟨b, off + k * 2, none⟩) (cell_lt Z0.out)]; exact Z0.out, by rw [h.cell (p := ⟨b, off + k * 2 + 1, none⟩) (cell_lt Z0.out)]; exact Z1.out⟩)
          clear hy hq ht1 ht2 hb hle hle2 z2
          cases t1
          · have HB : Hid (lnsB M = false) := Lib.hid (by unfold lnsB; rw [allL_bad M k (by rw [HL.out]; exact hlt) (by rw [HK.out]; rfl)]; rfl)
            go_wp2_with (go_at_call 74; refine (IN.out _).mono ?_; rintro e w3 ⟨rfl, hb⟩; have L3 := Lib.hid (Later.trans B3.out hb); obtain ⟨q0, q1, q2, q3, q4, q5⟩ := C0.out _ L3.out; obtain ⟨z0, z1⟩ := KL.out _ hb; clear hb)
            all_goals
              go_ret
              exact ⟨by rw [HW.out, HB.out]; rfl, Later.trans A0.out L3.out⟩
          · cases t2
            · have HB : Hid (lnsB M = false) := Lib.hid (by unfold lnsB; rw [allL_bad M k (by rw [HL.out]; exact hlt) (by rw [HK.out]; rfl)]; rfl)
              go_wp2_with (first | (go_at_call 74; refine (IN.out _).mono ?_; rintro e w3 ⟨rfl, hb⟩; have LR := Lib.hid hb; have L3 := Lib.hid (Later.trans B3.out hb); obtain ⟨q0, q1, q2, q3, q4, q5⟩ := C0.out _ L3.out; obtain ⟨z0, z1⟩ := KL.out _ hb; clear hb) | (go_at_call 97; refine (IE.out _ (HT2.out.later LR.out)).mono ?_; rintro e w4 ⟨rfl, hb⟩; have L4 := Lib.hid (Later.trans L3.out hb); clear hb))
              all_goals
                go_ret
                exact ⟨by rw [HW.out, HB.out]; rfl, Later.trans A0.out L4.out⟩
            · go_wp2_with (first | (go_at_call 74; refine (IN.out _).mono ?_; rintro e w3 ⟨rfl, hb⟩; have LR := Lib.hid hb; have L3 := Lib.hid (Later.trans B3.out hb); obtain ⟨q0, q1, q2, q3, q4, q5⟩ := C0.out _ L3.out; obtain ⟨z0, z1⟩ := KL.out _ hb; clear hb) | (go_at_call 97; refine (IE.out _ (HT2.out.later LR.out)).mono ?_; rintro e w4 ⟨rfl, hb⟩; have L4 := Lib.hid (Later.trans L3.out hb); clear hb))
              all_goals
                go_roundw
                case rel =>
                  refine ⟨k + 1, by omega, by go_num, L4.out, Lib.hid ?_⟩
                  intro q hq
                  rcases Nat.lt_or_ge q k with h1 | h1
                  · exact HI.out q h1
                  · obtain rfl : q = k := by omega
                    exact HK.out
                case measure => simp [intOf]; omega
        · obtain rfl : k = n4 := by omega
          have HF : Hid (lnsB M = (decide ((1 : Int) ≤ (k : Int)) && decide ((k : Int) ≤ 40))) := Lib.hid (by
            unfold lnsB; rw [allL_all M (by rw [HL.out]; exact HI.out), HL.out, Bool.true_and]
            congr 1
            · exact decide_eq_decide.2 (by omega)
            · exact decide_eq_decide.2 (by omega))
          have IR := Lib.hid (fun W' => s_InR (k : Int) 1 40 W' ⟨by omega, by omega⟩)
          obtain ⟨t, ht⟩ : ∃ t, t = (decide ((1 : Int) ≤ (k : Int)) && decide ((k : Int) ≤ 40)) := ⟨_, rfl⟩
          rw [← ht] at HF IR
          clear hb ht
          go_wp2_with (go_at_call 98; refine (IR.out _).mono ?_; rintro e w' ⟨rfl, rfl⟩)
          go_ret
          exact ⟨by rw [HW.out, HF.out]; rfl, Later.trans A0.out B3.out⟩
  · have HW : Hid (wrtB p = lnsB M) := Lib.hid (by rw [HW.out]; rfl)
    go_wp2_with (first
        | (go_at_call_of 74 s4; refine (N4.out _).mono ?_; rintro e w2 ⟨rfl, hb⟩; have LW := Lib.hid (Later.trans (show Later W0 _ from (Hid.out (by assumption))) hb); obtain ⟨q0, q1, q2, q3, q4, q5⟩ := C0.out _ LW.out; clear hb)
        | (go_at_call_of 96 a1; refine (A1.out _ (P1.out.later (Later.trans A0.out (Hid.out (by assumption))))).mono ?_; rintro e w2 ⟨rfl, hb⟩; have LW := Lib.hid (Later.trans (show Later W0 _ from (Hid.out (by assumption))) hb); obtain ⟨q0, q1, q2, q3, q4, q5⟩ := C0.out _ LW.out; clear hb)
        | (go_at_call_of 96 a2; refine (A2.out _ (P2.out.later (Later.trans A0.out (Hid.out (by assumption))))).mono ?_; rintro e w2 ⟨rfl, hb⟩; have LW := Lib.hid (Later.trans (show Later W0 _ from (Hid.out (by assumption))) hb); obtain ⟨q0, q1, q2, q3, q4, q5⟩ := C0.out _ LW.out; clear hb)
        | (go_at_call_of 96 a3; refine (A3.out _ (P3.out.later (Later.trans A0.out (Hid.out (by assumption))))).mono ?_; rintro e w2 ⟨rfl, hb⟩; have LW := Lib.hid (Later.trans (show Later W0 _ from (Hid.out (by assumption))) hb); obtain ⟨q0, q1, q2, q3, q4, q5⟩ := C0.out _ LW.out; clear hb))
    clear q0 q1 q2 q3 q4 q5
    go_loopw [3] (fun i wr => ∃ k : Nat, k ≤ n4 ∧ i = .int .i64 k ∧ Later W0 wr ∧ Hid (∀ j, j < k → lnOk M j = true)) (fun i _ => n4 - (intOf i).toNat)
    case atStart => exact ⟨0, by omega, rfl, (Hid.out (by assumption)), Lib.hid (by intro j h; omega)⟩
    case round =>
      obtain ⟨k, hk, rfl, hb, HI⟩ := hrel
      have B3 := Lib.hid hb
      obtain ⟨q0, q1, q2, q3, q4, q5⟩ := C0.out _ hb
      by_cases hlt : k < n4
      · have PL := Lib.hid (P4.out.later (Later.trans A0.out hb))
        obtain ⟨b, off, ta, tc, rfl, z0, z1, z2⟩ := PL.out.2.2.1 k hlt
        have hle := (PL.out.rng k hlt).1
        have hle2 := (PL.out.rng k hlt).2
        have HT2 := Lib.hid z2
        have IN : Hid (∀ W', Calls Tryd.prog 74 #[.string (tx (ltx M k))] W' fun e w' => e = .returned (.bool (nmB (ltx M k))) ∧ Later W' w') := Lib.hid (fun W' => s_Name (tx (ltx M k)) W' hle)
        have IE := Lib.hid (fun W' h1 => s_IsExpression ta (lrx M k).length tc (lrx M k) W' h1 (by omega))
        have HK : Hid (lnOk M k = (nmB (ltx M k) && exB (lrx M k))) := Lib.hid rfl
        obtain ⟨y, hy⟩ : ∃ y, y = tx (ltx M k) := ⟨_, rfl⟩
        obtain ⟨q, hq⟩ : ∃ y, y = (lrx M k).length := ⟨_, rfl⟩
        obtain ⟨t1, ht1⟩ : ∃ b, b = nmB (ltx M k) := ⟨_, rfl⟩
        obtain ⟨t2, ht2⟩ : ∃ b, b = exB (lrx M k) := ⟨_, rfl⟩
        rw [← hy] at z0 IN; rw [← hq] at z1 IE HT2
        rw [← ht1] at IN HK; rw [← ht2] at IE HK
        have Z0 := Lib.hid z0; have Z1 := Lib.hid z1
        have KL : Hid (∀ W', Later wr W' → W'.cell? ⟨b, off + k * 2, none⟩ = some (.string y) ∧ W'.cell? ⟨b, off + k * 2 + 1, none⟩ = some (.slice ta q tc)) := Lib.hid (fun W' h => ⟨by rw [h.cell (p := ⟨b, off + k * 2, none⟩) (cell_lt Z0.out)]; exact Z0.out, by rw [h.cell (p := ⟨b, off + k * 2 + 1, none⟩) (cell_lt Z0.out)]; exact Z1.out⟩)
        clear hy hq ht1 ht2 hb hle hle2 z2
        cases t1
        · have HB : Hid (lnsB M = false) := Lib.hid (by unfold lnsB; rw [allL_bad M k (by rw [HL.out]; exact hlt) (by rw [HK.out]; rfl)]; rfl)
          go_wp2_with (go_at_call 74; refine (IN.out _).mono ?_; rintro e w3 ⟨rfl, hb⟩; have L3 := Lib.hid (Later.trans B3.out hb); obtain ⟨q0, q1, q2, q3, q4, q5⟩ := C0.out _ L3.out; obtain ⟨z0, z1⟩ := KL.out _ hb; clear hb)
          all_goals
            go_ret
            exact ⟨by rw [HW.out, HB.out]; rfl, Later.trans A0.out L3.out⟩
        · cases t2
          · have HB : Hid (lnsB M = false) := Lib.hid (by unfold lnsB; rw [allL_bad M k (by rw [HL.out]; exact hlt) (by rw [HK.out]; rfl)]; rfl)
            go_wp2_with (first | (go_at_call 74; refine (IN.out _).mono ?_; rintro e w3 ⟨rfl, hb⟩; have LR := Lib.hid hb; have L3 := Lib.hid (Later.trans B3.out hb); obtain ⟨q0, q1, q2, q3, q4, q5⟩ := C0.out _ L3.out; obtain ⟨z0, z1⟩ := KL.out _ hb; clear hb) | (go_at_call 97; refine (IE.out _ (HT2.out.later LR.out)).mono ?_; rintro e w4 ⟨rfl, hb⟩; have L4 := Lib.hid (Later.trans L3.out hb); clear hb))
            all_goals
              go_ret
              exact ⟨by rw [HW.out, HB.out]; rfl, Later.trans A0.out L4.out⟩
          · go_wp2_with (first | (go_at_call 74; refine (IN.out _).mono ?_; rintro e w3 ⟨rfl, hb⟩; have LR := Lib.hid hb; have L3 := Lib.hid (Later.trans B3.out hb); obtain ⟨q0, q1, q2, q3, q4, q5⟩ := C0.out _ L3.out; obtain ⟨z0, z1⟩ := KL.out _ hb; clear hb) | (go_at_call 97; refine (IE.out _ (HT2.out.later LR.out)).mono ?_; rintro e w4 ⟨rfl, hb⟩; have L4 := Lib.hid (Later.trans L3.out hb); clear hb))
            all_goals
              go_roundw
              case rel =>
                refine ⟨k + 1, by omega, by go_num, L4.out, Lib.hid ?_⟩
                intro q hq
                rcases Nat.lt_or_ge q k with h1 | h1
                · exact HI.out q h1
                · obtain rfl : q = k := by omega
                  exact HK.out
              case measure => simp [intOf]; omega
      · obtain rfl : k = n4 := by omega
        have HF : Hid (lnsB M = (decide ((1 : Int) ≤ (k : Int)) && decide ((k : Int) ≤ 40))) := Lib.hid (by
          unfold lnsB; rw [allL_all M (by rw [HL.out]; exact HI.out), HL.out, Bool.true_and]
          congr 1
          · exact decide_eq_decide.2 (by omega)
          · exact decide_eq_decide.2 (by omega))
        have IR := Lib.hid (fun W' => s_InR (k : Int) 1 40 W' ⟨by omega, by omega⟩)
        obtain ⟨t, ht⟩ : ∃ t, t = (decide ((1 : Int) ≤ (k : Int)) && decide ((k : Int) ≤ 40)) := ⟨_, rfl⟩
        rw [← ht] at HF IR
        clear hb ht
        go_wp2_with (go_at_call 98; refine (IR.out _).mono ?_; rintro e w' ⟨rfl, rfl⟩)
        go_ret
        exact ⟨by rw [HW.out, HF.out]; rfl, Later.trans A0.out B3.out⟩
end Go.Proofs.YtokipobjpinhmaaDoor
namespace Go.Proofs.YtokipobjpinhmaaDoor
open Go.RowKit Go.Shelf
set_option maxHeartbeats 4000000
set_option maxRecDepth 100000
set_option linter.unusedVariables false
set_option linter.unusedSimpArgs false
/-- what LineOf says -/
def lnV (p : Prg) (x : List UInt8) : Int := if wrtB p = true then (if ixV (tgs p.lns) x < 0 then 0 else ixV (tgs p.lns) x) else 0
def lnE (p : Prg) (x : List UInt8) : Int := if wrtB p = true then (if ixV (tgs p.lns) x < 0 then 4 else 0) else 1
theorem ix_rng (p : Prg) (x : List UInt8) (h : p.lns.length ≤ 1048576) : -1 ≤ ixV (tgs p.lns) x ∧ ixV (tgs p.lns) x ≤ 1048576 := by
  have := ixV_lo (tgs p.lns) x
  rw [tgs_len] at this
  omega
theorem tgs_short {w : World} {a : Option Addr} {n : Nat} {M : List Lne} (h : Lns w a n M) : ∀ x ∈ tgs M, x.length ≤ 1048576 := by
  intro x hx
  obtain ⟨y, hy, rfl⟩ := List.mem_map.1 hx
  exact (h.2.2.2 y hy).1
theorem i_LineOf (v : Value) (p : Prg) (x : List UInt8) (w : World) (hp : PgV w v p) (ho : Ops w) (hl : p.lns.length ≤ 1048576) :
    Calls Tryd.prog 22 #[v, .string (tx x)] w fun e w' => e = .returned (.tuple #[.int .i64 (lnV p x), .int .i64 (lnE p x)]) ∧ Later w w' := by
  have IW := Lib.hid (fun W (h : Later w W) => i_IsWritten v p W (hp.later h) (ho.later h) (by omega))
  have TG := Lib.hid (fun W (h : Later w W) => i_targets v p W (hp.later h) hl)
  have IX := Lib.hid (fun a n cap W h => i_IndexT a n cap (tgs p.lns) x W h)
  have HR := Lib.hid (ix_rng p x hl)
  have HV : Hid (lnV p x = if wrtB p = true then (if ixV (tgs p.lns) x < 0 then 0 else ixV (tgs p.lns) x) else 0) := Lib.hid rfl
  have HE : Hid (lnE p x = if wrtB p = true then (if ixV (tgs p.lns) x < 0 then 4 else 0) else 1) := Lib.hid rfl
  obtain ⟨a1, c1, a2, c2, a3, c3, a4, c4, rfl, h1, h2, h3, h4, h5, h6⟩ := hp
  have SH := Lib.hid (tgs_short h4)
  clear h1 h2 h3 h4 h5 h6 ho hl
  obtain ⟨X, hX⟩ : ∃ q, q = tx x := ⟨_, rfl⟩
  rw [← hX] at IX ⊢
  generalize lnV p x = V at HV ⊢
  generalize lnE p x = E at HE ⊢
  generalize wrtB p = b at IW HV HE
  generalize ixV (tgs p.lns) x = r at IX HR HV HE
  obtain ⟨s0, hs0⟩ : ∃ q, q = tx p.nm := ⟨_, rfl⟩
  obtain ⟨s4, hs4⟩ : ∃ q, q = tx p.grd := ⟨_, rfl⟩
  obtain ⟨n1, hn1⟩ : ∃ q, q = p.ins.length := ⟨_, rfl⟩
  obtain ⟨n2, hn2⟩ : ∃ q, q = p.vrs.length := ⟨_, rfl⟩
  obtain ⟨n3, hn3⟩ : ∃ q, q = p.outs.length := ⟨_, rfl⟩
  obtain ⟨n4, hn4⟩ : ∃ q, q = p.lns.length := ⟨_, rfl⟩
  simp only [← hs0, ← hs4, ← hn1, ← hn2, ← hn3, ← hn4] at IW TG ⊢
  generalize tgs p.lns = T at *
  clear hs0 hs4 hn1 hn2 hn3 hn4 hX
  have q0 : (w.alloc (.cells #[.string s0, .slice a1 n1 c1, .slice a2 n2 c2, .slice a3 n3 c3, .string s4, .slice a4 n4 c4] 27)).cell? ⟨w.heap.size, 0, none⟩ = some (.string s0) := by rw [cell_of_row _ _ 0 _ _ (0, 0) (heap_alloc_new w _)]; rfl
  have q1 : (w.alloc (.cells #[.string s0, .slice a1 n1 c1, .slice a2 n2 c2, .slice a3 n3 c3, .string s4, .slice a4 n4 c4] 27)).cell? ⟨w.heap.size, 1, none⟩ = some (.slice a1 n1 c1) := by rw [cell_of_row _ _ 1 _ _ (0, 0) (heap_alloc_new w _)]; rfl
  have q2 : (w.alloc (.cells #[.string s0, .slice a1 n1 c1, .slice a2 n2 c2, .slice a3 n3 c3, .string s4, .slice a4 n4 c4] 27)).cell? ⟨w.heap.size, 2, none⟩ = some (.slice a2 n2 c2) := by rw [cell_of_row _ _ 2 _ _ (0, 0) (heap_alloc_new w _)]; rfl
  have q3 : (w.alloc (.cells #[.string s0, .slice a1 n1 c1, .slice a2 n2 c2, .slice a3 n3 c3, .string s4, .slice a4 n4 c4] 27)).cell? ⟨w.heap.size, 3, none⟩ = some (.slice a3 n3 c3) := by rw [cell_of_row _ _ 3 _ _ (0, 0) (heap_alloc_new w _)]; rfl
  have q4 : (w.alloc (.cells #[.string s0, .slice a1 n1 c1, .slice a2 n2 c2, .slice a3 n3 c3, .string s4, .slice a4 n4 c4] 27)).cell? ⟨w.heap.size, 4, none⟩ = some (.string s4) := by rw [cell_of_row _ _ 4 _ _ (0, 0) (heap_alloc_new w _)]; rfl
  have q5 : (w.alloc (.cells #[.string s0, .slice a1 n1 c1, .slice a2 n2 c2, .slice a3 n3 c3, .string s4, .slice a4 n4 c4] 27)).cell? ⟨w.heap.size, 5, none⟩ = some (.slice a4 n4 c4) := by rw [cell_of_row _ _ 5 _ _ (0, 0) (heap_alloc_new w _)]; rfl
  have hW0 : w.heap.size < (w.alloc (.cells #[.string s0, .slice a1 n1 c1, .slice a2 n2 c2, .slice a3 n3 c3, .string s4, .slice a4 n4 c4] 27)).heap.size := by rw [World.size_alloc]; exact Nat.lt_succ_self _
  have C0 : Hid (∀ W', Later (w.alloc (.cells #[.string s0, .slice a1 n1 c1, .slice a2 n2 c2, .slice a3 n3 c3, .string s4, .slice a4 n4 c4] 27)) W' → W'.cell? ⟨w.heap.size, 0, none⟩ = some (.string s0) ∧ W'.cell? ⟨w.heap.size, 1, none⟩ = some (.slice a1 n1 c1) ∧ W'.cell? ⟨w.heap.size, 2, none⟩ = some (.slice a2 n2 c2) ∧ W'.cell? ⟨w.heap.size, 3, none⟩ = some (.slice a3 n3 c3) ∧ W'.cell? ⟨w.heap.size, 4, none⟩ = some (.string s4) ∧ W'.cell? ⟨w.heap.size, 5, none⟩ = some (.slice a4 n4 c4)) := Lib.hid (fun W' q => ⟨by rw [q.cell (p := ⟨w.heap.size, 0, none⟩) hW0]; exact q0, by rw [q.cell (p := ⟨w.heap.size, 1, none⟩) hW0]; exact q1, by rw [q.cell (p := ⟨w.heap.size, 2, none⟩) hW0]; exact q2, by rw [q.cell (p := ⟨w.heap.size, 3, none⟩) hW0]; exact q3, by rw [q.cell (p := ⟨w.heap.size, 4, none⟩) hW0]; exact q4, by rw [q.cell (p := ⟨w.heap.size, 5, none⟩) hW0]; exact q5⟩)
  have A0 : Hid (Later w (w.alloc (.cells #[.string s0, .slice a1 n1 c1, .slice a2 n2 c2, .slice a3 n3 c3, .string s4, .slice a4 n4 c4] 27))) := Lib.hid ((Later.refl _).alloc _)
  clear hW0
  cases b
  · have HV2 : V = 0 := HV.out
    have HE2 : E = 1 := HE.out
    subst HV2; subst HE2
    go_enter Tryd.func22, Tryd.ntmps22
    go_wp2_with fail
    generalize (w.alloc (.cells #[.string s0, .slice a1 n1 c1, .slice a2 n2 c2, .slice a3 n3 c3, .string s4, .slice a4 n4 c4] 27)) = W0 at C0 A0 q0 q1 q2 q3 q4 q5 ⊢
    refine (IW.out _ A0.out).mono ?_
    rintro e w1 ⟨rfl, hb⟩
    have B1 := Lib.hid (Later.trans A0.out hb)
    clear hb q0 q1 q2 q3 q4 q5
    go_wp2_with fail
    all_goals
      refine bodyPost_ret (v := .tuple #[.int .i64 0, .int .i64 1]) (by simp [results, Tryd.results22, go_sem, *]) rfl ⟨rfl, B1.out⟩
  · have HV2 : V = if r < 0 then 0 else r := HV.out
    have HE2 : E = if r < 0 then 4 else 0 := HE.out
    have hr := HR.out
    go_enter Tryd.func22, Tryd.ntmps22
    go_wp2_with fail
    generalize (w.alloc (.cells #[.string s0, .slice a1 n1 c1, .slice a2 n2 c2, .slice a3 n3 c3, .string s4, .slice a4 n4 c4] 27)) = W0 at C0 A0 q0 q1 q2 q3 q4 q5 ⊢
    refine (IW.out _ A0.out).mono ?_
    rintro e w1 ⟨rfl, hb⟩
    have B1 := Lib.hid (Later.trans A0.out hb)
    clear q0 q1 q2 q3 q4 q5
    obtain ⟨q0, q1, q2, q3, q4, q5⟩ := C0.out _ hb
    clear hb
    go_wp2_with fail
    refine (TG.out _ B1.out).mono ?_
    rintro e w2 ⟨u, rfl, ho, hb⟩
    have B2 := Lib.hid (Later.trans B1.out hb)
    obtain ⟨a, c, rfl, _, hs, _⟩ := ho.sts SH.out
    have IX2 := Lib.hid (IX.out a _ c w2 hs)
    clear ho hs hb q0 q1 q2 q3 q4 q5
    generalize T.length = n at IX2 ⊢
    go_wp2_with fail
    refine IX2.out.mono ?_
    rintro e w3 ⟨rfl, rfl⟩
    by_cases hc : r < 0
    · rw [if_pos hc] at HV2 HE2
      subst HV2; subst HE2
      go_wp2_with fail
      all_goals
        refine bodyPost_ret (v := .tuple #[.int .i64 0, .int .i64 4]) (by simp [results, Tryd.results22, go_sem, *]) rfl ⟨rfl, B2.out⟩
    · rw [if_neg hc] at HV2 HE2
      subst HE2
      obtain rfl : V = r := HV2
      go_wp2_with fail
      all_goals
        refine bodyPost_ret (v := .tuple #[.int .i64 V, .int .i64 0]) (by simp [results, Tryd.results22, go_sem, *]) rfl ⟨rfl, B2.out⟩
theorem s_Line (v : Value) (p : Prg) (x : List UInt8) (w : World) (hp : PgV w v p) (hl : p.lns.length ≤ 1048576) :
    Calls Tryd.prog 66 #[v, .string (tx x)] w fun e w' => e = .returned (.int .i64 (ixV (tgs p.lns) x)) ∧ Later w w' := by
  obtain ⟨a1, c1, a2, c2, a3, c3, a4, c4, rfl, h1, h2, h3, h4, h5, h6⟩ := hp
  have P4 := Lib.hid h4
  have TA : Hid (∀ j, j < p.lns.length → wx (tgs p.lns) j = ltx p.lns j) := Lib.hid (fun j h => tgs_at p.lns j h)
  have EQ := Lib.hid (fun y => eqx y x)
  have RH : Hid (∀ j, j < p.lns.length → wx (tgs p.lns) j = x → (∀ i, i < j → wx (tgs p.lns) i ≠ x) → ixV (tgs p.lns) x = (j : Int)) := Lib.hid (fun j h1 h2 h3 => ixV_hit (tgs p.lns) x j (by rw [tgs_len]; exact h1) h2 h3)
  have RM : Hid ((∀ i, i < p.lns.length → wx (tgs p.lns) i ≠ x) → ixV (tgs p.lns) x = -1) := Lib.hid (fun h => ixV_miss (tgs p.lns) x (by rw [tgs_len]; exact h))
  clear h1 h2 h3 h4 h5 h6
  obtain ⟨X, hX⟩ : ∃ q, q = tx x := ⟨_, rfl⟩
  rw [← hX] at EQ ⊢
  obtain ⟨s0, hs0⟩ : ∃ q, q = tx p.nm := ⟨_, rfl⟩
  obtain ⟨s4, hs4⟩ : ∃ q, q = tx p.grd := ⟨_, rfl⟩
  obtain ⟨n1, hn1⟩ : ∃ q, q = p.ins.length := ⟨_, rfl⟩
  obtain ⟨n2, hn2⟩ : ∃ q, q = p.vrs.length := ⟨_, rfl⟩
  obtain ⟨n3, hn3⟩ : ∃ q, q = p.outs.length := ⟨_, rfl⟩
  obtain ⟨n4, hn4⟩ : ∃ q, q = p.lns.length := ⟨_, rfl⟩
  simp only [← hs0, ← hs4, ← hn1, ← hn2, ← hn3, ← hn4] at P4 TA RH RM hl ⊢
  generalize ixV (tgs p.lns) x = r at RH RM ⊢
  generalize p.lns = M at *
  clear hs0 hs4 hn1 hn2 hn3 hn4 hX
  have q0 : (w.alloc (.cells #[.string s0, .slice a1 n1 c1, .slice a2 n2 c2, .slice a3 n3 c3, .string s4, .slice a4 n4 c4] 27)).cell? ⟨w.heap.size, 0, none⟩ = some (.string s0) := by rw [cell_of_row _ _ 0 _ _ (0, 0) (heap_alloc_new w _)]; rfl
  have q1 : (w.alloc (.cells #[.string s0, .slice a1 n1 c1, .slice a2 n2 c2, .slice a3 n3 c3, .string s4, .slice a4 n4 c4] 27)).cell? ⟨w.heap.size, 1, none⟩ = some (.slice a1 n1 c1) := by rw [cell_of_row _ _ 1 _ _ (0, 0) (heap_alloc_new w _)]; rfl
  have q2 : (w.alloc (.cells #[.string s0, .slice a1 n1 c1, .slice a2 n2 c2, .slice a3 n3 c3, .string s4, .slice a4 n4 c4] 27)).cell? ⟨w.heap.size, 2, none⟩ = some (.slice a2 n2 c2) := by rw [cell_of_row _ _ 2 _ _ (0, 0) (heap_alloc_new w _)]; rfl
  have q3 : (w.alloc (.cells #[.string s0, .slice a1 n1 c1, .slice a2 n2 c2, .slice a3 n3 c3, .string s4, .slice a4 n4 c4] 27)).cell? ⟨w.heap.size, 3, none⟩ = some (.slice a3 n3 c3) := by rw [cell_of_row _ _ 3 _ _ (0, 0) (heap_alloc_new w _)]; rfl
  have q4 : (w.alloc (.cells #[.string s0, .slice a1 n1 c1, .slice a2 n2 c2, .slice a3 n3 c3, .string s4, .slice a4 n4 c4] 27)).cell? ⟨w.heap.size, 4, none⟩ = some (.string s4) := by rw [cell_of_row _ _ 4 _ _ (0, 0) (heap_alloc_new w _)]; rfl
  have q5 : (w.alloc (.cells #[.string s0, .slice a1 n1 c1, .slice a2 n2 c2, .slice a3 n3 c3, .string s4, .slice a4 n4 c4] 27)).cell? ⟨w.heap.size, 5, none⟩ = some (.slice a4 n4 c4) := by rw [cell_of_row _ _ 5 _ _ (0, 0) (heap_alloc_new w _)]; rfl
  have hW0 : w.heap.size < (w.alloc (.cells #[.string s0, .slice a1 n1 c1, .slice a2 n2 c2, .slice a3 n3 c3, .string s4, .slice a4 n4 c4] 27)).heap.size := by rw [World.size_alloc]; exact Nat.lt_succ_self _
  have C0 : Hid (∀ W', Later (w.alloc (.cells #[.string s0, .slice a1 n1 c1, .slice a2 n2 c2, .slice a3 n3 c3, .string s4, .slice a4 n4 c4] 27)) W' → W'.cell? ⟨w.heap.size, 0, none⟩ = some (.string s0) ∧ W'.cell? ⟨w.heap.size, 1, none⟩ = some (.slice a1 n1 c1) ∧ W'.cell? ⟨w.heap.size, 2, none⟩ = some (.slice a2 n2 c2) ∧ W'.cell? ⟨w.heap.size, 3, none⟩ = some (.slice a3 n3 c3) ∧ W'.cell? ⟨w.heap.size, 4, none⟩ = some (.string s4) ∧ W'.cell? ⟨w.heap.size, 5, none⟩ = some (.slice a4 n4 c4)) := Lib.hid (fun W' q => ⟨by rw [q.cell (p := ⟨w.heap.size, 0, none⟩) hW0]; exact q0, by rw [q.cell (p := ⟨w.heap.size, 1, none⟩) hW0]; exact q1, by rw [q.cell (p := ⟨w.heap.size, 2, none⟩) hW0]; exact q2, by rw [q.cell (p := ⟨w.heap.size, 3, none⟩) hW0]; exact q3, by rw [q.cell (p := ⟨w.heap.size, 4, none⟩) hW0]; exact q4, by rw [q.cell (p := ⟨w.heap.size, 5, none⟩) hW0]; exact q5⟩)
  have A0 : Hid (Later w (w.alloc (.cells #[.string s0, .slice a1 n1 c1, .slice a2 n2 c2, .slice a3 n3 c3, .string s4, .slice a4 n4 c4] 27))) := Lib.hid ((Later.refl _).alloc _)
  clear hW0
  have P5 := Lib.hid (P4.out.later A0.out)
  clear C0 q0 q1 q2 q3 q4
  go_enter Tryd.func66, Tryd.ntmps66
  go_wp2_with fail
  generalize (w.alloc (.cells #[.string s0, .slice a1 n1 c1, .slice a2 n2 c2, .slice a3 n3 c3, .string s4, .slice a4 n4 c4] 27)) = W0 at A0 P5 q5 ⊢
  go_loop [5] (fun i => ∃ k : Nat, k ≤ n4 ∧ i = .int .i64 k ∧ Hid (∀ j, j < k → wx (tgs M) j ≠ x)) (fun i => n4 - (intOf i).toNat)
  case atStart => exact ⟨0, by omega, rfl, Lib.hid (by intro j h; omega)⟩
  case round =>
    obtain ⟨k, hk, rfl, HI⟩ := hrel
    by_cases hlt : k < n4
    · obtain ⟨b, off, ta, tc, rfl, c0, _, _⟩ := P5.out.2.2.1 k hlt
      have EK := EQ.out (ltx M k)
      have ET := TA.out k hlt
      have HR0 := Lib.hid (RH.out k hlt)
      have HIE : Hid (wx (tgs M) k = ltx M k) := Lib.hid ET
      clear ET
      obtain ⟨y, hy⟩ : ∃ y, y = tx (ltx M k) := ⟨_, rfl⟩
      rw [← hy] at c0 EK
      clear hy
      by_cases he : ltx M k = x
      · rw [decide_eq_true he] at EK
        have HR := Lib.hid (HR0.out (HIE.out.trans he) HI.out)
        clear he
        go_wp2_with fail
        all_goals
          go_ret
          exact ⟨by rw [HR.out]; rfl, A0.out⟩
      · rw [decide_eq_false he] at EK
        have HE := Lib.hid he
        clear he
        go_wp2_with fail
        go_roundw
        case rel =>
          refine ⟨k + 1, by omega, by go_num, Lib.hid ?_⟩
          intro q hq
          rcases Nat.lt_or_ge q k with h1 | h1
          · exact HI.out q h1
          · obtain rfl : q = k := by omega
            rw [HIE.out]; exact HE.out
        case measure => simp [intOf]; omega
    · obtain rfl : k = n4 := by omega
      have HR := Lib.hid (RM.out HI.out)
      go_wp2_with fail
      all_goals
        go_ret
        exact ⟨by rw [HR.out]; rfl, A0.out⟩
theorem s_LineOf (v : Value) (p : Prg) (x : List UInt8) (w : World) (hp : PgV w v p) (hl : p.lns.length ≤ 1048576) :
    Calls Tryd.prog 27 #[v, .string (tx x)] w fun e w' => e = .returned (.tuple #[.int .i64 (lnV p x), .int .i64 (lnE p x)]) ∧ Later w w' := by
  have IW := Lib.hid (fun W (h : Later w W) => s_IsWritten v p W (hp.later h) (by omega))
  have TG := Lib.hid (fun W (h : Later w W) => s_Line v p x W (hp.later h) hl)
  have HR := Lib.hid (ix_rng p x hl)
  have HV : Hid (lnV p x = if wrtB p = true then (if ixV (tgs p.lns) x < 0 then 0 else ixV (tgs p.lns) x) else 0) := Lib.hid rfl
  have HE : Hid (lnE p x = if wrtB p = true then (if ixV (tgs p.lns) x < 0 then 4 else 0) else 1) := Lib.hid rfl
  obtain ⟨a1, c1, a2, c2, a3, c3, a4, c4, rfl, h1, h2, h3, h4, h5, h6⟩ := hp
  clear h1 h2 h3 h4 h5 h6 hl
  obtain ⟨X, hX⟩ : ∃ q, q = tx x := ⟨_, rfl⟩
  rw [← hX] at TG ⊢
  generalize lnV p x = V at HV ⊢
  generalize lnE p x = E at HE ⊢
  generalize wrtB p = b at IW HV HE
  generalize ixV (tgs p.lns) x = r at TG HR HV HE
  obtain ⟨s0, hs0⟩ : ∃ q, q = tx p.nm := ⟨_, rfl⟩
  obtain ⟨s4, hs4⟩ : ∃ q, q = tx p.grd := ⟨_, rfl⟩
  obtain ⟨n1, hn1⟩ : ∃ q, q = p.ins.length := ⟨_, rfl⟩
  obtain ⟨n2, hn2⟩ : ∃ q, q = p.vrs.length := ⟨_, rfl⟩
  obtain ⟨n3, hn3⟩ : ∃ q, q = p.outs.length := ⟨_, rfl⟩
  obtain ⟨n4, hn4⟩ : ∃ q, q = p.lns.length := ⟨_, rfl⟩
  simp only [← hs0, ← hs4, ← hn1, ← hn2, ← hn3, ← hn4] at IW TG ⊢
  clear hs0 hs4 hn1 hn2 hn3 hn4 hX
  have q0 : (w.alloc (.cells #[.string s0, .slice a1 n1 c1, .slice a2 n2 c2, .slice a3 n3 c3, .string s4, .slice a4 n4 c4] 27)).cell? ⟨w.heap.size, 0, none⟩ = some (.string s0) := by rw [cell_of_row _ _ 0 _ _ (0, 0) (heap_alloc_new w _)]; rfl
  have q1 : (w.alloc (.cells #[.string s0, .slice a1 n1 c1, .slice a2 n2 c2, .slice a3 n3 c3, .string s4, .slice a4 n4 c4] 27)).cell? ⟨w.heap.size, 1, none⟩ = some (.slice a1 n1 c1) := by rw [cell_of_row _ _ 1 _ _ (0, 0) (heap_alloc_new w _)]; rfl
  have q2 : (w.alloc (.cells #[.string s0, .slice a1 n1 c1, .slice a2 n2 c2, .slice a3 n3 c3, .string s4, .slice a4 n4 c4] 27)).cell? ⟨w.heap.size, 2, none⟩ = some (.slice a2 n2 c2) := by rw [cell_of_row _ _ 2 _ _ (0, 0) (heap_alloc_new w _)]; rfl
  have q3 : (w.alloc (.cells #[.string s0, .slice a1 n1 c1, .slice a2 n2 c2, .slice a3 n3 c3, .string s4, .slice a4 n4 c4] 27)).cell? ⟨w.heap.size, 3, none⟩ = some (.slice a3 n3 c3) := by rw [cell_of_row _ _ 3 _ _ (0, 0) (heap_alloc_new w _)]; rfl
  have q4 : (w.alloc (.cells #[.string s0, .slice a1 n1 c1, .slice a2 n2 c2, .slice a3 n3 c3, .string s4, .slice a4 n4 c4] 27)).cell? ⟨w.heap.size, 4, none⟩ = some (.string s4) := by rw [cell_of_row _ _ 4 _ _ (0, 0) (heap_alloc_new w _)]; rfl
  have q5 : (w.alloc (.cells #[.string s0, .slice a1 n1 c1, .slice a2 n2 c2, .slice a3 n3 c3, .string s4, .slice a4 n4 c4] 27)).cell? ⟨w.heap.size, 5, none⟩ = some (.slice a4 n4 c4) := by rw [cell_of_row _ _ 5 _ _ (0, 0) (heap_alloc_new w _)]; rfl
  have hW0 : w.heap.size < (w.alloc (.cells #[.string s0, .slice a1 n1 c1, .slice a2 n2 c2, .slice a3 n3 c3, .string s4, .slice a4 n4 c4] 27)).heap.size := by rw [World.size_alloc]; exact Nat.lt_succ_self _
  have C0 : Hid (∀ W', Later (w.alloc (.cells #[.string s0, .slice a1 n1 c1, .slice a2 n2 c2, .slice a3 n3 c3, .string s4, .slice a4 n4 c4] 27)) W' → W'.cell? ⟨w.heap.size, 0, none⟩ = some (.string s0) ∧ W'.cell? ⟨w.heap.size, 1, none⟩ = some (.slice a1 n1 c1) ∧ W'.cell? ⟨w.heap.size, 2, none⟩ = some (.slice a2 n2 c2) ∧ W'.cell? ⟨w.heap.size, 3, none⟩ = some (.slice a3 n3 c3) ∧ W'.cell? ⟨w.heap.size, 4, none⟩ = some (.string s4) ∧ W'.cell? ⟨w.heap.size, 5, none⟩ = some (.slice a4 n4 c4)) := Lib.hid (fun W' q => ⟨by rw [q.cell (p := ⟨w.heap.size, 0, none⟩) hW0]; exact q0, by rw [q.cell (p := ⟨w.heap.size, 1, none⟩) hW0]; exact q1, by rw [q.cell (p := ⟨w.heap.size, 2, none⟩) hW0]; exact q2, by rw [q.cell (p := ⟨w.heap.size, 3, none⟩) hW0]; exact q3, by rw [q.cell (p := ⟨w.heap.size, 4, none⟩) hW0]; exact q4, by rw [q.cell (p := ⟨w.heap.size, 5, none⟩) hW0]; exact q5⟩)
  have A0 : Hid (Later w (w.alloc (.cells #[.string s0, .slice a1 n1 c1, .slice a2 n2 c2, .slice a3 n3 c3, .string s4, .slice a4 n4 c4] 27))) := Lib.hid ((Later.refl _).alloc _)
  clear hW0
  cases b
  · have HV2 : V = 0 := HV.out
    have HE2 : E = 1 := HE.out
    subst HV2; subst HE2
    go_enter Tryd.func27, Tryd.ntmps27
    go_wp2_with fail
    generalize (w.alloc (.cells #[.string s0, .slice a1 n1 c1, .slice a2 n2 c2, .slice a3 n3 c3, .string s4, .slice a4 n4 c4] 27)) = W0 at C0 A0 q0 q1 q2 q3 q4 q5 ⊢
    refine (IW.out _ A0.out).mono ?_
    rintro e w1 ⟨rfl, hb⟩
    have B1 := Lib.hid (Later.trans A0.out hb)
    clear hb q0 q1 q2 q3 q4 q5
    go_wp2_with fail
    all_goals
      refine bodyPost_ret (v := .tuple #[.int .i64 0, .int .i64 1]) (by simp [results, Tryd.results27, go_sem, *]) rfl ⟨rfl, B1.out⟩
  · have HV2 : V = if r < 0 then 0 else r := HV.out
    have HE2 : E = if r < 0 then 4 else 0 := HE.out
    have hr := HR.out
    go_enter Tryd.func27, Tryd.ntmps27
    go_wp2_with fail
    generalize (w.alloc (.cells #[.string s0, .slice a1 n1 c1, .slice a2 n2 c2, .slice a3 n3 c3, .string s4, .slice a4 n4 c4] 27)) = W0 at C0 A0 q0 q1 q2 q3 q4 q5 ⊢
    refine (IW.out _ A0.out).mono ?_
    rintro e w1 ⟨rfl, hb⟩
    have B1 := Lib.hid (Later.trans A0.out hb)
    clear q0 q1 q2 q3 q4 q5
    obtain ⟨q0, q1, q2, q3, q4, q5⟩ := C0.out _ hb
    clear hb
    go_wp2_with fail
    refine (TG.out _ B1.out).mono ?_
    rintro e w2 ⟨rfl, hb⟩
    have B2 := Lib.hid (Later.trans B1.out hb)
    clear hb q0 q1 q2 q3 q4 q5
    by_cases hc : r < 0
    · rw [if_pos hc] at HV2 HE2
      subst HV2; subst HE2
      go_wp2_with fail
      all_goals
        refine bodyPost_ret (v := .tuple #[.int .i64 0, .int .i64 4]) (by simp [results, Tryd.results27, go_sem, *]) rfl ⟨rfl, B2.out⟩
    · rw [if_neg hc] at HV2 HE2
      subst HE2
      obtain rfl : V = r := HV2
      go_wp2_with fail
      all_goals
        refine bodyPost_ret (v := .tuple #[.int .i64 V, .int .i64 0]) (by simp [results, Tryd.results27, go_sem, *]) rfl ⟨rfl, B2.out⟩
end Go.Proofs.YtokipobjpinhmaaDoor
namespace Go.Proofs.YtokipobjpinhmaaDoor
open Go.RowKit Go.Shelf
set_option maxHeartbeats 4000000
set_option maxRecDepth 100000
set_option linter.unusedVariables false
set_option linter.unusedSimpArgs false
/-- what is known of the sizes of a written program -/
def Wb (p : Prg) : Prop := 1 ≤ p.ins.length ∧ 1 ≤ p.outs.length ∧ p.ins.length ≤ 20 ∧ p.vrs.length ≤ 20 ∧ p.outs.length ≤ 20 ∧ p.lns.length ≤ 40 ∧ ∀ j, j < p.lns.length → exB (lrx p.lns j) = true
theorem wb_of (p : Prg) (h : wrtB p = true) : Wb p := by
  simp [wrtB, nmsB, lnsB] at h
  obtain ⟨⟨⟨⟨⟨⟨⟨_, _⟩, h1⟩, h2⟩, h3⟩, h4⟩, h5⟩, h6⟩ := h
  refine ⟨h1, h2, h3.2, h4.2, h5.2, h6.2, fun j hj => ?_⟩
  have := List.all_eq_true.1 h6.1.1 j (by simpa using hj)
  simp [lnOk] at this
  exact this.2
theorem Wb.len {p : Prg} (h : Wb p) (j : Nat) (hj : j < p.lns.length) : (lrx p.lns j).length ≤ 40 := (exB_parts _ (h.2.2.2.2.2.2 j hj)).1
theorem nmx_two (w : World) (T : TypeId) (b0 b1 n0 n1 c0 c1 : Nat) (W0 W1 : List (List UInt8)) (h0 : Sts w (some ⟨b0, 0, none⟩) n0 W0) (h1 : Sts w (some ⟨b1, 0, none⟩) n1 W1) : Nmx (w.alloc (.cells #[.slice (some ⟨b0, 0, none⟩) n0 c0, .slice (some ⟨b1, 0, none⟩) n1 c1] T)) (some ⟨w.heap.size, 0, none⟩) 2 [W0, W1] := by
  have hl : Later w (w.alloc (.cells #[.slice (some ⟨b0, 0, none⟩) n0 c0, .slice (some ⟨b1, 0, none⟩) n1 c1] T)) := (Later.refl _).alloc _
  refine ⟨rfl, fun j hj => ?_⟩
  match j, hj with
  | 0, _ => exact ⟨_, 0, b0, 0, n0, c0, rfl, by rw [cell_of_row _ _ 0 _ T (0, 0) (heap_alloc_new w _)]; rfl, h0.later hl⟩
  | 1, _ => exact ⟨_, 0, b1, 0, n1, c1, rfl, by rw [cell_of_row _ _ 1 _ T (0, 0) (heap_alloc_new w _)]; rfl, h1.later hl⟩
theorem nmx_three (w : World) (T : TypeId) (b0 b1 b2 n0 n1 n2 c0 c1 c2 : Nat) (W0 W1 W2 : List (List UInt8)) (h0 : Sts w (some ⟨b0, 0, none⟩) n0 W0) (h1 : Sts w (some ⟨b1, 0, none⟩) n1 W1) (h2 : Sts w (some ⟨b2, 0, none⟩) n2 W2) : Nmx (w.alloc (.cells #[.slice (some ⟨b0, 0, none⟩) n0 c0, .slice (some ⟨b1, 0, none⟩) n1 c1, .slice (some ⟨b2, 0, none⟩) n2 c2] T)) (some ⟨w.heap.size, 0, none⟩) 3 [W0, W1, W2] := by
  have hl : Later w (w.alloc (.cells #[.slice (some ⟨b0, 0, none⟩) n0 c0, .slice (some ⟨b1, 0, none⟩) n1 c1, .slice (some ⟨b2, 0, none⟩) n2 c2] T)) := (Later.refl _).alloc _
  refine ⟨rfl, fun j hj => ?_⟩
  match j, hj with
  | 0, _ => exact ⟨_, 0, b0, 0, n0, c0, rfl, by rw [cell_of_row _ _ 0 _ T (0, 0) (heap_alloc_new w _)]; rfl, h0.later hl⟩
  | 1, _ => exact ⟨_, 0, b1, 0, n1, c1, rfl, by rw [cell_of_row _ _ 1 _ T (0, 0) (heap_alloc_new w _)]; rfl, h1.later hl⟩
  | 2, _ => exact ⟨_, 0, b2, 0, n2, c2, rfl, by rw [cell_of_row _ _ 2 _ T (0, 0) (heap_alloc_new w _)]; rfl, h2.later hl⟩
theorem concat2 (b0 b1 n0 n1 c0 c1 : Nat) (W0 W1 : List (List UInt8)) (w W : World) (h : Nat) (T : TypeId) (hl : Later w W) (hh : W.heap.size = h) (h0 : Sts w (some ⟨b0, 0, none⟩) n0 W0) (h1 : Sts w (some ⟨b1, 0, none⟩) n1 W1) (z0 : n0 ≤ 1000) (z1 : n1 ≤ 1000) (hz : 0 < n0 + n1) :
    Calls Tryd.prog 70 #[.slice (some ⟨h, 0, none⟩) 2 2] (W.alloc (.cells #[.slice (some ⟨b0, 0, none⟩) n0 c0, .slice (some ⟨b1, 0, none⟩) n1 c1] T)) (RetTs W (W0 ++ W1)) := by
  subst hh
  have e0 := h0.1; have e1 := h1.1
  refine (i_ConcatN _ 2 2 [W0, W1] _ (nmx_two W T b0 b1 n0 n1 c0 c1 W0 W1 (h0.later hl) (h1.later hl)) (by omega) (take_le2 W0 W1 10000 (by omega)) (by simp; omega)).mono ?_
  rintro e w' ⟨u, rfl, ho, hb⟩
  have ef : [W0, W1].flatten = W0 ++ W1 := by simp
  rw [ef] at ho
  exact ⟨u, rfl, ownT_monoN ho (Later.size ((Later.refl W).alloc _)), Later.trans ((Later.refl _).alloc _) hb⟩
theorem concat3 (b0 b1 b2 n0 n1 n2 c0 c1 c2 : Nat) (W0 W1 W2 : List (List UInt8)) (w W : World) (h : Nat) (T : TypeId) (hl : Later w W) (hh : W.heap.size = h) (h0 : Sts w (some ⟨b0, 0, none⟩) n0 W0) (h1 : Sts w (some ⟨b1, 0, none⟩) n1 W1) (h2 : Sts w (some ⟨b2, 0, none⟩) n2 W2) (z0 : n0 ≤ 1000) (z1 : n1 ≤ 1000) (z2 : n2 ≤ 1000) (hz : 0 < n0 + n1 + n2) :
    Calls Tryd.prog 70 #[.slice (some ⟨h, 0, none⟩) 3 3] (W.alloc (.cells #[.slice (some ⟨b0, 0, none⟩) n0 c0, .slice (some ⟨b1, 0, none⟩) n1 c1, .slice (some ⟨b2, 0, none⟩) n2 c2] T)) (RetTs W (W0 ++ W1 ++ W2)) := by
  subst hh
  have e0 := h0.1; have e1 := h1.1; have e2 := h2.1
  refine (i_ConcatN _ 3 3 [W0, W1, W2] _ (nmx_three W T b0 b1 b2 n0 n1 n2 c0 c1 c2 W0 W1 W2 (h0.later hl) (h1.later hl) (h2.later hl)) (by omega) (take_le3 W0 W1 W2 10000 (by omega)) (by simp; omega)).mono ?_
  rintro e w' ⟨u, rfl, ho, hb⟩
  have ef : [W0, W1, W2].flatten = W0 ++ W1 ++ W2 := by simp
  rw [ef] at ho
  exact ⟨u, rfl, ownT_monoN ho (Later.size ((Later.refl W).alloc _)), Later.trans ((Later.refl _).alloc _) hb⟩
theorem RetTs.lift {w W : World} {S : List (List UInt8)} {e : Ending} {w' : World} (h : RetTs W S e w') (hl : Later w W) : RetTs w S e w' := by
  obtain ⟨u, rfl, ho, hb⟩ := h
  exact ⟨u, rfl, ownT_monoN ho hl.size, hl.trans hb⟩
theorem nameSet2a (a0 a1 : Option Addr) (n0 n1 c0 c1 : Nat) (W0 W1 : List (List UInt8)) (w W : World) (h : Nat) (T : TypeId) (hl : Later w W) (hh : W.heap.size = h) (h0 : Sts w a0 n0 W0) (h1 : Sts w a1 n1 W1) (z0 : n0 ≤ 1048576) (z1 : n1 ≤ 1048576) :
    Calls Tryd.prog 76 #[.slice (some ⟨h, 0, none⟩) 2 2] (W.alloc (.cells #[.slice a0 n0 c0, .slice a1 n1 c1] T)) (RetN W (W0 ++ W1)) := by
  subst hh
  exact nameSet2 a0 a1 n0 n1 c0 c1 W0 W1 T W (h0.later hl) (h1.later hl) z0 z1
theorem RetN.lift {w W : World} {S : List (List UInt8)} {e : Ending} {w' : World} (h : RetN W S e w') (hl : Later w W) : RetN w S e w' := by
  obtain ⟨u, rfl, ho, hb⟩ := h
  exact ⟨u, rfl, ho, hl.trans hb⟩
theorem i_declared (base : Nat) (v : Value) (p : Prg) (w : World) (hp : PgC base w v p) (hb : Wb p) : Calls Tryd.prog 77 #[v] w (RetTs w (p.ins ++ p.vrs ++ p.outs)) := by
  obtain ⟨g1, g2, g3, g4, rfl, _, ⟨h1, _⟩, ⟨h2, _⟩, ⟨h3, _⟩, _, _, _⟩ := hp
  obtain ⟨b1, b2, b3, b4, b5, _, _⟩ := hb
  have HC := Lib.hid (fun W h T hl hh => concat3 g1 g2 g3 p.ins.length p.vrs.length p.outs.length p.ins.length p.vrs.length p.outs.length p.ins p.vrs p.outs w W h T hl hh h1 h2 h3 (by omega) (by omega) (by omega) (by omega))
  obtain ⟨s0, hs0⟩ : ∃ q, q = tx p.nm := ⟨_, rfl⟩
  obtain ⟨s4, hs4⟩ : ∃ q, q = tx p.grd := ⟨_, rfl⟩
  obtain ⟨n1, hn1⟩ : ∃ q, q = p.ins.length := ⟨_, rfl⟩
  obtain ⟨n2, hn2⟩ : ∃ q, q = p.vrs.length := ⟨_, rfl⟩
  obtain ⟨n3, hn3⟩ : ∃ q, q = p.outs.length := ⟨_, rfl⟩
  obtain ⟨n4, hn4⟩ : ∃ q, q = p.lns.length := ⟨_, rfl⟩
  simp only [← hs0, ← hs4, ← hn1, ← hn2, ← hn3, ← hn4] at h1 h2 h3 b1 b2 b3 b4 b5 HC ⊢
  clear hs0 hs4 hn1 hn2 hn3 hn4
  have q1 : (w.alloc (.cells #[.string s0, .slice (some ⟨g1, 0, none⟩) n1 n1, .slice (some ⟨g2, 0, none⟩) n2 n2, .slice (some ⟨g3, 0, none⟩) n3 n3, .string s4, .slice (some ⟨g4, 0, none⟩) n4 n4] 27)).cell? ⟨w.heap.size, 1, none⟩ = some (.slice (some ⟨g1, 0, none⟩) n1 n1) := by rw [cell_of_row _ _ 1 _ _ (0, 0) (heap_alloc_new w _)]; rfl
  have q2 : (w.alloc (.cells #[.string s0, .slice (some ⟨g1, 0, none⟩) n1 n1, .slice (some ⟨g2, 0, none⟩) n2 n2, .slice (some ⟨g3, 0, none⟩) n3 n3, .string s4, .slice (some ⟨g4, 0, none⟩) n4 n4] 27)).cell? ⟨w.heap.size, 2, none⟩ = some (.slice (some ⟨g2, 0, none⟩) n2 n2) := by rw [cell_of_row _ _ 2 _ _ (0, 0) (heap_alloc_new w _)]; rfl
  have q3 : (w.alloc (.cells #[.string s0, .slice (some ⟨g1, 0, none⟩) n1 n1, .slice (some ⟨g2, 0, none⟩) n2 n2, .slice (some ⟨g3, 0, none⟩) n3 n3, .string s4, .slice (some ⟨g4, 0, none⟩) n4 n4] 27)).cell? ⟨w.heap.size, 3, none⟩ = some (.slice (some ⟨g3, 0, none⟩) n3 n3) := by rw [cell_of_row _ _ 3 _ _ (0, 0) (heap_alloc_new w _)]; rfl
  have A0 : Hid (Later w (w.alloc (.cells #[.string s0, .slice (some ⟨g1, 0, none⟩) n1 n1, .slice (some ⟨g2, 0, none⟩) n2 n2, .slice (some ⟨g3, 0, none⟩) n3 n3, .string s4, .slice (some ⟨g4, 0, none⟩) n4 n4] 27))) := Lib.hid ((Later.refl _).alloc _)
  clear h1 h2 h3 b1 b2 b3 b4 b5
  go_enter Tryd.func77, Tryd.ntmps77
  go_wp2_with (go_at_call 70; refine (HC.out _ _ _ A0.out (by first | rfl | exact World.size_alloc _ _)).mono ?_; rintro e w1 ⟨u, rfl, ho, hb⟩; have O1 := Lib.hid ho; have B1 := Lib.hid hb; clear ho hb)
  go_ret
  exact RetTs.lift ⟨u, rfl, O1.out, B1.out⟩ A0.out
theorem i_assignable (base : Nat) (v : Value) (p : Prg) (w : World) (hp : PgC base w v p) (hb : Wb p) : Calls Tryd.prog 119 #[v] w (RetTs w (p.vrs ++ p.outs)) := by
  obtain ⟨g1, g2, g3, g4, rfl, _, ⟨h1, _⟩, ⟨h2, _⟩, ⟨h3, _⟩, _, _, _⟩ := hp
  obtain ⟨b1, b2, b3, b4, b5, _, _⟩ := hb
  have HC := Lib.hid (fun W h T hl hh => concat2 g2 g3 p.vrs.length p.outs.length p.vrs.length p.outs.length p.vrs p.outs w W h T hl hh h2 h3 (by omega) (by omega) (by omega))
  obtain ⟨s0, hs0⟩ : ∃ q, q = tx p.nm := ⟨_, rfl⟩
  obtain ⟨s4, hs4⟩ : ∃ q, q = tx p.grd := ⟨_, rfl⟩
  obtain ⟨n1, hn1⟩ : ∃ q, q = p.ins.length := ⟨_, rfl⟩
  obtain ⟨n2, hn2⟩ : ∃ q, q = p.vrs.length := ⟨_, rfl⟩
  obtain ⟨n3, hn3⟩ : ∃ q, q = p.outs.length := ⟨_, rfl⟩
  obtain ⟨n4, hn4⟩ : ∃ q, q = p.lns.length := ⟨_, rfl⟩
  simp only [← hs0, ← hs4, ← hn1, ← hn2, ← hn3, ← hn4] at h1 h2 h3 b1 b2 b3 b4 b5 HC ⊢
  clear hs0 hs4 hn1 hn2 hn3 hn4
  have q2 : (w.alloc (.cells #[.string s0, .slice (some ⟨g1, 0, none⟩) n1 n1, .slice (some ⟨g2, 0, none⟩) n2 n2, .slice (some ⟨g3, 0, none⟩) n3 n3, .string s4, .slice (some ⟨g4, 0, none⟩) n4 n4] 27)).cell? ⟨w.heap.size, 2, none⟩ = some (.slice (some ⟨g2, 0, none⟩) n2 n2) := by rw [cell_of_row _ _ 2 _ _ (0, 0) (heap_alloc_new w _)]; rfl
  have q3 : (w.alloc (.cells #[.string s0, .slice (some ⟨g1, 0, none⟩) n1 n1, .slice (some ⟨g2, 0, none⟩) n2 n2, .slice (some ⟨g3, 0, none⟩) n3 n3, .string s4, .slice (some ⟨g4, 0, none⟩) n4 n4] 27)).cell? ⟨w.heap.size, 3, none⟩ = some (.slice (some ⟨g3, 0, none⟩) n3 n3) := by rw [cell_of_row _ _ 3 _ _ (0, 0) (heap_alloc_new w _)]; rfl
  have A0 : Hid (Later w (w.alloc (.cells #[.string s0, .slice (some ⟨g1, 0, none⟩) n1 n1, .slice (some ⟨g2, 0, none⟩) n2 n2, .slice (some ⟨g3, 0, none⟩) n3 n3, .string s4, .slice (some ⟨g4, 0, none⟩) n4 n4] 27))) := Lib.hid ((Later.refl _).alloc _)
  clear h1 h2 h3 b1 b2 b3 b4 b5
  go_enter Tryd.func119, Tryd.ntmps119
  go_wp2_with (go_at_call 70; refine (HC.out _ _ _ A0.out (by first | rfl | exact World.size_alloc _ _)).mono ?_; rintro e w1 ⟨u, rfl, ho, hb⟩; have O1 := Lib.hid ho; have B1 := Lib.hid hb; clear ho hb)
  go_ret
  exact RetTs.lift ⟨u, rfl, O1.out, B1.out⟩ A0.out
theorem i_readable (base : Nat) (v : Value) (p : Prg) (w : World) (hp : PgC base w v p) (hb : Wb p) : Calls Tryd.prog 118 #[v] w (RetN w (p.ins ++ p.vrs)) := by
  obtain ⟨g1, g2, g3, g4, rfl, _, ⟨h1, _⟩, ⟨h2, _⟩, ⟨h3, _⟩, _, _, _⟩ := hp
  obtain ⟨b1, b2, b3, b4, b5, _, _⟩ := hb
  have HC := Lib.hid (fun W h T hl hh => nameSet2a (some ⟨g1, 0, none⟩) (some ⟨g2, 0, none⟩) p.ins.length p.vrs.length p.ins.length p.vrs.length p.ins p.vrs w W h T hl hh h1 h2 (by omega) (by omega))
  obtain ⟨s0, hs0⟩ : ∃ q, q = tx p.nm := ⟨_, rfl⟩
  obtain ⟨s4, hs4⟩ : ∃ q, q = tx p.grd := ⟨_, rfl⟩
  obtain ⟨n1, hn1⟩ : ∃ q, q = p.ins.length := ⟨_, rfl⟩
  obtain ⟨n2, hn2⟩ : ∃ q, q = p.vrs.length := ⟨_, rfl⟩
  obtain ⟨n3, hn3⟩ : ∃ q, q = p.outs.length := ⟨_, rfl⟩
  obtain ⟨n4, hn4⟩ : ∃ q, q = p.lns.length := ⟨_, rfl⟩
  simp only [← hs0, ← hs4, ← hn1, ← hn2, ← hn3, ← hn4] at h1 h2 h3 b1 b2 b3 b4 b5 HC ⊢
  clear hs0 hs4 hn1 hn2 hn3 hn4
  have q1 : (w.alloc (.cells #[.string s0, .slice (some ⟨g1, 0, none⟩) n1 n1, .slice (some ⟨g2, 0, none⟩) n2 n2, .slice (some ⟨g3, 0, none⟩) n3 n3, .string s4, .slice (some ⟨g4, 0, none⟩) n4 n4] 27)).cell? ⟨w.heap.size, 1, none⟩ = some (.slice (some ⟨g1, 0, none⟩) n1 n1) := by rw [cell_of_row _ _ 1 _ _ (0, 0) (heap_alloc_new w _)]; rfl
  have q2 : (w.alloc (.cells #[.string s0, .slice (some ⟨g1, 0, none⟩) n1 n1, .slice (some ⟨g2, 0, none⟩) n2 n2, .slice (some ⟨g3, 0, none⟩) n3 n3, .string s4, .slice (some ⟨g4, 0, none⟩) n4 n4] 27)).cell? ⟨w.heap.size, 2, none⟩ = some (.slice (some ⟨g2, 0, none⟩) n2 n2) := by rw [cell_of_row _ _ 2 _ _ (0, 0) (heap_alloc_new w _)]; rfl
  have A0 : Hid (Later w (w.alloc (.cells #[.string s0, .slice (some ⟨g1, 0, none⟩) n1 n1, .slice (some ⟨g2, 0, none⟩) n2 n2, .slice (some ⟨g3, 0, none⟩) n3 n3, .string s4, .slice (some ⟨g4, 0, none⟩) n4 n4] 27))) := Lib.hid ((Later.refl _).alloc _)
  clear h1 h2 h3 b1 b2 b3 b4 b5
  go_enter Tryd.func118, Tryd.ntmps118
  go_wp2_with (go_at_call 76; refine (HC.out _ _ _ A0.out (by first | rfl | exact World.size_alloc _ _)).mono ?_; rintro e w1 ⟨u, rfl, ho, hb⟩; have O1 := Lib.hid ho; have B1 := Lib.hid hb; clear ho hb)
  go_ret
  exact RetN.lift ⟨u, rfl, O1.out, B1.out⟩ A0.out
theorem nmV_take (M : List Lne) (k : Nat) (h : k < M.length) : nmV (M.take (k + 1)) = nmV (M.take k) ++ nmT (lrx M k) := by
  rw [List.take_succ_eq_append_getElem h, lx_at M k h]
  simp [nmV]
theorem nmT_take (L : List Trm) (j : Nat) (h : j < L.length) : nmT (L.take (j + 1)) = if rkx L j = 1 then nmT (L.take j) ++ [rsx L j] else nmT (L.take j) := by
  rw [List.take_succ_eq_append_getElem h, rk_at L j h]
  unfold nmT
  rw [List.filter_append, List.map_append]
  by_cases e : rkx L j = 1 <;> simp [e]
theorem nmT_len (L : List Trm) : (nmT L).length ≤ L.length := by
  unfold nmT; rw [List.length_map]; exact List.length_filter_le _ _
theorem nmV_len (M : List Lne) (h : ∀ j, j < M.length → (lrx M j).length ≤ 40) : ∀ k, k ≤ M.length → (nmV (M.take k)).length ≤ 40 * k
  | 0, _ => by simp [nmV]
  | k + 1, hk => by
    rw [nmV_take M k hk, List.length_append]
    have := nmV_len M h k (by omega)
    have h1 := nmT_len (lrx M k)
    have h2 := h k hk
    omega
theorem i_used (v : Value) (p : Prg) (w : World) (hp : PgV w v p) (hb : Wb p) : Calls Tryd.prog 121 #[v] w (RetTs w (nmV p.lns)) := by
  obtain ⟨a1, c1, a2, c2, a3, c3, a4, c4, rfl, h1, h2, h3, h4, h5, h6⟩ := hp
  have P4 := Lib.hid h4
  have HK := Lib.hid (fun k h => nmV_take p.lns k h)
  have HF : Hid (nmV (p.lns.take p.lns.length) = nmV p.lns) := Lib.hid (by rw [List.take_length])
  have HZ : Hid (∀ k, k ≤ p.lns.length → (nmV (p.lns.take k)).length ≤ 40 * k) := Lib.hid (nmV_len p.lns (fun j h => hb.len j h))
  have HB := Lib.hid (fun j h => hb.len j h)
  have hl : p.lns.length ≤ 40 := hb.2.2.2.2.2.1
  clear h1 h2 h3 h4 h5 h6 hb
  obtain ⟨s0, hs0⟩ : ∃ q, q = tx p.nm := ⟨_, rfl⟩
  obtain ⟨s4, hs4⟩ : ∃ q, q = tx p.grd := ⟨_, rfl⟩
  obtain ⟨n1, hn1⟩ : ∃ q, q = p.ins.length := ⟨_, rfl⟩
  obtain ⟨n2, hn2⟩ : ∃ q, q = p.vrs.length := ⟨_, rfl⟩
  obtain ⟨n3, hn3⟩ : ∃ q, q = p.outs.length := ⟨_, rfl⟩
  obtain ⟨n4, hn4⟩ : ∃ q, q = p.lns.length := ⟨_, rfl⟩
  simp only [← hs0, ← hs4, ← hn1, ← hn2, ← hn3, ← hn4] at P4 HK HF HZ HB hl ⊢
  generalize p.lns = M at *
  clear hs0 hs4 hn1 hn2 hn3 hn4
  have q5 : (w.alloc (.cells #[.string s0, .slice a1 n1 c1, .slice a2 n2 c2, .slice a3 n3 c3, .string s4, .slice a4 n4 c4] 27)).cell? ⟨w.heap.size, 5, none⟩ = some (.slice a4 n4 c4) := by rw [cell_of_row _ _ 5 _ _ (0, 0) (heap_alloc_new w _)]; rfl
  have A0 : Hid (Later w (w.alloc (.cells #[.string s0, .slice a1 n1 c1, .slice a2 n2 c2, .slice a3 n3 c3, .string s4, .slice a4 n4 c4] 27))) := Lib.hid ((Later.refl _).alloc _)
  go_enter Tryd.func121, Tryd.ntmps121
  go_wp2_with fail
  generalize (w.alloc (.cells #[.string s0, .slice a1 n1 c1, .slice a2 n2 c2, .slice a3 n3 c3, .string s4, .slice a4 n4 c4] 27)) = W0 at A0 q5 ⊢
  go_loopw [3, 11] (fun s i wr => ∃ k : Nat, k ≤ n4 ∧ i = .int .i64 k ∧ OwnT wr w.heap.size s (nmV (M.take k)) ∧ Later w wr) (fun _ i _ => n4 - (intOf i).toNat)
  case atStart => exact ⟨0, by omega, rfl, ⟨rfl, .inl ⟨rfl, rfl⟩⟩, A0.out⟩
  case round =>
    clear q5
    obtain ⟨k, hk, rfl, ho, hb⟩ := hrel
    have B3 := Lib.hid hb
    have O3 := Lib.hid ho
    clear ho
    by_cases hlt : k < n4
    · obtain ⟨b, off, ta, tc, rfl, c00, c01, c2⟩ := P4.out.2.2.1 k hlt
      have c0 : wr.cell? ⟨b, off + k * 2, none⟩ = some (.string (tx (ltx M k))) := by rw [hb.cell (p := ⟨b, off + k * 2, none⟩) (cell_lt c00)]; exact c00
      have c1 : wr.cell? ⟨b, off + k * 2 + 1, none⟩ = some (.slice ta (lrx M k).length tc) := by rw [hb.cell (p := ⟨b, off + k * 2 + 1, none⟩) (cell_lt c01)]; exact c01
      have HE := Lib.hid (HK.out k hlt)
      have hz := HZ.out k hk
      have h40 := HB.out k hlt
      have HS := Lib.hid c2
      generalize ltx M k = yy at c0
      obtain ⟨Y, hY⟩ : ∃ Y, Y = tx yy := ⟨_, rfl⟩
      rw [← hY] at c0
      generalize lrx M k = L at *
      have HJ := Lib.hid (fun j h => nmT_take L j h)
      have HLF : Hid (nmT (L.take L.length) = nmT L) := Lib.hid (by rw [List.take_length])
      have HQ := Lib.hid (fun j => nmT_len (L.take j))
      generalize nmV (M.take k) = T0 at O3 HE hz
      obtain ⟨q, hq⟩ : ∃ q, q = L.length := ⟨_, rfl⟩
      rw [← hq] at c1 h40 HS HJ HLF
      clear c00 c01 c2 hb hY hq
      go_wp2_with fail
      go_loopw [3, 18] (fun s i w5 => ∃ j : Nat, j ≤ q ∧ i = .int .i64 j ∧ OwnT w5 w.heap.size s (T0 ++ nmT (L.take j)) ∧ Later w w5) (fun _ i _ => q - (intOf i).toNat)
      case atStart => exact ⟨0, by omega, rfl, by simpa [nmT] using O3.out.later (by repeat (first | (with_reducible exact Later.refl _) | (with_reducible exact Hid.out (by assumption)) | (with_reducible refine Later.alloc ?_ _) | (with_reducible refine Later.setCell ?_ (by simp; omega) _) | (with_reducible refine Later.setCell ?_ (by simp) _) | (with_reducible refine Later.drewN ?_ _) | (with_reducible refine Later.drew ?_) | (with_reducible refine Later.trans ?_ (Hid.out (by assumption))))), Later.trans B3.out (by repeat (first | (with_reducible exact Later.refl _) | (with_reducible exact Hid.out (by assumption)) | (with_reducible refine Later.alloc ?_ _) | (with_reducible refine Later.setCell ?_ (by simp; omega) _) | (with_reducible refine Later.setCell ?_ (by simp) _) | (with_reducible refine Later.drewN ?_ _) | (with_reducible refine Later.drew ?_) | (with_reducible refine Later.trans ?_ (Hid.out (by assumption)))))⟩
      case round =>
        clear c0 c1
        obtain ⟨j, hj, rfl, ho, hb⟩ := hrel
        have B5 := Lib.hid hb
        have O5 := Lib.hid ho
        clear ho
        by_cases hlt2 : j < q
        · obtain ⟨b2, off2, rfl, d0, d1, d2⟩ := (HS.out.later hb).2.2.1 j hlt2
          have HJ2 := Lib.hid (HJ.out j hlt2)
          have hqq : (T0 ++ nmT (L.take j)).length ≤ 100000 := by have := HQ.out j; rw [List.length_append]; simp at this; omega
          have HQQ := Lib.hid hqq
          obtain ⟨y, hy⟩ : ∃ y, y = rsx L j := ⟨_, rfl⟩
          rw [← hy] at d1 HJ2
          obtain ⟨X, hX⟩ : ∃ X, X = tx y := ⟨_, rfl⟩
          rw [← hX] at d1
          have HX := Lib.hid hX
          generalize rkx L j = kd at d0 HJ2
          generalize rnx L j = nb at d2
          generalize nmT (L.take j) = T1 at *
          clear hy hX hb hqq
          by_cases he : kd = 1
          · subst he
            have HJ3 := HJ2.out
            rw [if_pos rfl] at HJ3
            have HE3 := Lib.hid HJ3
            clear HJ3
            go_wp2_with (at_builtin; go_must (rw [HX.out]; refine app1T rfl _ _ rfl w.heap.size _ _ _ (T0 ++ T1) y (O5.out.later (by repeat (first | (with_reducible exact Later.refl _) | (with_reducible exact Hid.out (by assumption)) | (with_reducible refine Later.alloc ?_ _) | (with_reducible refine Later.setCell ?_ (by simp; omega) _) | (with_reducible refine Later.setCell ?_ (by simp) _) | (with_reducible refine Later.drewN ?_ _) | (with_reducible refine Later.drew ?_) | (with_reducible refine Later.trans ?_ (Hid.out (by assumption)))))) rfl (by first | rfl | (simp only [World.heap_drewN, World.size_alloc]; rfl)) (by have := HQQ.out; omega) (Later.size (by repeat (first | (with_reducible exact Later.refl _) | (with_reducible exact Hid.out (by assumption)) | (with_reducible refine Later.alloc ?_ _) | (with_reducible refine Later.setCell ?_ (by simp; omega) _) | (with_reducible refine Later.setCell ?_ (by simp) _) | (with_reducible refine Later.drewN ?_ _) | (with_reducible refine Later.drew ?_) | (with_reducible refine Later.trans ?_ (Hid.out (by assumption)))))) ?_; intro v6 w6 ho hgr))
            have O6 := Lib.hid ho
            rw [List.append_assoc, ← HE3.out] at O6
            have B6 : Hid (Later w w6) := Lib.hid (Below.grown (show Later w _ from (by repeat (first | (with_reducible exact Later.refl _) | (with_reducible exact Hid.out (by assumption)) | (with_reducible refine Later.alloc ?_ _) | (with_reducible refine Later.setCell ?_ (by simp; omega) _) | (with_reducible refine Later.setCell ?_ (by simp) _) | (with_reducible refine Later.drewN ?_ _) | (with_reducible refine Later.drew ?_) | (with_reducible refine Later.trans ?_ (Hid.out (by assumption)))))) hgr (Later.size (by repeat (first | (with_reducible exact Later.refl _) | (with_reducible exact Hid.out (by assumption)) | (with_reducible refine Later.alloc ?_ _) | (with_reducible refine Later.setCell ?_ (by simp; omega) _) | (with_reducible refine Later.setCell ?_ (by simp) _) | (with_reducible refine Later.drewN ?_ _) | (with_reducible refine Later.drew ?_) | (with_reducible refine Later.trans ?_ (Hid.out (by assumption)))))) (fun j hj => (O5.out.lt j hj).1))
            clear ho hgr
            go_roundw
            case rel => exact ⟨j + 1, by omega, by go_num, O6.out, B6.out⟩
            case measure => simp [intOf]; omega
          · have HJ3 := HJ2.out
            rw [if_neg he] at HJ3
            have HE3 := Lib.hid HJ3
            have hne : (kd == 1) = false := by simpa using he
            clear HJ3 he
            go_wp2_with fail
            go_roundw
            case rel => exact ⟨j + 1, by omega, by go_num, by rw [HE3.out]; exact O5.out.later (by repeat (first | (with_reducible exact Later.refl _) | (with_reducible exact Hid.out (by assumption)) | (with_reducible refine Later.alloc ?_ _) | (with_reducible refine Later.setCell ?_ (by simp; omega) _) | (with_reducible refine Later.setCell ?_ (by simp) _) | (with_reducible refine Later.drewN ?_ _) | (with_reducible refine Later.drew ?_) | (with_reducible refine Later.trans ?_ (Hid.out (by assumption))))), (by repeat (first | (with_reducible exact Later.refl _) | (with_reducible exact Hid.out (by assumption)) | (with_reducible refine Later.alloc ?_ _) | (with_reducible refine Later.setCell ?_ (by simp; omega) _) | (with_reducible refine Later.setCell ?_ (by simp) _) | (with_reducible refine Later.drewN ?_ _) | (with_reducible refine Later.drew ?_) | (with_reducible refine Later.trans ?_ (Hid.out (by assumption)))))⟩
            case measure => simp [intOf]; omega
        · obtain rfl : j = q := by omega
          have O7 : Hid (OwnT wr w.heap.size _ (T0 ++ nmT L)) := Lib.hid (by have h := O5.out; rw [HLF.out] at h; exact h)
          rw [← HE.out] at O7
          clear hb
          go_wp2_with fail
          go_roundw
          case rel => exact ⟨k + 1, by omega, by go_num, O7.out, B5.out⟩
          case measure => simp [intOf]; omega
    · obtain rfl : k = n4 := by omega
      clear hb
      go_wp2_with fail
      go_ret
      exact ⟨_, rfl, by rw [← HF.out]; exact O3.out, B3.out⟩
end Go.Proofs.YtokipobjpinhmaaDoor
namespace Go.Proofs.YtokipobjpinhmaaDoor
open Go.RowKit Go.Shelf
set_option maxHeartbeats 4000000
set_option maxRecDepth 100000
set_option linter.unusedVariables false
set_option linter.unusedSimpArgs false
theorem blV_take (M : List Lne) (k : Nat) (h : k < M.length) : blV (M.take (k + 1)) = blV (M.take k) ++ blT (lrx M k) := by
  rw [List.take_succ_eq_append_getElem h, lx_at M k h]
  simp [blV]
theorem blT_take (L : List Trm) (j : Nat) (h : j < L.length) : blT (L.take (j + 1)) = if (decide (7 ≤ rkx L j) && decide (rkx L j ≤ 12)) = true then blT (L.take j) ++ [(rkx L j, rsx L j, rnx L j)] else blT (L.take j) := by
  rw [List.take_succ_eq_append_getElem h, rk_at L j h]
  unfold blT
  rw [List.filter_append]
  by_cases e : (decide (7 ≤ rkx L j) && decide (rkx L j ≤ 12)) = true
  · rw [if_pos e]
    have : blB (rkx L j, rsx L j, rnx L j) = true := e
    simp [this]
  · rw [if_neg e]
    have : blB (rkx L j, rsx L j, rnx L j) = false := by
      cases hb : blB (rkx L j, rsx L j, rnx L j) with
      | false => rfl
      | true => exact absurd hb e
    simp [this]
theorem blT_len (L : List Trm) : (blT L).length ≤ L.length := List.length_filter_le _ _
theorem blV_len (M : List Lne) (h : ∀ j, j < M.length → (lrx M j).length ≤ 40) : ∀ k, k ≤ M.length → (blV (M.take k)).length ≤ 40 * k
  | 0, _ => by simp [blV]
  | k + 1, hk => by
    rw [blV_take M k hk, List.length_append]
    have := blV_len M h k (by omega)
    have h1 := blT_len (lrx M k)
    have h2 := h k hk
    omega
theorem Wb.kind {p : Prg} (h : Wb p) (j : Nat) (hj : j < p.lns.length) (i : Nat) (hi : i < (lrx p.lns j).length) : rkx (lrx p.lns j) i ≤ 12 := by
  have h1 := (exB_parts _ (h.2.2.2.2.2.2 j hj)).2.1 i hi
  simp [okR, trmB, kndT] at h1
  omega
def blE (p : Prg) : Int := if wrtB p = true then 0 else 1
def blW (p : Prg) : List Trm := if wrtB p = true then blV p.lns else []
/-- a list of terms of the call's own and a number, handed back -/
def RetB (w : World) (L : List Trm) (E : Int) (e : Ending) (w' : World) : Prop := ∃ v, e = .returned (.tuple #[v, .int .i64 E]) ∧ OwnR w' w.heap.size 84 v L ∧ Later w w'
theorem i_isBlockKind (k : Int) (w : World) : Calls Tryd.prog 82 #[.int .i64 k] w fun e w' => e = .returned (.bool (decide (7 ≤ k) && decide (k ≤ 12))) ∧ w = w' := by
  go_enter Tryd.func82, Tryd.ntmps82
  go_wp2_with fail
  all_goals
    go_ret
    exact ⟨ret_b (by first | (simp_all; done) | (simp_all; omega)), rfl⟩
theorem i_BlocksIn (v : Value) (p : Prg) (w : World) (hp : PgV w v p) (ho : Ops w) (hl : p.lns.length ≤ 1048576) : Calls Tryd.prog 42 #[v] w (RetB w (blW p) (blE p)) := by
  have IW := Lib.hid (fun W (h : Later w W) => i_IsWritten v p W (hp.later h) (ho.later h) (by omega))
  obtain ⟨a1, c1, a2, c2, a3, c3, a4, c4, rfl, h1, h2, h3, h4, h5, h6⟩ := hp
  have P4 := Lib.hid h4
  have HK := Lib.hid (fun k h => blV_take p.lns k h)
  have HF : Hid (blV (p.lns.take p.lns.length) = blV p.lns) := Lib.hid (by rw [List.take_length])
  have WB : Hid (wrtB p = true → (∀ j, j < p.lns.length → (lrx p.lns j).length ≤ 40) ∧ p.lns.length ≤ 40 ∧ (∀ k, k ≤ p.lns.length → (blV (p.lns.take k)).length ≤ 40 * k)) := Lib.hid (fun h => ⟨fun j hj => (wb_of p h).len j hj, (wb_of p h).2.2.2.2.2.1, blV_len p.lns (fun j hj => (wb_of p h).len j hj)⟩)
  have HV : Hid (blW p = if wrtB p = true then blV p.lns else []) := Lib.hid rfl
  have HE : Hid (blE p = if wrtB p = true then 0 else 1) := Lib.hid rfl
  clear h1 h2 h3 h4 h5 h6 ho hl
  generalize blW p = BW at HV ⊢
  generalize blE p = E at HE ⊢
  generalize wrtB p = b at IW WB HV HE
  obtain ⟨s0, hs0⟩ : ∃ q, q = tx p.nm := ⟨_, rfl⟩
  obtain ⟨s4, hs4⟩ : ∃ q, q = tx p.grd := ⟨_, rfl⟩
  obtain ⟨n1, hn1⟩ : ∃ q, q = p.ins.length := ⟨_, rfl⟩
  obtain ⟨n2, hn2⟩ : ∃ q, q = p.vrs.length := ⟨_, rfl⟩
  obtain ⟨n3, hn3⟩ : ∃ q, q = p.outs.length := ⟨_, rfl⟩
  obtain ⟨n4, hn4⟩ : ∃ q, q = p.lns.length := ⟨_, rfl⟩
  simp only [← hs0, ← hs4, ← hn1, ← hn2, ← hn3, ← hn4] at IW P4 HK HF WB ⊢
  generalize p.lns = M at *
  clear hs0 hs4 hn1 hn2 hn3 hn4
  have q0 : (w.alloc (.cells #[.string s0, .slice a1 n1 c1, .slice a2 n2 c2, .slice a3 n3 c3, .string s4, .slice a4 n4 c4] 27)).cell? ⟨w.heap.size, 0, none⟩ = some (.string s0) := by rw [cell_of_row _ _ 0 _ _ (0, 0) (heap_alloc_new w _)]; rfl
  have q1 : (w.alloc (.cells #[.string s0, .slice a1 n1 c1, .slice a2 n2 c2, .slice a3 n3 c3, .string s4, .slice a4 n4 c4] 27)).cell? ⟨w.heap.size, 1, none⟩ = some (.slice a1 n1 c1) := by rw [cell_of_row _ _ 1 _ _ (0, 0) (heap_alloc_new w _)]; rfl
  have q2 : (w.alloc (.cells #[.string s0, .slice a1 n1 c1, .slice a2 n2 c2, .slice a3 n3 c3, .string s4, .slice a4 n4 c4] 27)).cell? ⟨w.heap.size, 2, none⟩ = some (.slice a2 n2 c2) := by rw [cell_of_row _ _ 2 _ _ (0, 0) (heap_alloc_new w _)]; rfl
  have q3 : (w.alloc (.cells #[.string s0, .slice a1 n1 c1, .slice a2 n2 c2, .slice a3 n3 c3, .string s4, .slice a4 n4 c4] 27)).cell? ⟨w.heap.size, 3, none⟩ = some (.slice a3 n3 c3) := by rw [cell_of_row _ _ 3 _ _ (0, 0) (heap_alloc_new w _)]; rfl
  have q4 : (w.alloc (.cells #[.string s0, .slice a1 n1 c1, .slice a2 n2 c2, .slice a3 n3 c3, .string s4, .slice a4 n4 c4] 27)).cell? ⟨w.heap.size, 4, none⟩ = some (.string s4) := by rw [cell_of_row _ _ 4 _ _ (0, 0) (heap_alloc_new w _)]; rfl
  have q5 : (w.alloc (.cells #[.string s0, .slice a1 n1 c1, .slice a2 n2 c2, .slice a3 n3 c3, .string s4, .slice a4 n4 c4] 27)).cell? ⟨w.heap.size, 5, none⟩ = some (.slice a4 n4 c4) := by rw [cell_of_row _ _ 5 _ _ (0, 0) (heap_alloc_new w _)]; rfl
  have hW0 : w.heap.size < (w.alloc (.cells #[.string s0, .slice a1 n1 c1, .slice a2 n2 c2, .slice a3 n3 c3, .string s4, .slice a4 n4 c4] 27)).heap.size := by rw [World.size_alloc]; exact Nat.lt_succ_self _
  have C0 : Hid (∀ W', Later (w.alloc (.cells #[.string s0, .slice a1 n1 c1, .slice a2 n2 c2, .slice a3 n3 c3, .string s4, .slice a4 n4 c4] 27)) W' → W'.cell? ⟨w.heap.size, 0, none⟩ = some (.string s0) ∧ W'.cell? ⟨w.heap.size, 1, none⟩ = some (.slice a1 n1 c1) ∧ W'.cell? ⟨w.heap.size, 2, none⟩ = some (.slice a2 n2 c2) ∧ W'.cell? ⟨w.heap.size, 3, none⟩ = some (.slice a3 n3 c3) ∧ W'.cell? ⟨w.heap.size, 4, none⟩ = some (.string s4) ∧ W'.cell? ⟨w.heap.size, 5, none⟩ = some (.slice a4 n4 c4)) := Lib.hid (fun W' q => ⟨by rw [q.cell (p := ⟨w.heap.size, 0, none⟩) hW0]; exact q0, by rw [q.cell (p := ⟨w.heap.size, 1, none⟩) hW0]; exact q1, by rw [q.cell (p := ⟨w.heap.size, 2, none⟩) hW0]; exact q2, by rw [q.cell (p := ⟨w.heap.size, 3, none⟩) hW0]; exact q3, by rw [q.cell (p := ⟨w.heap.size, 4, none⟩) hW0]; exact q4, by rw [q.cell (p := ⟨w.heap.size, 5, none⟩) hW0]; exact q5⟩)
  have A0 : Hid (Later w (w.alloc (.cells #[.string s0, .slice a1 n1 c1, .slice a2 n2 c2, .slice a3 n3 c3, .string s4, .slice a4 n4 c4] 27))) := Lib.hid ((Later.refl _).alloc _)
  clear hW0
  cases b
  · obtain rfl : BW = [] := HV.out
    obtain rfl : E = 1 := HE.out
    go_enter Tryd.func42, Tryd.ntmps42
    go_wp2_with fail
    generalize (w.alloc (.cells #[.string s0, .slice a1 n1 c1, .slice a2 n2 c2, .slice a3 n3 c3, .string s4, .slice a4 n4 c4] 27)) = W0 at C0 A0 q0 q1 q2 q3 q4 q5 ⊢
    refine (IW.out _ A0.out).mono ?_
    rintro e w1 ⟨rfl, hb⟩
    have B1 := Lib.hid (Later.trans A0.out hb)
    clear hb q0 q1 q2 q3 q4 q5
    go_wp2_with fail
    all_goals
      refine bodyPost_ret (v := .tuple #[.slice none 0 0, .int .i64 1]) (by simp [results, Tryd.results42, go_sem, *]) rfl ⟨_, rfl, ownR_none _ _ _, B1.out⟩
  · obtain rfl : BW = blV M := HV.out
    obtain rfl : E = 0 := HE.out
    obtain ⟨h40, hl, hz⟩ := WB.out (by first | rfl | trivial)
    have HB := Lib.hid h40
    have HZ := Lib.hid hz
    clear h40 hz WB
    go_enter Tryd.func42, Tryd.ntmps42
    go_wp2_with fail
    generalize (w.alloc (.cells #[.string s0, .slice a1 n1 c1, .slice a2 n2 c2, .slice a3 n3 c3, .string s4, .slice a4 n4 c4] 27)) = W0 at C0 A0 q0 q1 q2 q3 q4 q5 ⊢
    refine (IW.out _ A0.out).mono ?_
    rintro e w1 ⟨rfl, hb⟩
    have B1 := Lib.hid (Later.trans A0.out hb)
    clear q0 q1 q2 q3 q4 q5
    obtain ⟨q0, q1, q2, q3, q4, q5⟩ := C0.out _ hb
    clear hb
    go_wp2_with fail
    clear q0 q1 q2 q3 q4 q5
    go_loopw [4, 15] (fun s i wr => ∃ k : Nat, k ≤ n4 ∧ i = .int .i64 k ∧ OwnR wr w.heap.size 84 s (blV (M.take k)) ∧ Later w wr) (fun _ i _ => n4 - (intOf i).toNat)
    case atStart => exact ⟨0, by omega, rfl, ownR_none _ _ _, B1.out⟩
    case round =>
      obtain ⟨k, hk, rfl, ho, hb⟩ := hrel
      have B3 := Lib.hid hb
      have O3 := Lib.hid ho
      clear ho
      by_cases hlt : k < n4
      · obtain ⟨b, off, ta, tc, rfl, c00, c01, c2⟩ := P4.out.2.2.1 k hlt
        have c0 : wr.cell? ⟨b, off + k * 2, none⟩ = some (.string (tx (ltx M k))) := by rw [hb.cell (p := ⟨b, off + k * 2, none⟩) (cell_lt c00)]; exact c00
        have c1 : wr.cell? ⟨b, off + k * 2 + 1, none⟩ = some (.slice ta (lrx M k).length tc) := by rw [hb.cell (p := ⟨b, off + k * 2 + 1, none⟩) (cell_lt c01)]; exact c01
        have HE2 := Lib.hid (HK.out k hlt)
        have hz := HZ.out k hk
        have h40 := HB.out k hlt
        have HS := Lib.hid c2
        generalize ltx M k = yy at c0
        obtain ⟨Y, hY⟩ : ∃ Y, Y = tx yy := ⟨_, rfl⟩
        rw [← hY] at c0
        generalize lrx M k = L at *
        have HJ := Lib.hid (fun j h => blT_take L j h)
        have HLF : Hid (blT (L.take L.length) = blT L) := Lib.hid (by rw [List.take_length])
        have HQ := Lib.hid (fun j => blT_len (L.take j))
        generalize blV (M.take k) = T0 at O3 HE2 hz
        obtain ⟨q, hq⟩ : ∃ q, q = L.length := ⟨_, rfl⟩
        rw [← hq] at c1 h40 HS HJ HLF
        clear c00 c01 c2 hb hY hq
        go_wp2_with fail
        go_loopw [4, 22] (fun s i w5 => ∃ j : Nat, j ≤ q ∧ i = .int .i64 j ∧ OwnR w5 w.heap.size 84 s (T0 ++ blT (L.take j)) ∧ Later w w5) (fun _ i _ => q - (intOf i).toNat)
        case atStart => exact ⟨0, by omega, rfl, by simpa [blT] using O3.out.later (by repeat (first | (with_reducible exact Later.refl _) | (with_reducible exact Hid.out (by assumption)) | (with_reducible refine Later.alloc ?_ _) | (with_reducible refine Later.setCell ?_ (by simp; omega) _) | (with_reducible refine Later.setCell ?_ (by simp) _) | (with_reducible refine Later.drewN ?_ _) | (with_reducible refine Later.drew ?_) | (with_reducible refine Later.trans ?_ (Hid.out (by assumption))))), Later.trans B3.out (by repeat (first | (with_reducible exact Later.refl _) | (with_reducible exact Hid.out (by assumption)) | (with_reducible refine Later.alloc ?_ _) | (with_reducible refine Later.setCell ?_ (by simp; omega) _) | (with_reducible refine Later.setCell ?_ (by simp) _) | (with_reducible refine Later.drewN ?_ _) | (with_reducible refine Later.drew ?_) | (with_reducible refine Later.trans ?_ (Hid.out (by assumption)))))⟩
        case round =>
          clear c0 c1
          obtain ⟨j, hj, rfl, ho, hb⟩ := hrel
          have B5 := Lib.hid hb
          have O5 := Lib.hid ho
          clear ho
          by_cases hlt2 : j < q
          · obtain ⟨b2, off2, rfl, d0, d1, d2⟩ := (HS.out.later hb).2.2.1 j hlt2
            obtain ⟨r1, r2, r3⟩ := HS.out.rng j hlt2
            have HJ2 := Lib.hid (HJ.out j hlt2)
            have hqq : (T0 ++ blT (L.take j)).length ≤ 100000 := by have := HQ.out j; rw [List.length_append]; simp at this; omega
            have HQQ := Lib.hid hqq
            have HRG : Hid (TrR (rkx L j, rsx L j, rnx L j)) := Lib.hid ⟨r1, r2, r3⟩
            obtain ⟨y, hy⟩ : ∃ y, y = rsx L j := ⟨_, rfl⟩
            rw [← hy] at d1 HJ2 HRG
            obtain ⟨X, hX⟩ : ∃ X, X = tx y := ⟨_, rfl⟩
            rw [← hX] at d1
            have HX := Lib.hid hX
            generalize rkx L j = kd at d0 HJ2 HRG
            generalize rnx L j = nb at d2 HJ2 HRG
            generalize blT (L.take j) = T1 at *
            have IB := Lib.hid (i_isBlockKind kd)
            generalize (decide (7 ≤ kd) && decide (kd ≤ 12)) = g at IB HJ2
            clear hy hX hb hqq r1 r2 r3
            cases g
            · have HE3 := Lib.hid (show blT (L.take (j + 1)) = T1 from HJ2.out)
              go_wp2_with (go_at_call 82; refine (IB.out _).mono ?_; rintro e w' ⟨rfl, rfl⟩)
              go_roundw
              case rel => exact ⟨j + 1, by omega, by go_num, by rw [HE3.out]; exact O5.out.later (by repeat (first | (with_reducible exact Later.refl _) | (with_reducible exact Hid.out (by assumption)) | (with_reducible refine Later.alloc ?_ _) | (with_reducible refine Later.setCell ?_ (by simp; omega) _) | (with_reducible refine Later.setCell ?_ (by simp) _) | (with_reducible refine Later.drewN ?_ _) | (with_reducible refine Later.drew ?_) | (with_reducible refine Later.trans ?_ (Hid.out (by assumption))))), (by repeat (first | (with_reducible exact Later.refl _) | (with_reducible exact Hid.out (by assumption)) | (with_reducible refine Later.alloc ?_ _) | (with_reducible refine Later.setCell ?_ (by simp; omega) _) | (with_reducible refine Later.setCell ?_ (by simp) _) | (with_reducible refine Later.drewN ?_ _) | (with_reducible refine Later.drew ?_) | (with_reducible refine Later.trans ?_ (Hid.out (by assumption)))))⟩
              case measure => simp [intOf]; omega
            · have HE3 := Lib.hid (show blT (L.take (j + 1)) = T1 ++ [(kd, y, nb)] from HJ2.out)
              go_wp2_with (first
                | (go_at_call 82; refine (IB.out _).mono ?_; rintro e w' ⟨rfl, rfl⟩)
                | (at_builtin; go_must (rw [HX.out]; refine appR rfl _ _ 84 54 (.agg #[.int .i64 0, .string ⟨#[]⟩, .int .i64 0]) 32 info_trmQ Tryd.underlying54 rfl (by omega) rfl w.heap.size _ _ _ (T0 ++ T1) kd y nb (O5.out.later (by repeat (first | (with_reducible exact Later.refl _) | (with_reducible exact Hid.out (by assumption)) | (with_reducible refine Later.alloc ?_ _) | (with_reducible refine Later.setCell ?_ (by simp; omega) _) | (with_reducible refine Later.setCell ?_ (by simp) _) | (with_reducible refine Later.drewN ?_ _) | (with_reducible refine Later.drew ?_) | (with_reducible refine Later.trans ?_ (Hid.out (by assumption)))))) rfl (by first | rfl | (simp only [World.heap_drewN, World.size_alloc]; rfl)) HRG.out (by have := HQQ.out; omega) (Later.size (by repeat (first | (with_reducible exact Later.refl _) | (with_reducible exact Hid.out (by assumption)) | (with_reducible refine Later.alloc ?_ _) | (with_reducible refine Later.setCell ?_ (by simp; omega) _) | (with_reducible refine Later.setCell ?_ (by simp) _) | (with_reducible refine Later.drewN ?_ _) | (with_reducible refine Later.drew ?_) | (with_reducible refine Later.trans ?_ (Hid.out (by assumption)))))) ?_; intro v6 w6 ho hgr)))
              have O6 := Lib.hid ho
              rw [List.append_assoc, ← HE3.out] at O6
              have B6 : Hid (Later w w6) := Lib.hid (Below.grown (show Later w _ from (by repeat (first | (with_reducible exact Later.refl _) | (with_reducible exact Hid.out (by assumption)) | (with_reducible refine Later.alloc ?_ _) | (with_reducible refine Later.setCell ?_ (by simp; omega) _) | (with_reducible refine Later.setCell ?_ (by simp) _) | (with_reducible refine Later.drewN ?_ _) | (with_reducible refine Later.drew ?_) | (with_reducible refine Later.trans ?_ (Hid.out (by assumption)))))) hgr (Later.size (by repeat (first | (with_reducible exact Later.refl _) | (with_reducible exact Hid.out (by assumption)) | (with_reducible refine Later.alloc ?_ _) | (with_reducible refine Later.setCell ?_ (by simp; omega) _) | (with_reducible refine Later.setCell ?_ (by simp) _) | (with_reducible refine Later.drewN ?_ _) | (with_reducible refine Later.drew ?_) | (with_reducible refine Later.trans ?_ (Hid.out (by assumption)))))) (fun j hj => (O5.out.lt j hj).1))
              clear ho hgr
              go_roundw
              case rel => exact ⟨j + 1, by omega, by go_num, O6.out, B6.out⟩
              case measure => simp [intOf]; omega
          · obtain rfl : j = q := by omega
            have O7 : Hid (OwnR wr w.heap.size 84 _ (T0 ++ blT L)) := Lib.hid (by have h := O5.out; rw [HLF.out] at h; exact h)
            rw [← HE2.out] at O7
            clear hb
            go_wp2_with fail
            go_roundw
            case rel => exact ⟨k + 1, by omega, by go_num, O7.out, B5.out⟩
            case measure => simp [intOf]; omega
      · obtain rfl : k = n4 := by omega
        clear hb
        go_wp2_with fail
        refine bodyPost_ret (v := .tuple #[_, .int .i64 0]) (by simp [results, Tryd.results42, go_sem, *]; rfl) rfl ⟨_, rfl, by rw [← HF.out]; exact O3.out, B3.out⟩
/-- a list of terms of the call's own, handed back -/
def RetR (w : World) (L : List Trm) (e : Ending) (w' : World) : Prop := ∃ v, e = .returned v ∧ OwnR w' w.heap.size 84 v L ∧ Later w w'
theorem s_Blocks (v : Value) (p : Prg) (w : World) (hp : PgV w v p) (hw : wrtB p = true) : Calls Tryd.prog 81 #[v] w (RetR w (blV p.lns)) := by
  obtain ⟨a1, c1, a2, c2, a3, c3, a4, c4, rfl, h1, h2, h3, h4, h5, h6⟩ := hp
  have P4 := Lib.hid h4
  have HK := Lib.hid (fun k h => blV_take p.lns k h)
  have HF : Hid (blV (p.lns.take p.lns.length) = blV p.lns) := Lib.hid (by rw [List.take_length])
  have HB : Hid (∀ j, j < p.lns.length → (lrx p.lns j).length ≤ 40) := Lib.hid (fun j hj => (wb_of p hw).len j hj)
  have HKD : Hid (∀ j, j < p.lns.length → ∀ i, i < (lrx p.lns j).length → rkx (lrx p.lns j) i ≤ 12) := Lib.hid (fun j hj i hi => (wb_of p hw).kind j hj i hi)
  have hl : p.lns.length ≤ 40 := (wb_of p hw).2.2.2.2.2.1
  have HZ : Hid (∀ k, k ≤ p.lns.length → (blV (p.lns.take k)).length ≤ 40 * k) := Lib.hid (blV_len p.lns (fun j hj => (wb_of p hw).len j hj))
  clear h1 h2 h3 h4 h5 h6 hw
  obtain ⟨s0, hs0⟩ : ∃ q, q = tx p.nm := ⟨_, rfl⟩
  obtain ⟨s4, hs4⟩ : ∃ q, q = tx p.grd := ⟨_, rfl⟩
  obtain ⟨n1, hn1⟩ : ∃ q, q = p.ins.length := ⟨_, rfl⟩
  obtain ⟨n2, hn2⟩ : ∃ q, q = p.vrs.length := ⟨_, rfl⟩
  obtain ⟨n3, hn3⟩ : ∃ q, q = p.outs.length := ⟨_, rfl⟩
  obtain ⟨n4, hn4⟩ : ∃ q, q = p.lns.length := ⟨_, rfl⟩
  simp only [← hs0, ← hs4, ← hn1, ← hn2, ← hn3, ← hn4] at P4 HK HF HB HKD hl HZ ⊢
  generalize p.lns = M at *
  clear hs0 hs4 hn1 hn2 hn3 hn4
  have q0 : (w.alloc (.cells #[.string s0, .slice a1 n1 c1, .slice a2 n2 c2, .slice a3 n3 c3, .string s4, .slice a4 n4 c4] 27)).cell? ⟨w.heap.size, 0, none⟩ = some (.string s0) := by rw [cell_of_row _ _ 0 _ _ (0, 0) (heap_alloc_new w _)]; rfl
  have q1 : (w.alloc (.cells #[.string s0, .slice a1 n1 c1, .slice a2 n2 c2, .slice a3 n3 c3, .string s4, .slice a4 n4 c4] 27)).cell? ⟨w.heap.size, 1, none⟩ = some (.slice a1 n1 c1) := by rw [cell_of_row _ _ 1 _ _ (0, 0) (heap_alloc_new w _)]; rfl
  have q2 : (w.alloc (.cells #[.string s0, .slice a1 n1 c1, .slice a2 n2 c2, .slice a3 n3 c3, .string s4, .slice a4 n4 c4] 27)).cell? ⟨w.heap.size, 2, none⟩ = some (.slice a2 n2 c2) := by rw [cell_of_row _ _ 2 _ _ (0, 0) (heap_alloc_new w _)]; rfl
  have q3 : (w.alloc (.cells #[.string s0, .slice a1 n1 c1, .slice a2 n2 c2, .slice a3 n3 c3, .string s4, .slice a4 n4 c4] 27)).cell? ⟨w.heap.size, 3, none⟩ = some (.slice a3 n3 c3) := by rw [cell_of_row _ _ 3 _ _ (0, 0) (heap_alloc_new w _)]; rfl
  have q4 : (w.alloc (.cells #[.string s0, .slice a1 n1 c1, .slice a2 n2 c2, .slice a3 n3 c3, .string s4, .slice a4 n4 c4] 27)).cell? ⟨w.heap.size, 4, none⟩ = some (.string s4) := by rw [cell_of_row _ _ 4 _ _ (0, 0) (heap_alloc_new w _)]; rfl
  have q5 : (w.alloc (.cells #[.string s0, .slice a1 n1 c1, .slice a2 n2 c2, .slice a3 n3 c3, .string s4, .slice a4 n4 c4] 27)).cell? ⟨w.heap.size, 5, none⟩ = some (.slice a4 n4 c4) := by rw [cell_of_row _ _ 5 _ _ (0, 0) (heap_alloc_new w _)]; rfl
  have hW0 : w.heap.size < (w.alloc (.cells #[.string s0, .slice a1 n1 c1, .slice a2 n2 c2, .slice a3 n3 c3, .string s4, .slice a4 n4 c4] 27)).heap.size := by rw [World.size_alloc]; exact Nat.lt_succ_self _
  have C0 : Hid (∀ W', Later (w.alloc (.cells #[.string s0, .slice a1 n1 c1, .slice a2 n2 c2, .slice a3 n3 c3, .string s4, .slice a4 n4 c4] 27)) W' → W'.cell? ⟨w.heap.size, 0, none⟩ = some (.string s0) ∧ W'.cell? ⟨w.heap.size, 1, none⟩ = some (.slice a1 n1 c1) ∧ W'.cell? ⟨w.heap.size, 2, none⟩ = some (.slice a2 n2 c2) ∧ W'.cell? ⟨w.heap.size, 3, none⟩ = some (.slice a3 n3 c3) ∧ W'.cell? ⟨w.heap.size, 4, none⟩ = some (.string s4) ∧ W'.cell? ⟨w.heap.size, 5, none⟩ = some (.slice a4 n4 c4)) := Lib.hid (fun W' q => ⟨by rw [q.cell (p := ⟨w.heap.size, 0, none⟩) hW0]; exact q0, by rw [q.cell (p := ⟨w.heap.size, 1, none⟩) hW0]; exact q1, by rw [q.cell (p := ⟨w.heap.size, 2, none⟩) hW0]; exact q2, by rw [q.cell (p := ⟨w.heap.size, 3, none⟩) hW0]; exact q3, by rw [q.cell (p := ⟨w.heap.size, 4, none⟩) hW0]; exact q4, by rw [q.cell (p := ⟨w.heap.size, 5, none⟩) hW0]; exact q5⟩)
  have A0 : Hid (Later w (w.alloc (.cells #[.string s0, .slice a1 n1 c1, .slice a2 n2 c2, .slice a3 n3 c3, .string s4, .slice a4 n4 c4] 27))) := Lib.hid ((Later.refl _).alloc _)
  clear hW0
  have hzW : (w.alloc (.cells #[.string s0, .slice a1 n1 c1, .slice a2 n2 c2, .slice a3 n3 c3, .string s4, .slice a4 n4 c4] 27)).heap.size = w.heap.size + 1 := World.size_alloc _ _
  go_enter Tryd.func81, Tryd.ntmps81
  go_wp2_with fail
  generalize (w.alloc (.cells #[.string s0, .slice a1 n1 c1, .slice a2 n2 c2, .slice a3 n3 c3, .string s4, .slice a4 n4 c4] 27)) = W0 at C0 A0 hzW q0 q1 q2 q3 q4 q5 ⊢
  have HZW := Lib.hid hzW
  have O0 : Hid (OwnR (W0.alloc (.cells #[] 84)) W0.heap.size 84 (.slice (some ⟨W0.heap.size, 0, none⟩) 0 0) []) := Lib.hid (ownR_new W0 _ _ (Nat.le_refl _))
  rw [hzW] at O0
  clear hzW q0 q1 q2 q3 q4 q5
  go_loopw [3, 4] (fun s i wr => ∃ k : Nat, k ≤ n4 ∧ i = .int .i64 k ∧ OwnR wr (w.heap.size + 1) 84 s (blV (M.take k)) ∧ Later W0 wr) (fun _ i _ => n4 - (intOf i).toNat)
  case atStart => exact ⟨0, by omega, rfl, by first | exact O0.out | (simpa [blV] using O0.out), (Later.refl _).alloc _⟩
  case round =>
    obtain ⟨k, hk, rfl, ho, hb⟩ := hrel
    have L3 := Lib.hid hb
    have O3 := Lib.hid ho
    obtain ⟨q0, q1, q2, q3, q4, q5⟩ := C0.out _ hb
    clear ho
    by_cases hlt : k < n4
    · obtain ⟨b, off, ta, tc, rfl, c00, c01, c2⟩ := P4.out.2.2.1 k hlt
      have HC0 : Hid (∀ W', Later W0 W' → W'.cell? ⟨b, off + k * 2 + 1, none⟩ = some (.slice ta (lrx M k).length tc)) := Lib.hid (fun W' h => by rw [(A0.out.trans h).cell (p := ⟨b, off + k * 2 + 1, none⟩) (cell_lt c01)]; exact c01)
      have HE2 := Lib.hid (HK.out k hlt)
      have hz := HZ.out k hk
      have h40 := HB.out k hlt
      have HKK := Lib.hid (HKD.out k hlt)
      have HS := Lib.hid c2
      generalize lrx M k = L at *
      have HJ := Lib.hid (fun j h => blT_take L j h)
      have HLF : Hid (blT (L.take L.length) = blT L) := Lib.hid (by rw [List.take_length])
      have HQ := Lib.hid (fun j => blT_len (L.take j))
      generalize blV (M.take k) = T0 at O3 HE2 hz
      obtain ⟨q, hq⟩ : ∃ q, q = L.length := ⟨_, rfl⟩
      rw [← hq] at HC0 h40 HS HJ HLF HKK
      clear c00 c01 c2 hb hq
      go_wp2_with fail
      clear q0 q1 q2 q3 q4 q5
      go_loopw [3, 5] (fun s i w5 => ∃ j : Nat, j ≤ q ∧ i = .int .i64 j ∧ OwnR w5 (w.heap.size + 1) 84 s (T0 ++ blT (L.take j)) ∧ Later W0 w5) (fun _ i _ => q - (intOf i).toNat)
      case atStart => exact ⟨0, by omega, rfl, by simpa [blT] using O3.out, L3.out⟩
      case round =>
        obtain ⟨j, hj, rfl, ho, hb⟩ := hrel
        have L5 := Lib.hid hb
        have O5 := Lib.hid ho
        obtain ⟨q0, q1, q2, q3, q4, q5⟩ := C0.out _ hb
        have cT := HC0.out _ hb
        have hsz : w.heap.size + 1 ≤ _ := Nat.le_trans (Nat.le_of_eq HZW.out.symm) hb.size
        clear ho
        by_cases hlt2 : j < q
        · obtain ⟨b2, off2, rfl, d0, d1, d2⟩ := (HS.out.later (A0.out.trans hb)).2.2.1 j hlt2
          obtain ⟨r1, r2, r3⟩ := HS.out.rng j hlt2
          have HJ2 := Lib.hid (HJ.out j hlt2)
          have hkd := HKK.out j hlt2
          have hqq : (T0 ++ blT (L.take j)).length ≤ 100000 := by have := HQ.out j; rw [List.length_append]; simp at this; omega
          have HQQ := Lib.hid hqq
          have HRG : Hid (TrR (rkx L j, rsx L j, rnx L j)) := Lib.hid ⟨r1, r2, r3⟩
          obtain ⟨y, hy⟩ : ∃ y, y = rsx L j := ⟨_, rfl⟩
          rw [← hy] at d1 HJ2 HRG
          obtain ⟨X, hX⟩ : ∃ X, X = tx y := ⟨_, rfl⟩
          rw [← hX] at d1
          have HX := Lib.hid hX
          generalize rkx L j = kd at d0 HJ2 HRG hkd
          generalize rnx L j = nb at d2 HJ2 HRG
          generalize blT (L.take j) = T1 at *
          rw [decide_eq_true hkd, Bool.and_true] at HJ2
          clear hy hX hb hqq r1 r2 r3
          by_cases hge : 7 ≤ kd
          · have HE3 := Lib.hid (show blT (L.take (j + 1)) = T1 ++ [(kd, y, nb)] from by have := HJ2.out; rw [if_pos (by simpa using hge)] at this; exact this)
            go_wp2_with (at_builtin; go_must (rw [HX.out]; refine appR rfl _ _ 84 54 (.agg #[.int .i64 0, .string ⟨#[]⟩, .int .i64 0]) 32 info_trmQ Tryd.underlying54 rfl (by omega) rfl (w.heap.size + 1) _ _ _ (T0 ++ T1) kd y nb (O5.out.later (by repeat (first | (with_reducible exact Later.refl _) | (with_reducible exact Hid.out (by assumption)) | (with_reducible refine Later.alloc ?_ _) | (with_reducible refine Later.setCell ?_ (by simp; omega) _) | (with_reducible refine Later.setCell ?_ (by simp) _) | (with_reducible refine Later.drewN ?_ _) | (with_reducible refine Later.drew ?_) | (with_reducible refine Later.trans ?_ (Hid.out (by assumption)))))) rfl (by first | rfl | (simp only [World.heap_drewN, World.size_alloc]; rfl)) HRG.out (by have := HQQ.out; omega) hsz ?_; intro v6 w6 ho hgr))
            have O6 := Lib.hid ho
            rw [List.append_assoc, ← HE3.out] at O6
            have B6 : Hid (Later W0 w6) := Lib.hid (Below.grown (show Later W0 _ from (by repeat (first | (with_reducible exact Later.refl _) | (with_reducible exact Hid.out (by assumption)) | (with_reducible refine Later.alloc ?_ _) | (with_reducible refine Later.setCell ?_ (by simp; omega) _) | (with_reducible refine Later.setCell ?_ (by simp) _) | (with_reducible refine Later.drewN ?_ _) | (with_reducible refine Later.drew ?_) | (with_reducible refine Later.trans ?_ (Hid.out (by assumption)))))) hgr (Later.size (by repeat (first | (with_reducible exact Later.refl _) | (with_reducible exact Hid.out (by assumption)) | (with_reducible refine Later.alloc ?_ _) | (with_reducible refine Later.setCell ?_ (by simp; omega) _) | (with_reducible refine Later.setCell ?_ (by simp) _) | (with_reducible refine Later.drewN ?_ _) | (with_reducible refine Later.drew ?_) | (with_reducible refine Later.trans ?_ (Hid.out (by assumption)))))) (fun j hj => by have := (O5.out.lt j hj).1; rw [HZW.out]; exact this))
            clear ho hgr
            go_roundw
            case rel => exact ⟨j + 1, by omega, by go_num, O6.out, B6.out⟩
            case measure => simp [intOf]; omega
          · have HE3 := Lib.hid (show blT (L.take (j + 1)) = T1 from by have := HJ2.out; rw [if_neg (by simpa using hge)] at this; exact this)
            go_wp2_with fail
            go_roundw
            case rel => exact ⟨j + 1, by omega, by go_num, by rw [HE3.out]; exact O5.out, L5.out⟩
            case measure => simp [intOf]; omega
        · obtain rfl : j = q := by omega
          have O7 : Hid (OwnR wr (w.heap.size + 1) 84 _ (T0 ++ blT L)) := Lib.hid (by have h := O5.out; rw [HLF.out] at h; exact h)
          rw [← HE2.out] at O7
          clear hb
          go_wp2_with fail
          go_roundw
          case rel => exact ⟨k + 1, by omega, by go_num, O7.out, L5.out⟩
          case measure => simp [intOf]; omega
    · obtain rfl : k = n4 := by omega
      clear hb
      go_wp2_with fail
      go_ret
      exact ⟨_, rfl, (by rw [← HF.out]; exact O3.out.mono (Nat.le_succ _)), A0.out.trans L3.out⟩
theorem s_BlocksIn (v : Value) (p : Prg) (w : World) (hp : PgV w v p) (hl : p.lns.length ≤ 1048576) : Calls Tryd.prog 41 #[v] w (RetB w (blW p) (blE p)) := by
  have IW := Lib.hid (fun W (h : Later w W) => s_IsWritten v p W (hp.later h) (by omega))
  have BL := Lib.hid (fun W (h : Later w W) (hw : wrtB p = true) => s_Blocks v p W (hp.later h) hw)
  have HV : Hid (blW p = if wrtB p = true then blV p.lns else []) := Lib.hid rfl
  have HE : Hid (blE p = if wrtB p = true then 0 else 1) := Lib.hid rfl
  obtain ⟨a1, c1, a2, c2, a3, c3, a4, c4, rfl, h1, h2, h3, h4, h5, h6⟩ := hp
  clear h1 h2 h3 h4 h5 h6 hl
  generalize blW p = BW at HV ⊢
  generalize blE p = E at HE ⊢
  generalize wrtB p = b at IW BL HV HE
  generalize blV p.lns = BV at BL HV
  obtain ⟨s0, hs0⟩ : ∃ q, q = tx p.nm := ⟨_, rfl⟩
  obtain ⟨s4, hs4⟩ : ∃ q, q = tx p.grd := ⟨_, rfl⟩
  obtain ⟨n1, hn1⟩ : ∃ q, q = p.ins.length := ⟨_, rfl⟩
  obtain ⟨n2, hn2⟩ : ∃ q, q = p.vrs.length := ⟨_, rfl⟩
  obtain ⟨n3, hn3⟩ : ∃ q, q = p.outs.length := ⟨_, rfl⟩
  obtain ⟨n4, hn4⟩ : ∃ q, q = p.lns.length := ⟨_, rfl⟩
  simp only [← hs0, ← hs4, ← hn1, ← hn2, ← hn3, ← hn4] at IW BL ⊢
  clear hs0 hs4 hn1 hn2 hn3 hn4
  have q0 : (w.alloc (.cells #[.string s0, .slice a1 n1 c1, .slice a2 n2 c2, .slice a3 n3 c3, .string s4, .slice a4 n4 c4] 27)).cell? ⟨w.heap.size, 0, none⟩ = some (.string s0) := by rw [cell_of_row _ _ 0 _ _ (0, 0) (heap_alloc_new w _)]; rfl
  have q1 : (w.alloc (.cells #[.string s0, .slice a1 n1 c1, .slice a2 n2 c2, .slice a3 n3 c3, .string s4, .slice a4 n4 c4] 27)).cell? ⟨w.heap.size, 1, none⟩ = some (.slice a1 n1 c1) := by rw [cell_of_row _ _ 1 _ _ (0, 0) (heap_alloc_new w _)]; rfl
  have q2 : (w.alloc (.cells #[.string s0, .slice a1 n1 c1, .slice a2 n2 c2, .slice a3 n3 c3, .string s4, .slice a4 n4 c4] 27)).cell? ⟨w.heap.size, 2, none⟩ = some (.slice a2 n2 c2) := by rw [cell_of_row _ _ 2 _ _ (0, 0) (heap_alloc_new w _)]; rfl
  have q3 : (w.alloc (.cells #[.string s0, .slice a1 n1 c1, .slice a2 n2 c2, .slice a3 n3 c3, .string s4, .slice a4 n4 c4] 27)).cell? ⟨w.heap.size, 3, none⟩ = some (.slice a3 n3 c3) := by rw [cell_of_row _ _ 3 _ _ (0, 0) (heap_alloc_new w _)]; rfl
  have q4 : (w.alloc (.cells #[.string s0, .slice a1 n1 c1, .slice a2 n2 c2, .slice a3 n3 c3, .string s4, .slice a4 n4 c4] 27)).cell? ⟨w.heap.size, 4, none⟩ = some (.string s4) := by rw [cell_of_row _ _ 4 _ _ (0, 0) (heap_alloc_new w _)]; rfl
  have q5 : (w.alloc (.cells #[.string s0, .slice a1 n1 c1, .slice a2 n2 c2, .slice a3 n3 c3, .string s4, .slice a4 n4 c4] 27)).cell? ⟨w.heap.size, 5, none⟩ = some (.slice a4 n4 c4) := by rw [cell_of_row _ _ 5 _ _ (0, 0) (heap_alloc_new w _)]; rfl
  have hW0 : w.heap.size < (w.alloc (.cells #[.string s0, .slice a1 n1 c1, .slice a2 n2 c2, .slice a3 n3 c3, .string s4, .slice a4 n4 c4] 27)).heap.size := by rw [World.size_alloc]; exact Nat.lt_succ_self _
  have C0 : Hid (∀ W', Later (w.alloc (.cells #[.string s0, .slice a1 n1 c1, .slice a2 n2 c2, .slice a3 n3 c3, .string s4, .slice a4 n4 c4] 27)) W' → W'.cell? ⟨w.heap.size, 0, none⟩ = some (.string s0) ∧ W'.cell? ⟨w.heap.size, 1, none⟩ = some (.slice a1 n1 c1) ∧ W'.cell? ⟨w.heap.size, 2, none⟩ = some (.slice a2 n2 c2) ∧ W'.cell? ⟨w.heap.size, 3, none⟩ = some (.slice a3 n3 c3) ∧ W'.cell? ⟨w.heap.size, 4, none⟩ = some (.string s4) ∧ W'.cell? ⟨w.heap.size, 5, none⟩ = some (.slice a4 n4 c4)) := Lib.hid (fun W' q => ⟨by rw [q.cell (p := ⟨w.heap.size, 0, none⟩) hW0]; exact q0, by rw [q.cell (p := ⟨w.heap.size, 1, none⟩) hW0]; exact q1, by rw [q.cell (p := ⟨w.heap.size, 2, none⟩) hW0]; exact q2, by rw [q.cell (p := ⟨w.heap.size, 3, none⟩) hW0]; exact q3, by rw [q.cell (p := ⟨w.heap.size, 4, none⟩) hW0]; exact q4, by rw [q.cell (p := ⟨w.heap.size, 5, none⟩) hW0]; exact q5⟩)
  have A0 : Hid (Later w (w.alloc (.cells #[.string s0, .slice a1 n1 c1, .slice a2 n2 c2, .slice a3 n3 c3, .string s4, .slice a4 n4 c4] 27))) := Lib.hid ((Later.refl _).alloc _)
  clear hW0
  cases b
  · obtain rfl : BW = [] := HV.out
    obtain rfl : E = 1 := HE.out
    go_enter Tryd.func41, Tryd.ntmps41
    go_wp2_with fail
    generalize (w.alloc (.cells #[.string s0, .slice a1 n1 c1, .slice a2 n2 c2, .slice a3 n3 c3, .string s4, .slice a4 n4 c4] 27)) = W0 at C0 A0 q0 q1 q2 q3 q4 q5 ⊢
    refine (IW.out _ A0.out).mono ?_
    rintro e w1 ⟨rfl, hb⟩
    have B1 := Lib.hid (Later.trans A0.out hb)
    clear hb q0 q1 q2 q3 q4 q5
    go_wp2_with fail
    all_goals
      refine bodyPost_ret (v := .tuple #[.slice none 0 0, .int .i64 1]) (by simp [results, Tryd.results41, go_sem, *]) rfl ⟨_, rfl, ownR_none _ _ _, B1.out⟩
  · obtain rfl : BW = BV := HV.out
    obtain rfl : E = 0 := HE.out
    go_enter Tryd.func41, Tryd.ntmps41
    go_wp2_with fail
    generalize (w.alloc (.cells #[.string s0, .slice a1 n1 c1, .slice a2 n2 c2, .slice a3 n3 c3, .string s4, .slice a4 n4 c4] 27)) = W0 at C0 A0 q0 q1 q2 q3 q4 q5 ⊢
    refine (IW.out _ A0.out).mono ?_
    rintro e w1 ⟨rfl, hb⟩
    have B1 := Lib.hid (Later.trans A0.out hb)
    clear q0 q1 q2 q3 q4 q5
    obtain ⟨q0, q1, q2, q3, q4, q5⟩ := C0.out _ hb
    clear hb
    go_wp2_with fail
    refine (BL.out _ B1.out (by first | rfl | trivial)).mono ?_
    rintro e w2 ⟨u, rfl, ho, hb⟩
    have B2 := Lib.hid (Later.trans B1.out hb)
    have O2 := Lib.hid (ho.mono B1.out.size)
    clear hb ho
    go_wp2_with fail
    all_goals
      refine bodyPost_ret (v := .tuple #[u, .int .i64 0]) (by simp [results, Tryd.results41, go_sem, *]) rfl ⟨_, rfl, O2.out, B2.out⟩
end Go.Proofs.YtokipobjpinhmaaDoor
namespace Go.Proofs.YtokipobjpinhmaaDoor
open Go.RowKit Go.Shelf
set_option maxHeartbeats 4000000
set_option maxRecDepth 100000
set_option linter.unusedVariables false
set_option linter.unusedSimpArgs false
theorem l_markTextB (m : Nat) (w : World) (h0 : 1 ≤ m) (h1 : m ≤ 1000000000000000) : Calls Tryd.prog 69 #[.int .i64 m] w fun e w' => e = .returned (.string (tx (mkX m))) ∧ Later w w' := by
  obtain ⟨D, hD⟩ : ∃ D, D = Lib.decDigits m := ⟨_, rfl⟩
  have HM : Hid (mkX m = 109 :: D) := Lib.hid (by rw [hD]; rfl)
  have HD := Lib.hid hD
  rw [HM.out]
  have hDl : D.length ≤ 16 := by rw [hD]; exact dec_len1 15 m (by omega)
  clear hD
  go_enter Tryd.func69, Tryd.ntmps69
  go_wp2_with fail
  go_loopw [0, 3] (fun i o wr => ∃ (j : Nat) (O : List UInt8), i = .int .i64 j ∧ o = .string (tx O) ∧ j ≤ m ∧ Hid ((if j = 0 then O else Lib.decDigits j ++ O) = D) ∧ Later w wr) (fun i _ _ => (intOf i).toNat)
  case atStart => exact ⟨m, [], rfl, rfl, by omega, Lib.hid (by rw [if_neg (by omega), List.append_nil, HD.out]), Later.refl _⟩
  case round =>
    obtain ⟨j, O, rfl, rfl, hj, HO, hb⟩ := hrel
    have B3 := Lib.hid hb
    clear hb
    have hOl : O.length ≤ 16 := by
      have h := congrArg List.length HO.out
      split at h
      · omega
      · rw [List.length_append] at h; omega
    have hz : (tx O).size ≤ 1000 := by rw [tx_size]; omega
    by_cases hj0 : j = 0
    · subst hj0
      have HE : Hid (O = D) := Lib.hid (by have := HO.out; rwa [if_pos rfl] at this)
      go_wp2_with fail
      go_ret
      rw [← HE.out]
      exact ⟨rfl, B3.out⟩
    · have hcv := conv1 (48 + (j : Int) % 10) (by omega) (by omega)
      have e2 : (j : Int).tmod 10 = (j : Int) % 10 := Int.tmod_eq_emod_of_nonneg (by omega)
      have e1 : IntKind.i64.wrap ((j : Int).tdiv 10) = ((j / 10 : Nat) : Int) := by rw [Int.tdiv_eq_ediv_of_nonneg (by omega), IntWalk.i64_in _ (by omega)]; omega
      have e3 : IntKind.i64.wrap (48 + (j : Int) % 10) = 48 + (j : Int) % 10 := IntWalk.i64_in _ (by omega)
      have e4 : IntKind.u8.wrap (48 + (j : Int) % 10) = 48 + (j : Int) % 10 := IntWalk.u8_in _ (by omega)
      have HN : Hid ((if j / 10 = 0 then UInt8.ofNat (48 + (j : Int) % 10).toNat :: O else Lib.decDigits (j / 10) ++ (UInt8.ofNat (48 + (j : Int) % 10).toNat :: O)) = D) := Lib.hid (by
        have h := HO.out
        rw [if_neg hj0] at h
        rw [← h, show (48 + (j : Int) % 10).toNat = 48 + j % 10 by omega]
        by_cases h9 : j / 10 = 0
        · rw [if_pos h9, dec_one j (by omega)]
          show _ = [dg1 j] ++ O
          rw [show j % 10 = j by omega]; rfl
        · rw [if_neg h9, dec_more j (by omega)]
          simp [dg1])
      have HNY : Hid (∀ Y, Y = [UInt8.ofNat (48 + (j : Int) % 10).toNat] → (if j / 10 = 0 then Y ++ O else Lib.decDigits (j / 10) ++ (Y ++ O)) = D) := Lib.hid (by rintro Y rfl; exact HN.out)
      obtain ⟨Y, hY⟩ : ∃ Y, Y = [UInt8.ofNat (48 + (j : Int) % 10).toNat] := ⟨_, rfl⟩
      have HN2 := Lib.hid (HNY.out Y hY)
      have hz1 : (tx Y).size = 1 := by rw [hY]; rfl
      rw [← hY] at hcv
      clear hY HN HNY
      have hlt : decide ((0 : Int) < (j : Int)) = true := by simp; omega
      have hlt2 : (0 : Int) < (j : Int) := by omega
      go_wp2_with fail
      go_roundw
      case rel => exact ⟨j / 10, _, rfl, congrArg Value.string (tx_app _ _), by omega, HN2, (by repeat (first | (with_reducible exact Later.refl _) | (with_reducible exact Hid.out (by assumption)) | (with_reducible refine Later.alloc ?_ _) | (with_reducible refine Later.setCell ?_ (by simp; omega) _) | (with_reducible refine Later.setCell ?_ (by simp) _) | (with_reducible refine Later.drewN ?_ _) | (with_reducible refine Later.drew ?_) | (with_reducible refine Later.trans ?_ (Hid.out (by assumption)))))⟩
      case measure => simp [intOf]; omega
/-- 'w' is w but for blocks of S; their cells are still there, and may still be written' -/
structure Tch (S : Nat → Prop) (w w' : World) : Prop where
  os : w'.os = w.os
  tape : w'.tape = w.tape
  output : w'.output = w.output
  size : w.heap.size ≤ w'.heap.size
  block : ∀ k, k < w.heap.size → ¬ S k → w'.heap[k]? = w.heap[k]?
  cell : ∀ b j v, w.cell? ⟨b, j, none⟩ = some v → ∃ u, w'.cell? ⟨b, j, none⟩ = some u
  wrt : ∀ b, Wrt w b → Wrt w' b
theorem Tch.refl (S : Nat → Prop) (w : World) : Tch S w w := ⟨rfl, rfl, rfl, Nat.le_refl _, fun _ _ _ => rfl, fun _ _ v h => ⟨v, h⟩, fun _ h => h⟩
theorem Tch.trans {S : Nat → Prop} {a b c : World} (h : Tch S a b) (k : Tch S b c) : Tch S a c :=
  ⟨k.os.trans h.os, k.tape.trans h.tape, k.output.trans h.output, Nat.le_trans h.size k.size, fun i hi hn => (k.block i (Nat.lt_of_lt_of_le hi h.size) hn).trans (h.block i hi hn), fun b j v hv => by obtain ⟨u, hu⟩ := h.cell b j v hv; exact k.cell b j u hu, fun b hb => k.wrt b (h.wrt b hb)⟩
theorem Tch.mono {S S' : Nat → Prop} {a b : World} (h : Tch S a b) (hs : ∀ i, S i → S' i) : Tch S' a b :=
  ⟨h.os, h.tape, h.output, h.size, fun i hi hn => h.block i hi (fun q => hn (hs i q)), h.cell, h.wrt⟩
theorem Tch.of_later {S : Nat → Prop} {a b : World} (h : Later a b) : Tch S a b :=
  ⟨h.os, h.tape, h.output, h.size, fun i hi _ => h.block i hi, fun b j v hv => ⟨v, by rw [h.cell (p := ⟨b, j, none⟩) (cell_lt hv)]; exact hv⟩, fun b hb => hb.later h⟩
theorem Tch.set {S : Nat → Prop} {a b : World} (h : Tch S a b) {g j : Nat} (hg : S g) (u : Value) (hc : ∃ v, b.cell? ⟨g, j, none⟩ = some v) : Tch S a (b.setCell ⟨g, j, none⟩ u) := by
  have q := (Below.refl 0 b).setCell (p := ⟨g, j, none⟩) (Nat.zero_le _) u
  refine h.trans ⟨q.os, q.tape, q.output, by rw [World.size_setCell]; exact Nat.le_refl _, fun i hi hn => Below.heap_setCell b ⟨g, j, none⟩ u i (fun e => hn (by rw [e]; exact hg)), fun b' j' v hv => ?_, fun b' hb => hb.set _ _⟩
  by_cases e : b' = g ∧ j' = j
  · obtain ⟨rfl, rfl⟩ := e
    obtain ⟨z, hz⟩ := hc
    exact ⟨u, World.cell?_setCell_same _ _ _ (by first | exact hz | (rw [hz]; rfl) | (simp [hz]))⟩
  · exact ⟨v, by rw [World.cell?_setCell_other _ _ _ _ (fun e2 => e (by cases e2; exact ⟨rfl, rfl⟩))]; exact hv⟩
/-- what lies in other blocks stays -/
theorem Tch.cell_far {S : Nat → Prop} {a b : World} (h : Tch S a b) {g j : Nat} {v : Value} (hg : ¬ S g) (hc : a.cell? ⟨g, j, none⟩ = some v) : b.cell? ⟨g, j, none⟩ = some v := by
  have := h.block g (cell_lt hc) hg
  unfold World.cell? at hc ⊢
  simp only [this]; exact hc
/-- 'block g may be written, and has n cells from place o on' -/
def Row (w : World) (g o n : Nat) : Prop := Wrt w g ∧ ∀ j, j < n → ∃ v, w.cell? ⟨g, o + j, none⟩ = some v
theorem Row.tch {S : Nat → Prop} {w w' : World} {g o n : Nat} (h : Row w g o n) (ht : Tch S w w') : Row w' g o n :=
  ⟨ht.wrt g h.1, fun j hj => by obtain ⟨v, hv⟩ := h.2 j hj; exact ht.cell g (o + j) v hv⟩
def MkS (g : Nat) : Nat → Prop := fun i => i = g
/-- a number of marks, handed back -/
def Mkd (S : Nat → Prop) (w : World) (c : Nat) (e : Ending) (w' : World) : Prop := e = .returned (.int .i64 (c : Int)) ∧ Tch S w w'
theorem l_markStringS' (g n c : Nat) (w : World) (hr : Row w g 0 n) (hn : n ≤ 1048576) (hc1 : 1 ≤ c) (hc2 : c ≤ 100000000000000) :
    Calls Tryd.prog 34 #[.slice (some ⟨g, 0, none⟩) n n, .int .i64 c] w (Mkd (MkS g) w (c + n)) := by
  have HR := Lib.hid hr
  have HV : Hid (∀ w', Tch (MkS g) w w' → Mkd (MkS g) w (c + n) (.returned (.int .i64 ((c : Int) + (n : Int)))) w') := Lib.hid (fun w' h => ⟨by congr 2, h⟩)
  clear hr
  go_enter Tryd.func34, Tryd.ntmps34
  go_wp2_with fail
  go_loopw [1, 5] (fun m i wr => ∃ k : Nat, k ≤ n ∧ i = .int .i64 k ∧ m = .int .i64 ((c : Int) + (k : Int)) ∧ Tch (MkS g) w wr) (fun _ i _ => n - (intOf i).toNat)
  case atStart => exact ⟨0, by omega, rfl, by simp, Tch.refl _ _⟩
  case round =>
    obtain ⟨k, hk, rfl, rfl, ht⟩ := hrel
    have HT := Lib.hid ht
    clear ht
    by_cases hlt : k < n
    · have MT := Lib.hid (fun W => l_markTextB (c + k) W (by omega) (by omega))
      obtain ⟨X, hX⟩ : ∃ X, X = tx (mkX (c + k)) := ⟨_, rfl⟩
      rw [← hX] at MT
      have em : ((c + k : Nat) : Int) = (c : Int) + (k : Int) := by omega
      rw [em] at MT
      clear hX em
      go_wp2_with fail
      refine (MT.out _).mono ?_
      rintro e w4 ⟨rfl, hb⟩
      have T4 := Lib.hid (HT.out.trans (Tch.of_later (S := MkS g) hb))
      obtain ⟨hW, hC⟩ := HR.out.tch T4.out
      obtain ⟨z, hz⟩ := hC k hlt
      rw [Nat.zero_add] at hz
      have hf := hW.2 k
      have T5 := Lib.hid (T4.out.set (g := g) (j := k) rfl (.string X) ⟨z, hz⟩)
      clear hb hW hC
      go_wp2_with fail
      go_roundw
      case rel => exact ⟨k + 1, by omega, by go_num, by first | go_num | (congr 1; omega), T5.out⟩
      case measure => simp [intOf]; omega
    · obtain rfl : k = n := by omega
      go_wp2_with fail
      go_ret
      exact HV.out _ HT.out
theorem l_markTermS0 (a : Option Addr) (cap c : Nat) (S : Nat → Prop) (w : World) (hc2 : c ≤ 100000000000000) :
    Calls Tryd.prog 44 #[.slice a 0 cap, .int .i64 c] w (Mkd S w (c + 3 * 0)) := by
  have HV : Hid (Mkd S w (c + 3 * 0) (.returned (.int .i64 (c : Int))) w) := Lib.hid ⟨by simp, Tch.refl _ _⟩
  go_enter Tryd.func44, Tryd.ntmps44
  go_wp2_with fail
  go_loop [1, 5] (fun m i => i = .int .i64 0 ∧ m = .int .i64 c) (fun _ _ => 0)
  case atStart => exact ⟨rfl, rfl⟩
  case round =>
    obtain ⟨rfl, rfl⟩ := hrel
    go_wp2_with fail
    go_ret
    exact HV.out
theorem l_markTermS' (g o n cap c : Nat) (w : World) (hr : Row w g o (n * 3)) (hn : n ≤ 1048576) (hc1 : 1 ≤ c) (hc2 : c ≤ 100000000000000) :
    Calls Tryd.prog 44 #[.slice (some ⟨g, o, none⟩) n cap, .int .i64 c] w (Mkd (MkS g) w (c + 3 * n)) := by
  have HR := Lib.hid hr
  have HV : Hid (∀ w', Tch (MkS g) w w' → Mkd (MkS g) w (c + 3 * n) (.returned (.int .i64 ((c : Int) + 3 * (n : Int)))) w') := Lib.hid (fun w' h => ⟨by congr 2, h⟩)
  clear hr
  go_enter Tryd.func44, Tryd.ntmps44
  go_wp2_with fail
  go_loopw [1, 5] (fun m i wr => ∃ k : Nat, k ≤ n ∧ i = .int .i64 k ∧ m = .int .i64 ((c : Int) + 3 * (k : Int)) ∧ Tch (MkS g) w wr) (fun _ i _ => n - (intOf i).toNat)
  case atStart => exact ⟨0, by omega, rfl, by simp, Tch.refl _ _⟩
  case round =>
    obtain ⟨k, hk, rfl, rfl, ht⟩ := hrel
    have HT := Lib.hid ht
    by_cases hlt : k < n
    · have MT := Lib.hid (fun W => l_markTextB (c + 1 + 3 * k) W (by omega) (by omega))
      obtain ⟨X, hX⟩ : ∃ X, X = tx (mkX (c + 1 + 3 * k)) := ⟨_, rfl⟩
      rw [← hX] at MT
      have em : ((c + 1 + 3 * k : Nat) : Int) = (c : Int) + 3 * (k : Int) + 1 := by omega
      rw [em] at MT
      obtain ⟨hW3, hC3⟩ := HR.out.tch ht
      obtain ⟨z, hz⟩ := hC3 (k * 3) (by omega)
      have hz' : wr.cell? ⟨g, o + k * 3, none⟩ = some z := by exact hz
      have hf := hW3.2 (o + k * 3)
      have T3 := Lib.hid (HT.out.set (g := g) (j := o + k * 3) rfl (.int .i64 ((c : Int) + 3 * (k : Int))) ⟨z, hz'⟩)
      clear hX em ht hW3 hC3 hz
      go_wp2_with fail
      refine (MT.out _).mono ?_
      rintro e w4 ⟨rfl, hb⟩
      have T4 := Lib.hid (T3.out.trans (Tch.of_later (S := MkS g) hb))
      obtain ⟨hW, hC⟩ := HR.out.tch T4.out
      obtain ⟨z1, hz1⟩ := hC (k * 3 + 1) (by omega)
      obtain ⟨z2, hz2⟩ := hC (k * 3 + 2) (by omega)
      rw [← Nat.add_assoc] at hz1 hz2
      have hf1 := hW.2 (o + k * 3 + 1)
      have hf2 := hW.2 (o + k * 3 + 2)
      have TS := (Tch.refl (MkS g) w4).set (g := g) (j := o + k * 3 + 1) rfl (.string X) ⟨z1, hz1⟩
      have T5 := Lib.hid ((T4.out.trans TS).set (g := g) (j := o + k * 3 + 2) rfl (.int .i64 ((c : Int) + 3 * (k : Int) + 1 + 1)) (TS.cell _ _ _ hz2))
      clear hb hW hC TS hz' hf
      go_wp2_with fail
      go_roundw
      case rel => exact ⟨k + 1, by omega, by go_num, by first | go_num | (congr 1; omega), T5.out⟩
      case measure => simp [intOf]; omega
    · obtain rfl : k = n := by omega
      clear ht
      go_wp2_with fail
      go_ret
      exact HV.out _ HT.out
/-- 'block g holds n lines that may be written, their terms in blocks of S other than g' -/
def Rwl (S : Nat → Prop) (w : World) (g n : Nat) : Prop :=
  Wrt w g ∧ S g ∧ ∀ j, j < n → (∃ v, w.cell? ⟨g, j * 2, none⟩ = some v) ∧ ∃ ta m tc, w.cell? ⟨g, j * 2 + 1, none⟩ = some (.slice ta m tc) ∧ m ≤ 1048576 ∧ (m = 0 ∨ ∃ tb o, ta = some ⟨tb, o, none⟩ ∧ Row w tb o (m * 3) ∧ S tb ∧ tb ≠ g)
/-- the lines' slices stay -/
def Sls (w w' : World) (g n : Nat) : Prop := ∀ j, j < n → ∀ v, w.cell? ⟨g, j * 2 + 1, none⟩ = some v → w'.cell? ⟨g, j * 2 + 1, none⟩ = some v
theorem Rwl.keep {S : Nat → Prop} {w w' : World} {g n : Nat} (h : Rwl S w g n) (ht : Tch S w w') (hs : Sls w w' g n) : Rwl S w' g n := by
  obtain ⟨h1, h2, h3⟩ := h
  refine ⟨ht.wrt g h1, h2, fun j hj => ?_⟩
  obtain ⟨⟨v, hv⟩, ta, m, tc, hc, hm, hr⟩ := h3 j hj
  refine ⟨ht.cell _ _ v hv, ta, m, tc, hs j hj _ hc, hm, ?_⟩
  rcases hr with h | ⟨tb, o, e, h4, h5⟩
  · exact .inl h
  · exact .inr ⟨tb, o, e, h4.tch ht, h5⟩
theorem Sls.refl (w : World) (g n : Nat) : Sls w w g n := fun _ _ _ h => h
theorem Sls.trans {a b c : World} {g n : Nat} (h : Sls a b g n) (k : Sls b c g n) : Sls a c g n := fun j hj v hv => k j hj v (h j hj v hv)
theorem Sls.of_later {a b : World} {g n : Nat} (h : Later a b) : Sls a b g n := fun j hj v hv => by rw [h.cell (p := ⟨g, j * 2 + 1, none⟩) (cell_lt hv)]; exact hv
theorem Sls.of_far {S : Nat → Prop} {a b : World} {g n : Nat} (h : Tch S a b) (hg : ¬ S g) : Sls a b g n := fun j hj v hv => h.cell_far hg hv
theorem Sls.set {a b : World} {g n : Nat} (h : Sls a b g n) (k : Nat) (u : Value) : Sls a (b.setCell ⟨g, k * 2, none⟩ u) g n := fun j hj v hv => by
  rw [World.cell?_setCell_other _ _ _ _ (fun e2 => by have e3 := congrArg Addr.off e2; simp at e3; omega)]; exact h j hj v hv
def MkdL (S : Nat → Prop) (w : World) (e : Ending) (w' : World) : Prop := ∃ c : Nat, e = .returned (.int .i64 (c : Int)) ∧ Tch S w w'
theorem l_markLineS' (S : Nat → Prop) (g n c : Nat) (w : World) (hr : Rwl S w g n) (hn : n ≤ 1048576) (hc1 : 1 ≤ c) (hc2 : c ≤ 100000000) :
    Calls Tryd.prog 68 #[.slice (some ⟨g, 0, none⟩) n n, .int .i64 c] w (MkdL S w) := by
  have HR := Lib.hid hr
  have HV : Hid (∀ (d : Nat) w', Tch S w w' → MkdL S w (.returned (.int .i64 (d : Int))) w') := Lib.hid (fun d w' h => ⟨d, rfl, h⟩)
  clear hr
  go_enter Tryd.func68, Tryd.ntmps68
  go_wp2_with fail
  go_loopw [1, 5] (fun m i wr => ∃ k d : Nat, k ≤ n ∧ i = .int .i64 k ∧ m = .int .i64 (d : Int) ∧ 1 ≤ d ∧ d ≤ c + k * 4000000 ∧ Tch S w wr ∧ Sls w wr g n) (fun _ i _ => n - (intOf i).toNat)
  case atStart => exact ⟨0, c, by omega, rfl, rfl, hc1, by omega, Tch.refl _ _, Sls.refl _ _ _⟩
  case round =>
    obtain ⟨k, d, hk, rfl, rfl, hd1, hd2, ht, hs⟩ := hrel
    have HT := Lib.hid ht
    have HSL := Lib.hid hs
    clear ht hs
    by_cases hlt : k < n
    · have MT := Lib.hid (fun W => l_markTextB d W (by omega) (by omega))
      obtain ⟨X, hX⟩ : ∃ X, X = tx (mkX d) := ⟨_, rfl⟩
      rw [← hX] at MT
      clear hX
      go_wp2_with fail
      refine (MT.out _).mono ?_
      rintro e w4 ⟨rfl, hb⟩
      have T4 := Lib.hid (HT.out.trans (Tch.of_later (S := S) hb))
      have SL4 := Lib.hid (HSL.out.trans (Sls.of_later hb))
      obtain ⟨hW, hSg, hC⟩ := HR.out.keep T4.out SL4.out
      obtain ⟨⟨z, hz⟩, _⟩ := hC k hlt
      have hf := hW.2 (k * 2)
      have T5 := Lib.hid (T4.out.set (g := g) (j := k * 2) hSg (.string X) ⟨z, hz⟩)
      have SL5 := Lib.hid (SL4.out.set k (.string X))
      have R5 := Lib.hid (HR.out.keep T5.out SL5.out)
      obtain ⟨_, _, hC5⟩ := R5.out
      obtain ⟨_, ta, m, tc, hc, hm, hrow⟩ := hC5 k hlt
      have ed : ((d : Int) + 1) = ((d + 1 : Nat) : Int) := by omega
      have HM : Hid (∀ W5, W5 = w4.setCell ⟨g, k * 2, none⟩ (.string X) → Calls Tryd.prog 44 #[.slice ta m tc, .int .i64 ((d : Int) + 1)] W5 fun e w' => e = .returned (.int .i64 ((d + 1 + 3 * m : Nat) : Int)) ∧ Tch S W5 w' ∧ Sls W5 w' g n) := Lib.hid (by
        rintro W5 rfl
        rw [ed]
        rcases hrow with rfl | ⟨tb, o, rfl, h4, h5, h6⟩
        · exact (l_markTermS0 ta tc (d + 1) (fun _ => False) _ (by omega)).mono fun e w' h => ⟨h.1, h.2.mono (fun i q => q.elim), Sls.of_far h.2 (fun q => q)⟩
        · exact (l_markTermS' tb o m tc (d + 1) _ h4 hm (by omega) (by omega)).mono fun e w' h => ⟨h.1, h.2.mono (fun i q => by rw [show i = tb from q]; exact h5), Sls.of_far h.2 (fun q => h6 (show g = tb from q).symm)⟩)
      have hcc : w4.cell? ⟨g, k * 2 + 1, none⟩ = some (.slice ta m tc) := by
        have := hc
        rw [World.cell?_setCell_other _ _ _ _ (fun e2 => by have e3 := congrArg Addr.off e2; simp at e3 <;> omega)] at this
        exact this
      clear hb hW hSg hC hC5 hrow hc ed
      generalize hW5 : w4.setCell ⟨g, k * 2, none⟩ (.string X) = W5 at T5 SL5 R5 HM
      have HM := Lib.hid (HM.out _ rfl)
      subst hW5
      go_wp2_with fail
      refine HM.out.mono ?_
      rintro e w6 ⟨rfl, h1, h2⟩
      have T6 := Lib.hid (T5.out.trans h1)
      have SL6 := Lib.hid (SL5.out.trans h2)
      clear h1 h2 hz hf hcc
      go_wp2_with fail
      go_roundw
      case rel => exact ⟨k + 1, d + 1 + 3 * m, by omega, by go_num, rfl, by omega, by omega, T6.out, SL6.out⟩
      case measure => simp [intOf]; omega
    · obtain rfl : k = n := by omega
      go_wp2_with fail
      go_ret
      exact HV.out _ _ HT.out
theorem Sts.row {w : World} {g n : Nat} {W : List (List UInt8)} (h : Stw w g n W) : Row w g 0 n := by
  refine ⟨h.2, fun j hj => ?_⟩
  obtain ⟨b, off, e, hc⟩ := h.1.at j hj
  cases e
  exact ⟨_, hc⟩
theorem Lnw.rwl {base : Nat} {w : World} {g n : Nat} {M : List Lne} (h : Lnw base w g n M) : Rwl (fun i => base ≤ i ∧ i < w.heap.size) w g n := by
  obtain ⟨h1, h2, h3⟩ := h
  refine ⟨h3, ⟨h2, h3.1⟩, fun j hj => ?_⟩
  obtain ⟨b, off, ta, tc, e, hc, hd, he, hf⟩ := h1.2.2.2.1 j hj
  cases e
  rw [Nat.zero_add] at hc hd
  have hlen : (lrx M j).length ≤ 1048576 := (h1.2.2.2.2 _ (lx_mem M j (by rw [h1.1]; exact hj))).2
  refine ⟨⟨_, hc⟩, ta, _, tc, hd, hlen, ?_⟩
  by_cases hz : (lrx M j).length = 0
  · exact .inl hz
  · obtain ⟨tb, o, e, _⟩ := he.2.2.1 0 (by omega)
    obtain ⟨f1, f2, f3⟩ := hf _ e
    refine .inr ⟨tb, o, e, ⟨f2, fun i hi => ?_⟩, ⟨f1, f2.1⟩, f3⟩
    obtain ⟨tb', o', e', d0, d1, d2⟩ := he.2.2.1 (i / 3) (by omega)
    rw [e] at e'
    cases e'
    rcases (show i = i / 3 * 3 ∨ i = i / 3 * 3 + 1 ∨ i = i / 3 * 3 + 2 by omega) with h | h | h
    · rw [h]; exact ⟨_, d0⟩
    · rw [h, ← Nat.add_assoc]; exact ⟨_, d1⟩
    · rw [h, ← Nat.add_assoc]; exact ⟨_, d2⟩
end Go.Proofs.YtokipobjpinhmaaDoor
namespace Go.Proofs.YtokipobjpinhmaaDoor
open Go.RowKit Go.Shelf
set_option maxHeartbeats 4000000
set_option maxRecDepth 100000
set_option linter.unusedVariables false
set_option linter.unusedSimpArgs false
theorem l_markProgram (base : Nat) (v : Value) (p : Prg) (W0 w : World) (hp : PgC base W0 v p) (hl : Later W0 w) (hs : PShort p) :
    Calls Tryd.prog 30 #[v, .int .i64 1] w (MkdL (fun i => base ≤ i ∧ i < W0.heap.size) w) := by
  obtain ⟨g1, g2, g3, g4, rfl, ⟨e1, e2, e3, f1, f2, f3⟩, h1, h2, h3, h4, _, _⟩ := hp
  have m1 := hs.2.1.1; have m2 := hs.2.2.1.1; have m3 := hs.2.2.2.1.1; have m4 := hs.2.2.2.2.2.1
  obtain ⟨S, hS⟩ : ∃ S : Nat → Prop, S = fun i => base ≤ i ∧ i < W0.heap.size := ⟨_, rfl⟩
  rw [← hS]
  have S1 : Hid (S g1) := Lib.hid (by rw [hS]; exact ⟨e1, h1.2.1⟩)
  have S2 : Hid (S g2) := Lib.hid (by rw [hS]; exact ⟨e2, h2.2.1⟩)
  have S3 : Hid (S g3) := Lib.hid (by rw [hS]; exact ⟨e3, h3.2.1⟩)
  have NW : Hid (¬ S w.heap.size) := Lib.hid (by rw [hS]; intro h; have := hl.size; have := h.2; omega)
  have R1 := Lib.hid (Sts.row (h1.later hl))
  have R2 := Lib.hid (Sts.row (h2.later hl))
  have R3 := Lib.hid (Sts.row (h3.later hl))
  have R4 : Hid (Rwl S w g4 p.lns.length) := Lib.hid (by
    rw [hS]
    exact Rwl.keep (h4.rwl) (Tch.of_later hl) (Sls.of_later hl))
  have HV : Hid (∀ (d : Nat) w', Tch S w w' → MkdL S w (.returned (.int .i64 (d : Int))) w') := Lib.hid (fun d w' h => ⟨d, rfl, h⟩)
  have G14 : g1 ≠ g4 := Nat.ne_of_lt f1
  have G24 : g2 ≠ g4 := Nat.ne_of_lt f2
  have G34 : g3 ≠ g4 := Nat.ne_of_lt f3
  clear hS h1 h2 h3 h4 e1 e2 e3 f1 f2 f3 hs hl
  obtain ⟨s0, hs0⟩ : ∃ q, q = tx p.nm := ⟨_, rfl⟩
  obtain ⟨s4, hs4⟩ : ∃ q, q = tx p.grd := ⟨_, rfl⟩
  obtain ⟨n1, hn1⟩ : ∃ q, q = p.ins.length := ⟨_, rfl⟩
  obtain ⟨n2, hn2⟩ : ∃ q, q = p.vrs.length := ⟨_, rfl⟩
  obtain ⟨n3, hn3⟩ : ∃ q, q = p.outs.length := ⟨_, rfl⟩
  obtain ⟨n4, hn4⟩ : ∃ q, q = p.lns.length := ⟨_, rfl⟩
  simp only [← hs0, ← hs4, ← hn1, ← hn2, ← hn3, ← hn4] at R1 R2 R3 R4 m1 m2 m3 m4 ⊢
  clear hs0 hs4 hn1 hn2 hn3 hn4
  have q0 : (w.alloc (.cells #[.string s0, .slice (some ⟨g1, 0, none⟩) n1 n1, .slice (some ⟨g2, 0, none⟩) n2 n2, .slice (some ⟨g3, 0, none⟩) n3 n3, .string s4, .slice (some ⟨g4, 0, none⟩) n4 n4] 27)).cell? ⟨w.heap.size, 0, none⟩ = some (.string s0) := by rw [cell_of_row _ _ 0 _ _ (0, 0) (heap_alloc_new w _)]; rfl
  have q1 : (w.alloc (.cells #[.string s0, .slice (some ⟨g1, 0, none⟩) n1 n1, .slice (some ⟨g2, 0, none⟩) n2 n2, .slice (some ⟨g3, 0, none⟩) n3 n3, .string s4, .slice (some ⟨g4, 0, none⟩) n4 n4] 27)).cell? ⟨w.heap.size, 1, none⟩ = some (.slice (some ⟨g1, 0, none⟩) n1 n1) := by rw [cell_of_row _ _ 1 _ _ (0, 0) (heap_alloc_new w _)]; rfl
  have q2 : (w.alloc (.cells #[.string s0, .slice (some ⟨g1, 0, none⟩) n1 n1, .slice (some ⟨g2, 0, none⟩) n2 n2, .slice (some ⟨g3, 0, none⟩) n3 n3, .string s4, .slice (some ⟨g4, 0, none⟩) n4 n4] 27)).cell? ⟨w.heap.size, 2, none⟩ = some (.slice (some ⟨g2, 0, none⟩) n2 n2) := by rw [cell_of_row _ _ 2 _ _ (0, 0) (heap_alloc_new w _)]; rfl
  have q3 : (w.alloc (.cells #[.string s0, .slice (some ⟨g1, 0, none⟩) n1 n1, .slice (some ⟨g2, 0, none⟩) n2 n2, .slice (some ⟨g3, 0, none⟩) n3 n3, .string s4, .slice (some ⟨g4, 0, none⟩) n4 n4] 27)).cell? ⟨w.heap.size, 3, none⟩ = some (.slice (some ⟨g3, 0, none⟩) n3 n3) := by rw [cell_of_row _ _ 3 _ _ (0, 0) (heap_alloc_new w _)]; rfl
  have q4 : (w.alloc (.cells #[.string s0, .slice (some ⟨g1, 0, none⟩) n1 n1, .slice (some ⟨g2, 0, none⟩) n2 n2, .slice (some ⟨g3, 0, none⟩) n3 n3, .string s4, .slice (some ⟨g4, 0, none⟩) n4 n4] 27)).cell? ⟨w.heap.size, 4, none⟩ = some (.string s4) := by rw [cell_of_row _ _ 4 _ _ (0, 0) (heap_alloc_new w _)]; rfl
  have q5 : (w.alloc (.cells #[.string s0, .slice (some ⟨g1, 0, none⟩) n1 n1, .slice (some ⟨g2, 0, none⟩) n2 n2, .slice (some ⟨g3, 0, none⟩) n3 n3, .string s4, .slice (some ⟨g4, 0, none⟩) n4 n4] 27)).cell? ⟨w.heap.size, 5, none⟩ = some (.slice (some ⟨g4, 0, none⟩) n4 n4) := by rw [cell_of_row _ _ 5 _ _ (0, 0) (heap_alloc_new w _)]; rfl
  have KQ : Hid (∀ W', Tch S (w.alloc (.cells #[.string s0, .slice (some ⟨g1, 0, none⟩) n1 n1, .slice (some ⟨g2, 0, none⟩) n2 n2, .slice (some ⟨g3, 0, none⟩) n3 n3, .string s4, .slice (some ⟨g4, 0, none⟩) n4 n4] 27)) W' → W'.cell? ⟨w.heap.size, 0, none⟩ = some (.string s0) ∧ W'.cell? ⟨w.heap.size, 1, none⟩ = some (.slice (some ⟨g1, 0, none⟩) n1 n1) ∧ W'.cell? ⟨w.heap.size, 2, none⟩ = some (.slice (some ⟨g2, 0, none⟩) n2 n2) ∧ W'.cell? ⟨w.heap.size, 3, none⟩ = some (.slice (some ⟨g3, 0, none⟩) n3 n3) ∧ W'.cell? ⟨w.heap.size, 4, none⟩ = some (.string s4) ∧ W'.cell? ⟨w.heap.size, 5, none⟩ = some (.slice (some ⟨g4, 0, none⟩) n4 n4)) := Lib.hid (fun W' h => ⟨h.cell_far NW.out q0, h.cell_far NW.out q1, h.cell_far NW.out q2, h.cell_far NW.out q3, h.cell_far NW.out q4, h.cell_far NW.out q5⟩)
  have T0 : Hid (Tch S w (w.alloc (.cells #[.string s0, .slice (some ⟨g1, 0, none⟩) n1 n1, .slice (some ⟨g2, 0, none⟩) n2 n2, .slice (some ⟨g3, 0, none⟩) n3 n3, .string s4, .slice (some ⟨g4, 0, none⟩) n4 n4] 27))) := Lib.hid (Tch.of_later ((Later.refl _).alloc _))
  have L0 : Hid (Sls w (w.alloc (.cells #[.string s0, .slice (some ⟨g1, 0, none⟩) n1 n1, .slice (some ⟨g2, 0, none⟩) n2 n2, .slice (some ⟨g3, 0, none⟩) n3 n3, .string s4, .slice (some ⟨g4, 0, none⟩) n4 n4] 27)) g4 n4) := Lib.hid (Sls.of_later ((Later.refl _).alloc _))
  go_enter Tryd.func30, Tryd.ntmps30
  go_wp2_with fail
  generalize (w.alloc (.cells #[.string s0, .slice (some ⟨g1, 0, none⟩) n1 n1, .slice (some ⟨g2, 0, none⟩) n2 n2, .slice (some ⟨g3, 0, none⟩) n3 n3, .string s4, .slice (some ⟨g4, 0, none⟩) n4 n4] 27)) = W1 at KQ T0 L0 q0 q1 q2 q3 q4 q5 ⊢
  refine (l_markStringS' g1 n1 1 W1 (R1.out.tch T0.out) m1 (by omega) (by omega)).mono ?_
  rintro e w2 ⟨rfl, ht⟩
  have U2 := Lib.hid (ht.mono (S' := S) (fun i h => (show i = g1 from h) ▸ S1.out))
  have L2 := Lib.hid (L0.out.trans (Sls.of_far ht (fun h : g4 = g1 => G14 h.symm)))
  clear ht q0 q1 q2 q3 q4 q5
  obtain ⟨q0, q1, q2, q3, q4, q5⟩ := KQ.out _ U2.out
  go_wp2_with fail
  refine (l_markStringS' g2 n2 (1 + n1) w2 (R2.out.tch (T0.out.trans U2.out)) m2 (by omega) (by omega)).mono ?_
  rintro e w3 ⟨rfl, ht⟩
  have U3 := Lib.hid (U2.out.trans (ht.mono (S' := S) (fun i h => (show i = g2 from h) ▸ S2.out)))
  have L3 := Lib.hid (L2.out.trans (Sls.of_far ht (fun h : g4 = g2 => G24 h.symm)))
  clear ht q0 q1 q2 q3 q4 q5
  obtain ⟨q0, q1, q2, q3, q4, q5⟩ := KQ.out _ U3.out
  go_wp2_with fail
  refine (l_markStringS' g3 n3 (1 + n1 + n2) w3 (R3.out.tch (T0.out.trans U3.out)) m3 (by omega) (by omega)).mono ?_
  rintro e w4 ⟨rfl, ht⟩
  have U4 := Lib.hid (U3.out.trans (ht.mono (S' := S) (fun i h => (show i = g3 from h) ▸ S3.out)))
  have L4 := Lib.hid (L3.out.trans (Sls.of_far ht (fun h : g4 = g3 => G34 h.symm)))
  clear ht q0 q1 q2 q3 q4 q5
  obtain ⟨q0, q1, q2, q3, q4, q5⟩ := KQ.out _ U4.out
  go_wp2_with fail
  refine (l_markLineS' S g4 n4 (1 + n1 + n2 + n3) w4 (R4.out.keep (T0.out.trans U4.out) L4.out) m4 (by omega) (by omega)).mono ?_
  rintro e w5 ⟨d, rfl, ht⟩
  have U5 := Lib.hid (T0.out.trans (U4.out.trans ht))
  clear ht q0 q1 q2 q3 q4 q5
  go_wp2_with fail
  go_ret
  exact HV.out _ _ U5.out
end Go.Proofs.YtokipobjpinhmaaDoor
namespace Go.Proofs.YtokipobjpinhmaaDoor
open Go.RowKit Go.Shelf
set_option maxHeartbeats 4000000
set_option maxRecDepth 100000
set_option linter.unusedVariables false
set_option linter.unusedSimpArgs false
/-- a list of terms of which the first k are marked, from number c on -/
def mkR (c : Nat) (L : List Trm) (k : Nat) : List Trm := (List.range L.length).map fun j => if j < k then ((c : Int) + 3 * (j : Int), mkX (c + 1 + 3 * j), (c : Int) + 3 * (j : Int) + 2) else (rkx L j, rsx L j, rnx L j)
theorem mkR_len (c : Nat) (L : List Trm) (k : Nat) : (mkR c L k).length = L.length := by simp [mkR]
theorem mkR_at (c : Nat) (L : List Trm) (k j : Nat) (h : j < L.length) : (mkR c L k).getD j (0, [], 0) = if j < k then ((c : Int) + 3 * (j : Int), mkX (c + 1 + 3 * j), (c : Int) + 3 * (j : Int) + 2) else (rkx L j, rsx L j, rnx L j) := by
  rw [List.getD_eq_getElem?_getD]; simp [mkR, h]
theorem mkR_k (c : Nat) (L : List Trm) (k j : Nat) (h : j < L.length) (hk : j < k) : rkx (mkR c L k) j = (c : Int) + 3 * (j : Int) ∧ rsx (mkR c L k) j = mkX (c + 1 + 3 * j) ∧ rnx (mkR c L k) j = (c : Int) + 3 * (j : Int) + 2 := by
  unfold rkx rsx rnx; rw [mkR_at c L k j h, if_pos hk]; exact ⟨rfl, rfl, rfl⟩
theorem mkR_0 (c : Nat) (L : List Trm) : mkR c L 0 = L := by
  apply List.ext_getElem
  · exact mkR_len c L 0
  · intro j h1 h2
    have := mkR_at c L 0 j h2
    rw [List.getD_eq_getElem?_getD, List.getElem?_eq_getElem h1] at this
    rw [rk_at L j h2]
    simpa using this
theorem mkR_set (c : Nat) (L : List Trm) (k : Nat) (hk : k < L.length) : (((rcl (mkR c L k)).set (k * 3) (.int .i64 ((c : Int) + 3 * (k : Int)))).set (k * 3 + 1) (.string (tx (mkX (c + 1 + 3 * k))))).set (k * 3 + 2) (.int .i64 ((c : Int) + 3 * (k : Int) + 2)) = rcl (mkR c L (k + 1)) := by
  apply List.ext_getElem?
  intro i
  by_cases hi : i < L.length * 3
  · rw [List.getElem?_set, List.getElem?_set, List.getElem?_set, List.length_set, List.length_set, rcl_len, mkR_len, rcl_get _ i (by rw [mkR_len]; exact hi), rcl_get _ i (by rw [mkR_len]; exact hi)]
    have hj : i / 3 < L.length := by omega
    unfold rkx rsx rnx
    rw [mkR_at c L k _ hj, mkR_at c L (k + 1) _ hj]
    by_cases e1 : k * 3 + 2 = i
    · subst e1
      rw [if_pos rfl, if_pos (by omega), if_neg (by omega), if_neg (by omega), show (k * 3 + 2) / 3 = k by omega, if_pos (by omega)]
    · rw [if_neg e1]
      by_cases e2 : k * 3 + 1 = i
      · subst e2
        rw [if_pos rfl, if_pos (by omega), if_neg (by omega), if_pos (by omega), show (k * 3 + 1) / 3 = k by omega, if_pos (by omega)]
      · rw [if_neg e2]
        by_cases e3 : k * 3 = i
        · subst e3
          rw [if_pos rfl, if_pos (by omega), if_pos (by omega), show k * 3 / 3 = k by omega, if_pos (by omega)]
        · rw [if_neg e3]
          by_cases cc : i / 3 < k
          · have c2 : i / 3 < k + 1 := by omega
            simp only [if_pos cc, if_pos c2]
          · have c2 : ¬ i / 3 < k + 1 := by omega
            simp only [if_neg cc, if_neg c2]
  · rw [List.getElem?_eq_none (by simp [rcl_len, mkR_len]; omega), List.getElem?_eq_none (by simp [rcl_len, mkR_len]; omega)]
theorem mkR_R (c : Nat) (L : List Trm) (k : Nat) (hc : c ≤ 500000000) (hl : L.length ≤ 100000000) (h : ∀ x ∈ L, TrR x) : ∀ x ∈ mkR c L k, TrR x := by
  intro x hx
  obtain ⟨j, hj, rfl⟩ := List.mem_map.1 hx
  rw [List.mem_range] at hj
  by_cases cc : j < k
  · simp only [if_pos cc]
    have := mkX_len (c + 1 + 3 * j) (by omega)
    refine ⟨⟨by show _ ≤ ((c : Int) + 3 * (j : Int)); omega, by show ((c : Int) + 3 * (j : Int)) ≤ _; omega⟩, by show (mkX (c + 1 + 3 * j)).length ≤ _; omega, ⟨by show _ ≤ ((c : Int) + 3 * (j : Int) + 2); omega, by show ((c : Int) + 3 * (j : Int) + 2) ≤ _; omega⟩⟩
  · simp only [if_neg cc]; exact h _ (rk_mem L j hj)
def MarkedR (c : Nat) (w : World) (base : Nat) (T : TypeId) (v : Value) (L : List Trm) (e : Ending) (w' : World) : Prop :=
  e = .returned (.int .i64 ((c : Int) + 3 * (L.length : Int))) ∧ OwnR w' base T v (mkR c L L.length) ∧ w.grownBy w' v.ownBlock
theorem l_markTermS (c : Nat) (v : Value) (base : Nat) (T : TypeId) (L : List Trm) (w : World) (ho : OwnR w base T v L) (hl : L.length ≤ 100000000) (hc1 : 1 ≤ c) (hc2 : c ≤ 500000000) :
    Calls Tryd.prog 44 #[v, .int .i64 c] w (MarkedR c w base T v L) := by
  have HI := Lib.hid ho.2
  obtain ⟨n, hn⟩ : ∃ n, n = L.length := ⟨_, rfl⟩
  have HN := Lib.hid hn
  rcases ho.1.2 with ⟨rfl, h0⟩ | ⟨g, cap, cur, rfl, hb, hg, hnc, hcm, _⟩
  · have e : L = [] := List.length_eq_zero_iff.1 h0
    subst e
    have HO := Lib.hid ho
    clear ho hl hn HN
    go_enter Tryd.func44, Tryd.ntmps44
    go_wp2
    go_loop [1, 5] (fun m i => i = .int .i64 0 ∧ m = .int .i64 c) (fun _ _ => 0)
    case atStart => exact ⟨rfl, rfl⟩
    case round =>
      obtain ⟨rfl, rfl⟩ := hrel
      go_wp2
      go_ret
      exact ⟨by simp, HO.out, ⟨rfl, rfl, rfl, Nat.le_refl _, fun _ _ _ => rfl⟩⟩
  · have O1 : Hid (w.ownsRow base T 3 (.slice (some ⟨g, 0, none⟩) n cap) n (rcl (mkR c L 0))) := Lib.hid (by rw [mkR_0, hn]; exact ho.1)
    have hgl : g < w.heap.size := (ho.lt g rfl).2
    rw [← hn] at hl hnc ⊢
    clear hg ho hb hcm
    unfold MarkedR
    rw [← hn]
    clear hn
    go_enter Tryd.func44, Tryd.ntmps44
    go_wp2
    go_loopw [1, 5] (fun m i wr => ∃ k : Nat, k ≤ n ∧ i = .int .i64 k ∧ m = .int .i64 ((c : Int) + 3 * (k : Int)) ∧ wr.ownsRow base T 3 (.slice (some ⟨g, 0, none⟩) n cap) n (rcl (mkR c L k)) ∧ w.grownBy wr (some g)) (fun _ i _ => n - (intOf i).toNat)
    case atStart => exact ⟨0, by omega, rfl, by simp, O1.out, ⟨rfl, rfl, rfl, Nat.le_refl _, fun _ _ _ => rfl⟩⟩
    case round =>
      obtain ⟨k, hk, rfl, rfl, ho, hg⟩ := hrel
      have HR := Lib.hid ho; have HG := Lib.hid hg
      clear ho hg
      by_cases hlt : k < n
      · have hkL : k < (mkR c L k).length := by rw [mkR_len, ← HN.out]; exact hlt
        have hz : wr.cell? ⟨g, k * 3, none⟩ = some (.int .i64 (rkx (mkR c L k) k)) := by rw [HR.out.cellAt (k * 3) (by omega), rcl_0 _ k hkL]
        have hf : wr.frozen? ⟨g, k * 3, none⟩ = false := HR.out.frozenAt _
        have HZ := Lib.hid (rcl_1 (mkR c L k) k hkL)
        have HZ2 := Lib.hid (rcl_2 (mkR c L k) k hkL)
        generalize rkx (mkR c L k) k = z at hz
        generalize tx (rsx (mkR c L k) k) = z2 at HZ
        generalize rnx (mkR c L k) k = z3 at HZ2
        have S1 := HR.out.stored (k * 3) (.int .i64 ((c : Int) + 3 * (k : Int)))
        have S1A := Lib.hid S1.1; have S1B := Lib.hid S1.2
        have HST : Hid (rcl (mkR c L (k + 1)) = (((rcl (mkR c L k)).set (k * 3) (.int .i64 ((c : Int) + 3 * (k : Int)))).set (k * 3 + 1) (.string (tx (mkX (c + 1 + 3 * k))))).set (k * 3 + 2) (.int .i64 ((c : Int) + 3 * (k : Int) + 2))) := Lib.hid (mkR_set c L k (by rw [← HN.out]; exact hlt)).symm
        have MT := Lib.hid (fun W => l_markText (c + 1 + 3 * k) W (by omega) (by omega))
        obtain ⟨X, hX⟩ : ∃ X, X = tx (mkX (c + 1 + 3 * k)) := ⟨_, rfl⟩
        rw [← hX] at MT HST
        have em : ((c + 1 + 3 * k : Nat) : Int) = (c : Int) + 3 * (k : Int) + 1 := by omega
        rw [em] at MT
        have em2 : (c : Int) + 3 * (k : Int) + 1 + 1 = (c : Int) + 3 * (k : Int) + 2 := by omega
        have EM2 := Lib.hid em2
        have hgw : g < wr.heap.size := Go.Lib.lt_of_cell hz
        clear S1 hkL hX em em2
        go_wp2_with fail
        refine (MT.out _).mono ?_
        rintro e w4 ⟨rfl, hb⟩
        have R4 := Lib.hid (S1A.out.kept (row := none) (grown_of_later hb none) (.inr (fun e => by cases e)))
        have G4 := Lib.hid (grown_trans (grown_trans HG.out S1B.out) (grown_of_later hb (some g)))
        have hz4 : w4.cell? ⟨g, k * 3 + 1, none⟩ = some (.string z2) := by
          rw [R4.out.cellAt (k * 3 + 1) (by omega), List.getElem?_set, if_neg (by omega)]; exact HZ.out
        have hz5 : w4.cell? ⟨g, k * 3 + 2, none⟩ = some (.int .i64 z3) := by
          rw [R4.out.cellAt (k * 3 + 2) (by omega), List.getElem?_set, if_neg (by omega)]; exact HZ2.out
        have hf4 : w4.frozen? ⟨g, k * 3 + 1, none⟩ = false := R4.out.frozenAt _
        have hf5 : w4.frozen? ⟨g, k * 3 + 2, none⟩ = false := R4.out.frozenAt _
        have S4 := R4.out.stored (k * 3 + 1) (.string X)
        have S5 := S4.1.stored (k * 3 + 2) (.int .i64 ((c : Int) + 3 * (k : Int) + 2))
        have S5A := Lib.hid S5.1; have S4B := Lib.hid S4.2; have S5B := Lib.hid S5.2
        clear S4 S5 hb hz hf
        go_wp2_with fail
        go_roundw
        case rel => exact ⟨k + 1, by omega, by go_num, by first | go_num | (congr 1; omega), by first | (rw [HST.out]; exact S5A.out) | (rw [HST.out, ← EM2.out]; rw [← EM2.out] at S5A; exact S5A.out), by first | exact grown_trans (grown_trans G4.out S4B.out) S5B.out | (rw [← EM2.out] at S5B; exact grown_trans (grown_trans G4.out S4B.out) S5B.out)⟩
        case measure => simp [intOf]; omega
      · obtain rfl : k = n := by omega
        go_wp2
        go_ret
        exact ⟨rfl, ⟨by rw [mkR_len, ← HN.out]; exact HR.out, mkR_R c L _ hc2 (by rw [← HN.out]; omega) HI.out⟩, HG.out⟩
theorem l_heldTermS (c : Nat) (v : Value) (base : Nat) (T : TypeId) (L : List Trm) (n : Nat) (w : World) (hn : n = L.length) (ho : OwnR w base T v (mkR c L n)) (hl : n ≤ 100000000) (hc1 : 1 ≤ c) (hc2 : c ≤ 500000000) :
    Calls Tryd.prog 45 #[v, .int .i64 c] w fun e w' => e = .returned (.int .i64 ((c : Int) + 3 * (n : Int))) ∧ Later w w' := by
  obtain ⟨a, cap, rfl, _, hs, _⟩ := ho.trs
  rw [mkR_len, ← hn] at hs ⊢
  have HS := Lib.hid hs
  have HN := Lib.hid hn
  clear hs ho hn
  go_enter Tryd.func45, Tryd.ntmps45
  go_wp2
  go_loopw [1, 5] (fun m i wr => ∃ k : Nat, k ≤ n ∧ i = .int .i64 k ∧ m = .int .i64 ((c : Int) + 3 * (k : Int)) ∧ Later w wr) (fun _ i _ => n - (intOf i).toNat)
  case atStart => exact ⟨0, by omega, rfl, by simp, Later.refl _⟩
  case round =>
    obtain ⟨k, hk, rfl, rfl, hb⟩ := hrel
    have B3 := Lib.hid hb
    by_cases hlt : k < n
    · obtain ⟨b, off, rfl, hc, hd, he⟩ := (HS.out.later hb).2.2.1 k hlt
      obtain ⟨e1, e2, e3⟩ := mkR_k c L n k (by rw [← HN.out]; exact hlt) hlt
      rw [e1] at hc; rw [e2] at hd; rw [e3] at he
      have MT := Lib.hid (fun W => l_markText (c + 1 + 3 * k) W (by omega) (by omega))
      obtain ⟨X, hX⟩ : ∃ X, X = tx (mkX (c + 1 + 3 * k)) := ⟨_, rfl⟩
      rw [← hX] at MT hd
      have em : ((c + 1 + 3 * k : Nat) : Int) = (c : Int) + 3 * (k : Int) + 1 := by omega
      rw [em] at MT
      have em2 : (c : Int) + 3 * (k : Int) + 2 = (c : Int) + 3 * (k : Int) + 1 + 1 := by omega
      rw [em2] at he
      have D := Lib.hid hd; have E := Lib.hid he
      have KL : Hid (∀ W', Later wr W' → W'.cell? ⟨b, off + k * 3 + 1, none⟩ = some (.string X) ∧ W'.cell? ⟨b, off + k * 3 + 2, none⟩ = some (.int .i64 ((c : Int) + 3 * (k : Int) + 1 + 1))) := Lib.hid (fun W' q => ⟨by rw [q.cell (p := ⟨b, off + k * 3 + 1, none⟩) (cell_lt D.out)]; exact D.out, by rw [q.cell (p := ⟨b, off + k * 3 + 2, none⟩) (cell_lt E.out)]; exact E.out⟩)
      clear hX em hb e1 e2 e3 em2
      go_wp2_with fail
      go_region_held3 (fun w' => w'.cell? ⟨b, off + k * 3 + 1, none⟩ = some (.string X) ∧ w'.cell? ⟨b, off + k * 3 + 2, none⟩ = some (.int .i64 ((c : Int) + 3 * (k : Int) + 1 + 1))) (exact KL.out _ (by repeat (first | (with_reducible exact Later.refl _) | (with_reducible exact Hid.out (by assumption)) | (with_reducible refine Later.alloc ?_ _) | (with_reducible refine Later.setCell ?_ (by simp; omega) _) | (with_reducible refine Later.setCell ?_ (by simp) _) | (with_reducible refine Later.drewN ?_ _) | (with_reducible refine Later.drew ?_) | (with_reducible refine Later.trans ?_ (Hid.out (by assumption))))))
        (first | (go_at_call 69; refine (MT.out _).mono ?_; rintro e w1 ⟨rfl, hb1⟩; have H1 := Lib.hid hb1; obtain ⟨cX, cN⟩ := KL.out _ (Later.trans (show Later wr _ from (by repeat (first | (with_reducible exact Later.refl _) | (with_reducible exact Hid.out (by assumption)) | (with_reducible refine Later.alloc ?_ _) | (with_reducible refine Later.setCell ?_ (by simp; omega) _) | (with_reducible refine Later.setCell ?_ (by simp) _) | (with_reducible refine Later.drewN ?_ _) | (with_reducible refine Later.drew ?_) | (with_reducible refine Later.trans ?_ (Hid.out (by assumption)))))) hb1); clear hb1))
      all_goals
        go_wp2
        go_roundw
        case rel => exact ⟨k + 1, by omega, by go_num, by first | go_num | (congr 1; omega), (by repeat (first | (with_reducible exact Later.refl _) | (with_reducible exact Hid.out (by assumption)) | (with_reducible refine Later.alloc ?_ _) | (with_reducible refine Later.setCell ?_ (by simp; omega) _) | (with_reducible refine Later.setCell ?_ (by simp) _) | (with_reducible refine Later.drewN ?_ _) | (with_reducible refine Later.drew ?_) | (with_reducible refine Later.trans ?_ (Hid.out (by assumption)))))⟩
        case measure => simp [intOf]; omega
    · obtain rfl : k = n := by omega
      clear hb
      go_wp2
      go_ret
      exact ⟨rfl, B3.out⟩
end Go.Proofs.YtokipobjpinhmaaDoor
namespace Go.Proofs.YtokipobjpinhmaaDoor
open Go.RowKit Go.Shelf
set_option maxHeartbeats 4000000
set_option maxRecDepth 100000
set_option linter.unusedVariables false
set_option linter.unusedSimpArgs false
theorem Tch.later_of {S : Nat → Prop} {w a b : World} (h : Tch S a b) (hl : Later w a) (hS : ∀ i, S i → w.heap.size ≤ i) : Later w b :=
  ⟨h.os.trans hl.os, h.tape.trans hl.tape, h.output.trans hl.output, Nat.le_trans hl.size h.size, fun i hi => (h.block i (Nat.lt_of_lt_of_le hi hl.size) (fun q => by have := hS i q; omega)).trans (hl.block i hi)⟩
theorem ownsRow_tch {w w' : World} {base : Nat} {T : TypeId} {sz : Nat} {v : Value} {n : Nat} {xs : List Value} (h : w.ownsRow base T sz v n xs) (hb : ∀ k, v.ownBlock = some k → w'.heap[k]? = w.heap[k]?) : w'.ownsRow base T sz v n xs := by
  refine ⟨h.1, ?_⟩
  rcases h.2 with h0 | ⟨g, cap, cur, rfl, h1, hg, h2⟩
  · exact .inl h0
  · exact .inr ⟨g, cap, cur, rfl, h1, (hb g rfl).trans hg, h2⟩
theorem OwnR.tchO {w w' : World} {base : Nat} {T : TypeId} {v : Value} {L : List Trm} (h : OwnR w base T v L) (hb : ∀ k, v.ownBlock = some k → w'.heap[k]? = w.heap[k]?) : OwnR w' base T v L := ⟨ownsRow_tch h.1 hb, h.2⟩
theorem OwnR.trsS {w : World} {base : Nat} {T : TypeId} {a : Option Addr} {n c : Nat} {L : List Trm} (h : OwnR w base T (.slice a n c) L) : Trs w a n L := by
  obtain ⟨a', c', e, _, t, _⟩ := h.trs
  cases e
  exact t
theorem walk_FnExactBlocksIn (v : Value) (p : Prg) (w : World) (hp : PgO w v p) (hx : Ops w) :
    Calls Tryd.prog 11 #[v] w fun e w' => e = .returned (.bool true) ∧ Below w.heap.size w w' := by
  have HX := Lib.hid hx
  have HP := Lib.hid hp
  have SZ := Lib.hid (fun W h => l_szProgram v p W h)
  have TP := Lib.hid (fun W h1 h2 => l_toProgramC v p W h1 h2)
  clear hx
  obtain ⟨a1, c1, a2, c2, a3, c3, a4, c4, rfl, _, _, _, _, _, _⟩ := hp
  obtain ⟨s0, hs0⟩ : ∃ q, q = tx p.nm := ⟨_, rfl⟩
  obtain ⟨s4, hs4⟩ : ∃ q, q = tx p.grd := ⟨_, rfl⟩
  obtain ⟨n1, hn1⟩ : ∃ q, q = p.ins.length := ⟨_, rfl⟩
  obtain ⟨n2, hn2⟩ : ∃ q, q = p.vrs.length := ⟨_, rfl⟩
  obtain ⟨n3, hn3⟩ : ∃ q, q = p.outs.length := ⟨_, rfl⟩
  obtain ⟨n4, hn4⟩ : ∃ q, q = p.lns.length := ⟨_, rfl⟩
  rw [← hs0, ← hs4, ← hn1, ← hn2, ← hn3, ← hn4] at HP SZ TP ⊢
  have HS : Hid (∀ W u, PgV W u p → ∃ x1 y1 x2 y2 x3 y3 x4 y4, u = .agg #[.string s0, .slice x1 n1 y1, .slice x2 n2 y2, .slice x3 n3 y3, .string s4, .slice x4 n4 y4]) := Lib.hid (by
    rintro W u ⟨x1, y1, x2, y2, x3, y3, x4, y4, rfl, _⟩
    rw [← hs0, ← hs4, ← hn1, ← hn2, ← hn3, ← hn4]
    exact ⟨_, _, _, _, _, _, _, _, rfl⟩)
  clear hs0 hs4 hn1 hn2 hn3 hn4
  have q0 : (w.alloc (.cells #[.string s0, .slice a1 n1 c1, .slice a2 n2 c2, .slice a3 n3 c3, .string s4, .slice a4 n4 c4] 41)).cell? ⟨w.heap.size, 0, none⟩ = some (.string s0) := by rw [cell_of_row _ _ 0 _ _ (0, 0) (heap_alloc_new w _)]; rfl
  have q1 : (w.alloc (.cells #[.string s0, .slice a1 n1 c1, .slice a2 n2 c2, .slice a3 n3 c3, .string s4, .slice a4 n4 c4] 41)).cell? ⟨w.heap.size, 1, none⟩ = some (.slice a1 n1 c1) := by rw [cell_of_row _ _ 1 _ _ (0, 0) (heap_alloc_new w _)]; rfl
  have q2 : (w.alloc (.cells #[.string s0, .slice a1 n1 c1, .slice a2 n2 c2, .slice a3 n3 c3, .string s4, .slice a4 n4 c4] 41)).cell? ⟨w.heap.size, 2, none⟩ = some (.slice a2 n2 c2) := by rw [cell_of_row _ _ 2 _ _ (0, 0) (heap_alloc_new w _)]; rfl
  have q3 : (w.alloc (.cells #[.string s0, .slice a1 n1 c1, .slice a2 n2 c2, .slice a3 n3 c3, .string s4, .slice a4 n4 c4] 41)).cell? ⟨w.heap.size, 3, none⟩ = some (.slice a3 n3 c3) := by rw [cell_of_row _ _ 3 _ _ (0, 0) (heap_alloc_new w _)]; rfl
  have q4 : (w.alloc (.cells #[.string s0, .slice a1 n1 c1, .slice a2 n2 c2, .slice a3 n3 c3, .string s4, .slice a4 n4 c4] 41)).cell? ⟨w.heap.size, 4, none⟩ = some (.string s4) := by rw [cell_of_row _ _ 4 _ _ (0, 0) (heap_alloc_new w _)]; rfl
  have q5 : (w.alloc (.cells #[.string s0, .slice a1 n1 c1, .slice a2 n2 c2, .slice a3 n3 c3, .string s4, .slice a4 n4 c4] 41)).cell? ⟨w.heap.size, 5, none⟩ = some (.slice a4 n4 c4) := by rw [cell_of_row _ _ 5 _ _ (0, 0) (heap_alloc_new w _)]; rfl
  have hW0 : w.heap.size < (w.alloc (.cells #[.string s0, .slice a1 n1 c1, .slice a2 n2 c2, .slice a3 n3 c3, .string s4, .slice a4 n4 c4] 41)).heap.size := by rw [World.size_alloc]; exact Nat.lt_succ_self _
  have C0 : Hid (∀ W', Later (w.alloc (.cells #[.string s0, .slice a1 n1 c1, .slice a2 n2 c2, .slice a3 n3 c3, .string s4, .slice a4 n4 c4] 41)) W' → W'.cell? ⟨w.heap.size, 0, none⟩ = some (.string s0) ∧ W'.cell? ⟨w.heap.size, 1, none⟩ = some (.slice a1 n1 c1) ∧ W'.cell? ⟨w.heap.size, 2, none⟩ = some (.slice a2 n2 c2) ∧ W'.cell? ⟨w.heap.size, 3, none⟩ = some (.slice a3 n3 c3) ∧ W'.cell? ⟨w.heap.size, 4, none⟩ = some (.string s4) ∧ W'.cell? ⟨w.heap.size, 5, none⟩ = some (.slice a4 n4 c4)) := Lib.hid (fun W' q => ⟨by rw [q.cell (p := ⟨w.heap.size, 0, none⟩) hW0]; exact q0, by rw [q.cell (p := ⟨w.heap.size, 1, none⟩) hW0]; exact q1, by rw [q.cell (p := ⟨w.heap.size, 2, none⟩) hW0]; exact q2, by rw [q.cell (p := ⟨w.heap.size, 3, none⟩) hW0]; exact q3, by rw [q.cell (p := ⟨w.heap.size, 4, none⟩) hW0]; exact q4, by rw [q.cell (p := ⟨w.heap.size, 5, none⟩) hW0]; exact q5⟩)
  have A0 : Hid (Later w (w.alloc (.cells #[.string s0, .slice a1 n1 c1, .slice a2 n2 c2, .slice a3 n3 c3, .string s4, .slice a4 n4 c4] 41))) := Lib.hid ((Later.refl _).alloc _)
  clear hW0
  go_enter Tryd.func11, Tryd.ntmps11
  go_wp2_with fail
  generalize (w.alloc (.cells #[.string s0, .slice a1 n1 c1, .slice a2 n2 c2, .slice a3 n3 c3, .string s4, .slice a4 n4 c4] 41)) = W0 at C0 A0 q0 q1 q2 q3 q4 q5 ⊢
  clear q0 q1 q2 q3 q4 q5
  refine (SZ.out _ (show PgO W0 _ p from ?_)).mono ?_
  · obtain ⟨b1, d1, b2, d2, b3, d3, b4, d4, e, h1, h2, h3, h4, h5, h6⟩ := HP.out
    exact ⟨b1, d1, b2, d2, b3, d3, b4, d4, e, h1.later A0.out, h2.later A0.out, h3.later A0.out, h4.later A0.out, h5, h6⟩
  rintro e w1 ⟨rfl | ⟨r, rfl, hsh⟩, hb⟩
  · have B1 := Lib.hid hb
    obtain ⟨q0, q1, q2, q3, q4, q5⟩ := C0.out _ hb
    clear hb
    go_wp2_with fail
    go_ret
    exact ⟨rfl, Later.trans A0.out B1.out⟩
  · have B1 := Lib.hid (show Later W0 w1 from hb)
    have P0 := Lib.hid (HP.out.pgv hsh)
    have PW := Lib.hid (show ∀ W, Later W0 W → PgV W (.agg #[.string s0, .slice a1 n1 c1, .slice a2 n2 c2, .slice a3 n3 c3, .string s4, .slice a4 n4 c4]) p from fun W h => P0.out.later (Later.trans A0.out h))
    have HSH := Lib.hid hsh
    have hlen : p.lns.length ≤ 1048576 := by have := hsh.2.2.2.2.2.1; omega
    have SS : Hid (∀ base u W, PgC base W u p → Calls Tryd.prog 41 #[u] W (RetB W (blW p) (blE p))) := Lib.hid (fun base u W h => s_BlocksIn u p W h.pgv (by omega))
    have IS : Hid (∀ base u W, PgC base W u p → Ops W → Calls Tryd.prog 42 #[u] W (RetB W (blW p) (blE p))) := Lib.hid (fun base u W h hW => i_BlocksIn u p W h.pgv hW (by omega))
    have hLb : (blW p).length ≤ 100000 := by
      unfold blW
      by_cases hw : wrtB p = true
      · rw [if_pos hw]
        have := blV_len p.lns (fun j hj => (wb_of p hw).len j hj) p.lns.length (Nat.le_refl _)
        rw [List.take_length] at this
        have := (wb_of p hw).2.2.2.2.2.1
        omega
      · rw [if_neg hw]; simp
    unfold RetB at SS IS
    generalize blW p = L at *
    generalize blE p = E at *
    obtain ⟨n, hn⟩ : ∃ n, n = L.length := ⟨_, rfl⟩
    have HN := Lib.hid hn
    have hn8 : n ≤ 100000 := by rw [hn]; exact hLb
    clear hn hLb
    obtain ⟨q0, q1, q2, q3, q4, q5⟩ := C0.out _ hb
    clear hb hsh
    go_wp2_with fail
    refine (TP.out _ (PW.out _ B1.out) HSH.out).mono ?_
    rintro e w2 ⟨u, rfl, hu, hb⟩
    have B2 := Lib.hid (Later.trans B1.out hb)
    have U2 := Lib.hid hu
    clear hb hu q0 q1 q2 q3 q4 q5
    obtain ⟨q0, q1, q2, q3, q4, q5⟩ := C0.out _ B2.out
    go_wp2_with fail
    refine (SS.out _ u _ U2.out).mono ?_
    rintro e w3 ⟨v0, rfl, o0, hb⟩
    have B3 := Lib.hid (Later.trans B2.out hb)
    obtain ⟨a0, k0, rfl, _, t0, _, _, _⟩ := o0.trs
    rw [← HN.out] at t0 ⊢
    have T0 := Lib.hid t0
    have C3 : Hid (∀ W', Later w3 W' → W'.cell? ⟨w.heap.size, 0, none⟩ = some (.string s0) ∧ W'.cell? ⟨w.heap.size, 1, none⟩ = some (.slice a1 n1 c1) ∧ W'.cell? ⟨w.heap.size, 2, none⟩ = some (.slice a2 n2 c2) ∧ W'.cell? ⟨w.heap.size, 3, none⟩ = some (.slice a3 n3 c3) ∧ W'.cell? ⟨w.heap.size, 4, none⟩ = some (.string s4) ∧ W'.cell? ⟨w.heap.size, 5, none⟩ = some (.slice a4 n4 c4)) := Lib.hid (fun W' h => C0.out _ (B3.out.trans h))
    have P3 : Hid (∀ W', Later w3 W' → PgV W' (.agg #[.string s0, .slice a1 n1 c1, .slice a2 n2 c2, .slice a3 n3 c3, .string s4, .slice a4 n4 c4]) p) := Lib.hid (fun W' h => PW.out _ (B3.out.trans h))
    have A3 := Lib.hid (Later.trans A0.out B3.out)
    clear hb o0 t0 U2 SS q0 q1 q2 q3 q4 q5 C0 PW B1 B2 P0 HP SZ
    obtain ⟨q0, q1, q2, q3, q4, q5⟩ := C3.out _ (Later.refl _)
    go_wp2_with fail
    refine (TP.out _ (P3.out _ (Later.refl _)) HSH.out).mono ?_
    rintro e w4 ⟨u2, rfl, hu, hb⟩
    have B4 := Lib.hid hb
    obtain ⟨x1, y1, x2, y2, x3, y3, x4, y4, rfl⟩ := HS.out _ _ hu.pgv
    have U4 := Lib.hid hu
    clear hb hu q0 q1 q2 q3 q4 q5
    have F4 := Lib.hid (frP_new w4 [.string s0, .slice x1 n1 y1, .slice x2 n2 y2, .slice x3 n3 y3, .string s4, .slice x4 n4 y4] 27)
    have L4 : Hid (Later w4 (w4.alloc (.cells #[.string s0, .slice x1 n1 y1, .slice x2 n2 y2, .slice x3 n3 y3, .string s4, .slice x4 n4 y4] 27))) := Lib.hid ((Later.refl _).alloc _)
    obtain ⟨q0, q1, q2, q3, q4, q5⟩ := C3.out _ B4.out
    obtain ⟨o0, o1, o2, o3, o4, o5, _, _, _, _, _, _⟩ := F4.out.o6
    go_wp2_with fail
    refine calls_into (S := fun W => Later w4 W ∧ Fr w4.heap.size [.string s0, .slice x1 n1 y1, .slice x2 n2 y2, .slice x3 n3 y3, .string s4, .slice x4 n4 y4] W) ⟨L4.out, F4.out⟩ ?_
    clear L4 F4 o0 o1 o2 o3 o4 o5 q0 q1 q2 q3 q4 q5
    rintro W5 ⟨l5, f5⟩
    refine (IS.out _ _ _ (U4.out.later l5) (HX.out.later (A3.out.trans (B4.out.trans l5)))).mono ?_
    rintro e w6 ⟨v1, rfl, hown, hb⟩
    have L6 := Lib.hid (l5.trans hb)
    have B6 := Lib.hid (B4.out.trans L6.out)
    have X6 := Lib.hid (U4.out.later L6.out)
    have F6 := Lib.hid (fr_later f5 hb)
    have HZ5 := Lib.hid l5.size
    have O6 := Lib.hid hown
    obtain ⟨aa1, k1, rfl, _, t1, _, _, _⟩ := hown.trs
    have T1 := Lib.hid t1
    rw [← HN.out] at O6 T1 ⊢
    clear hb l5 f5 hown t1
    have eV : ∀ b : Int, (b != b) = false := fun b => by simp
    obtain ⟨q0, q1, q2, q3, q4, q5⟩ := C3.out _ B6.out
    obtain ⟨o0, o1, o2, o3, o4, o5, _, _, _, _, _, _⟩ := F6.out.o6
    go_wp2_with fail
    refine (l_eqTermS_same _ _ n k1 n k0 L _ T1.out (T0.out.later B6.out)).mono ?_
    rintro e w7 ⟨rfl, hb⟩
    have H7 := Lib.hid hb
    have L7 := Lib.hid (L6.out.trans hb)
    have B7 := Lib.hid (B6.out.trans hb)
    have X7 := Lib.hid (X6.out.later hb)
    have F7 := Lib.hid (fr_later F6.out hb)
    have O7 := Lib.hid (O6.out.later hb)
    clear hb q0 q1 q2 q3 q4 q5 o0 o1 o2 o3 o4 o5 X6 F6 O6 T1 H7
    obtain ⟨q0, q1, q2, q3, q4, q5⟩ := C3.out _ B7.out
    obtain ⟨o0, o1, o2, o3, o4, o5, _, _, _, _, _, _⟩ := F7.out.o6
    have KL : Hid (∀ W', Later w7 W' → (W'.cell? ⟨w.heap.size, 0, none⟩ = some (.string s0) ∧ W'.cell? ⟨w.heap.size, 1, none⟩ = some (.slice a1 n1 c1) ∧ W'.cell? ⟨w.heap.size, 2, none⟩ = some (.slice a2 n2 c2) ∧ W'.cell? ⟨w.heap.size, 3, none⟩ = some (.slice a3 n3 c3) ∧ W'.cell? ⟨w.heap.size, 4, none⟩ = some (.string s4) ∧ W'.cell? ⟨w.heap.size, 5, none⟩ = some (.slice a4 n4 c4)) ∧ (W'.cell? ⟨w4.heap.size, 0, none⟩ = some (.string s0) ∧ W'.cell? ⟨w4.heap.size, 1, none⟩ = some (.slice x1 n1 y1) ∧ W'.cell? ⟨w4.heap.size, 2, none⟩ = some (.slice x2 n2 y2) ∧ W'.cell? ⟨w4.heap.size, 3, none⟩ = some (.slice x3 n3 y3) ∧ W'.cell? ⟨w4.heap.size, 4, none⟩ = some (.string s4) ∧ W'.cell? ⟨w4.heap.size, 5, none⟩ = some (.slice x4 n4 y4))) := Lib.hid (fun W' q => ⟨C3.out _ (B7.out.trans q), by
      obtain ⟨o0, o1, o2, o3, o4, o5, _, _, _, _, _, _⟩ := (fr_later F7.out q).o6
      exact ⟨o0, o1, o2, o3, o4, o5⟩⟩)
    have RL := Lib.hid (Later.refl w7)
    have PW7 : Hid (∀ W, Later w7 W → PgV W (.agg #[.string s0, .slice a1 n1 c1, .slice a2 n2 c2, .slice a3 n3 c3, .string s4, .slice a4 n4 c4]) p) := Lib.hid (fun W h => P3.out _ (B7.out.trans h))
    go_wp2_with fail
    go_region_held3 (fun W' => (W'.cell? ⟨w.heap.size, 0, none⟩ = some (.string s0) ∧ W'.cell? ⟨w.heap.size, 1, none⟩ = some (.slice a1 n1 c1) ∧ W'.cell? ⟨w.heap.size, 2, none⟩ = some (.slice a2 n2 c2) ∧ W'.cell? ⟨w.heap.size, 3, none⟩ = some (.slice a3 n3 c3) ∧ W'.cell? ⟨w.heap.size, 4, none⟩ = some (.string s4) ∧ W'.cell? ⟨w.heap.size, 5, none⟩ = some (.slice a4 n4 c4)) ∧ (W'.cell? ⟨w4.heap.size, 0, none⟩ = some (.string s0) ∧ W'.cell? ⟨w4.heap.size, 1, none⟩ = some (.slice x1 n1 y1) ∧ W'.cell? ⟨w4.heap.size, 2, none⟩ = some (.slice x2 n2 y2) ∧ W'.cell? ⟨w4.heap.size, 3, none⟩ = some (.slice x3 n3 y3) ∧ W'.cell? ⟨w4.heap.size, 4, none⟩ = some (.string s4) ∧ W'.cell? ⟨w4.heap.size, 5, none⟩ = some (.slice x4 n4 y4))) (exact KL.out _ (by repeat (first | (with_reducible exact Later.refl _) | (with_reducible exact Hid.out (by assumption)) | (with_reducible refine Later.alloc ?_ _) | (with_reducible refine Later.setCell ?_ (by simp; omega) _) | (with_reducible refine Later.setCell ?_ (by simp) _) | (with_reducible refine Later.drewN ?_ _) | (with_reducible refine Later.drew ?_) | (with_reducible refine Later.trans ?_ (Hid.out (by assumption))))))
      (first
        | (go_at_call 25; refine (TP.out _ (PW7.out _ (by repeat (first | (with_reducible exact Later.refl _) | (with_reducible exact Hid.out (by assumption)) | (with_reducible refine Later.alloc ?_ _) | (with_reducible refine Later.setCell ?_ (by simp; omega) _) | (with_reducible refine Later.setCell ?_ (by simp) _) | (with_reducible refine Later.drewN ?_ _) | (with_reducible refine Later.drew ?_) | (with_reducible refine Later.trans ?_ (Hid.out (by assumption)))))) HSH.out).mono ?_; rintro e wp ⟨u7, rfl, hu, hb⟩; have U7 := Lib.hid hu; have HP7 := Lib.hid hb; clear hb hu)
        | (go_at_call 26; refine (l_eqProgram_same _ _ p _ (X7.out.pgv.later (by repeat (first | (with_reducible exact Later.refl _) | (with_reducible exact Hid.out (by assumption)) | (with_reducible refine Later.alloc ?_ _) | (with_reducible refine Later.setCell ?_ (by simp; omega) _) | (with_reducible refine Later.setCell ?_ (by simp) _) | (with_reducible refine Later.drewN ?_ _) | (with_reducible refine Later.drew ?_) | (with_reducible refine Later.trans ?_ (Hid.out (by assumption)))))) (U7.out.pgv.later (by repeat (first | (with_reducible exact Later.refl _) | (with_reducible exact Hid.out (by assumption)) | (with_reducible refine Later.alloc ?_ _) | (with_reducible refine Later.setCell ?_ (by simp; omega) _) | (with_reducible refine Later.setCell ?_ (by simp) _) | (with_reducible refine Later.drewN ?_ _) | (with_reducible refine Later.drew ?_) | (with_reducible refine Later.trans ?_ (Hid.out (by assumption))))))).mono ?_; rintro e wq ⟨rfl, hb⟩; have HQ7 := Lib.hid hb; clear hb))
    all_goals
      refine then_into (fun W => Later w7 W) (show Later w7 _ from (by repeat (first | (with_reducible exact Later.refl _) | (with_reducible exact Hid.out (by assumption)) | (with_reducible refine Later.alloc ?_ _) | (with_reducible refine Later.setCell ?_ (by simp; omega) _) | (with_reducible refine Later.setCell ?_ (by simp) _) | (with_reducible refine Later.drewN ?_ _) | (with_reducible refine Later.drew ?_) | (with_reducible refine Later.trans ?_ (Hid.out (by assumption)))))) ?_
      intro w8 hb
      clear HQ7 HP7 U7 KL PW7 RL q0 q1 q2 q3 q4 q5 o0 o1 o2 o3 o4 o5
      have L8 := Lib.hid (L7.out.trans hb)
      have B8 := Lib.hid (B7.out.trans hb)
      have F8 := Lib.hid (fr_later F7.out hb)
      have O8 := Lib.hid (O7.out.later hb)
      clear hb O7 F7 X7 L7 B7
      obtain ⟨q0, q1, q2, q3, q4, q5⟩ := C3.out _ B8.out
      obtain ⟨o0, o1, o2, o3, o4, o5, _, _, _, _, _, _⟩ := F8.out.o6
      go_wp2_with fail
      refine (l_markProgram w3.heap.size _ p w4 w8 U4.out L8.out HSH.out).mono ?_
      rintro e w9 ⟨d, rfl, ht⟩
      have B9 : Hid (Later w3 w9) := Lib.hid (ht.later_of B8.out (fun i hi => hi.1))
      have O9 := Lib.hid (OwnR.tchO O8.out (fun k hk => ht.block k (O8.out.lt k hk).2 (fun hs => by have h1 := hs.2; have h2 := (O8.out.lt k hk).1; have h3 := HZ5.out; omega)))
      clear ht O8 F8 L8 U4 q0 q1 q2 q3 q4 q5 o0 o1 o2 o3 o4 o5
      obtain ⟨q0, q1, q2, q3, q4, q5⟩ := C3.out _ B9.out
      have ed : decide ((d : Int) < 0) = false := decide_eq_false (by omega)
      have T9 := Lib.hid (OwnR.trsS O9.out)
      go_wp2_with fail
      refine (l_eqTermS_same _ _ n k1 n k0 L _ T9.out (T0.out.later B9.out)).mono ?_
      rintro e w10 ⟨rfl, hb⟩
      have B10 := Lib.hid (B9.out.trans hb)
      have O10 := Lib.hid (O9.out.later hb)
      clear hb q0 q1 q2 q3 q4 q5 T9 O9 B9 ed
      obtain ⟨q0, q1, q2, q3, q4, q5⟩ := C3.out _ B10.out
      go_wp2_with fail
      refine (l_markTermS 1 _ _ _ L _ O10.out (by rw [← HN.out]; omega) (by omega) (by omega)).mono ?_
      rintro e w11 ⟨rfl, ho, hg⟩
      rw [← HN.out] at ho ⊢
      have O11 := Lib.hid ho
      have B11 : Hid (Later w3 w11) := Lib.hid (Below.grown B10.out hg B10.out.size (fun j hj => by have h1 := (O10.out.lt j hj).1; have h2 := HZ5.out; have h3 := B4.out.size; omega))
      clear ho hg q0 q1 q2 q3 q4 q5 O10 B10
      obtain ⟨q0, q1, q2, q3, q4, q5⟩ := C3.out _ B11.out
      go_wp2_with fail
      refine (l_heldTermS 1 _ _ _ L n _ HN.out O11.out (by omega) (by omega) (by omega)).mono ?_
      rintro e w12 ⟨rfl, hb⟩
      have B12 := Lib.hid (B11.out.trans hb)
      have O12 := Lib.hid (O11.out.later hb)
      clear hb q0 q1 q2 q3 q4 q5 O11 B11
      obtain ⟨q0, q1, q2, q3, q4, q5⟩ := C3.out _ B12.out
      go_wp2_with fail
      refine (TP.out _ (P3.out _ B12.out) HSH.out).mono ?_
      rintro e w13 ⟨u3, rfl, hu, hb⟩
      have B13 := Lib.hid (B12.out.trans hb)
      have O13 := Lib.hid (O12.out.later hb)
      have U13 := Lib.hid hu
      clear hb hu q0 q1 q2 q3 q4 q5 O12 B12
      go_wp2_with fail
      refine (IS.out _ _ _ U13.out (HX.out.later (A3.out.trans B13.out))).mono ?_
      rintro e w14 ⟨v2, rfl, o2, hb⟩
      have B14 := Lib.hid (B13.out.trans hb)
      have O14 := Lib.hid (O13.out.later hb)
      obtain ⟨aa2, k2, rfl, _, t2, _, _, _⟩ := o2.trs
      rw [← HN.out] at t2 ⊢
      have T2 := Lib.hid t2
      clear hb o2 t2 U13 O13 B13
      go_wp2_with fail
      refine (l_eqTermS_same _ _ n k2 n k0 L _ T2.out (T0.out.later B14.out)).mono ?_
      rintro e w15 ⟨rfl, hb⟩
      have B15 := Lib.hid (B14.out.trans hb)
      have O15 := Lib.hid (O14.out.later hb)
      clear hb T2 O14 B14
      go_wp2_with fail
      refine (l_heldTermS 1 _ _ _ L n _ HN.out O15.out (by omega) (by omega) (by omega)).mono ?_
      rintro e w16 ⟨rfl, hb⟩
      have B16 := Lib.hid (B15.out.trans hb)
      clear hb O15 B15
      go_wp2_with fail
      go_ret
      exact ⟨rfl, A3.out.trans B16.out⟩
end Go.Proofs.YtokipobjpinhmaaDoor
