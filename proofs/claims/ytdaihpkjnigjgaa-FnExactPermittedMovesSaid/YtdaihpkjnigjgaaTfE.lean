/- The walks of the exact laws of chapter 10 (gen/gen_tf.py). -/
import Derived.Test.YtdaihpkjnigjgaaTfL
import Derived.Test.YtdaihpkjnigjgaaTfR
import Derived.Test.YtdaihpkjnigjgaaRow
import Derived.Test.YtdaihpkjnigjgaaHeld
namespace Go.Proofs.Ytdaihpkjnigjgaa
open Go.RowKit
set_option maxHeartbeats 4000000
set_option maxRecDepth 100000
set_option linter.unusedVariables false
set_option linter.unusedSimpArgs false
theorem szT_big {n : Nat} (h : 1048576 < n) : szT n = -1 := by unfold szT; rw [if_neg (by omega)]
theorem szT_ok {n : Nat} (h : n ≤ 1048576) : szT n = 1048576 - (n : Int) := by unfold szT; rw [if_pos h]
theorem ht_box2 {l : List (Nat × Nat × Value)} {w0 W : World} (h : Held l w0 W) (v0 v1 : Value) (T : TypeId) : Held ((W.heap.size, 0, v0) :: (W.heap.size, 1, v1) :: l) w0 (W.alloc (.cells #[v0, v1] T)) :=
  held_more (held_more (h.alloc _) _ _ _ (cl_new _ _ _ _ _ _ rfl rfl) (by simp)) _ _ _ (cl_new _ _ _ _ _ _ rfl rfl) (by simp)
theorem ht_grown {l : List (Nat × Nat × Value)} {w0 w1 w2 : World} {r : Option Nat} (h : Held l w0 w1) (g : w1.grownBy w2 r) (hr : ∀ x ∈ l, r ≠ some x.1) (hw : ∀ k, r = some k → w0.heap.size ≤ k) : Held l w0 w2 :=
  ⟨fun x hx => ⟨Nat.lt_of_lt_of_le (h.1 x hx).1 g.size, g.cell (h.1 x hx).2 (fun e => hr x hx e.symm)⟩, Below.grown h.2 g h.2.size hw⟩
theorem own_keptT {w w' : World} {base : Nat} {v : Value} {l : List Int} {row : Option Nat} (h : Own w base v l) (hg : w.grownBy w' row) (hr : ∀ k, v.ownBlock = some k → row ≠ some k) : Own w' base v l := by
  refine ⟨h.1.kept hg ?_, h.2⟩
  cases hv : v.ownBlock with
  | none => exact .inl rfl
  | some k => exact .inr (fun e => hr k hv e.symm)
theorem l_eqIT (a b : Option Addr) (n cap m cap' : Nat) (l : List Int) (w : World) (hs : Sl w a n l) (ht : Sl w b m l) :
    Calls Try.prog 71 #[.slice a n cap, .slice b m cap'] w fun e w' => e = .returned (.bool true) ∧ Later w w' :=
  (l_eqInt64S a b n cap m cap' l w hs ht).mono fun e w' ⟨he, q, hq⟩ => ⟨he, by rw [hq]; exact (Later.refl _).drewN q⟩
theorem own_slT {w : World} {base n cap : Nat} {a : Option Addr} {l : List Int} (h : Own w base (.slice a n cap) l) : Sl w a n l := by
  obtain ⟨a', c', e, s, _⟩ := h.sl
  cases e; exact s
theorem alL_le (B : Int) (l : List Int) (h : l.length ≤ 4) : (alL B l l.length).length ≤ 1000 := Nat.le_trans (alL_len _ _ _) (by omega)
theorem udV_le (B : Int) (l : List Int) (t : Int) : (udV B l t).length ≤ 1000 := by
  unfold udV
  by_cases h : thE B l t = 0
  · rw [if_pos h]
    obtain ⟨hv, _⟩ := thE_ok h
    obtain ⟨_, b2, _, _, _⟩ := (tfB_iff B l).1 hv
    exact Nat.le_trans (ulM_len _ _ _) (by omega)
  · rw [if_neg h]; simp
theorem usV_le (B : Int) (l : List Int) : (usV B l).length ≤ 1000 := by
  unfold usV
  cases h : tfB B l
  · simp
  · obtain ⟨_, b2, _, _, _⟩ := (tfB_iff B l).1 h
    rw [if_pos rfl, ldL_len]; omega
theorem awV_le (B : Int) (l : List Int) : (awV B l).length ≤ 1000 := by
  unfold awV
  cases h : sfB B l
  · simp
  · obtain ⟨_, _, _, b4, _⟩ := (tfB_iff B l).1 (sfB_tf h)
    rw [if_pos rfl]; exact alL_le B l b4
theorem mtV_le (B : Int) (l : List Int) (t : Int) : (mtV B l t).length ≤ 1000 := by
  unfold mtV
  by_cases h : thE B l t = 0
  · rw [if_pos h, mvL_len]
    obtain ⟨hv, _⟩ := thE_ok h
    obtain ⟨_, _, _, b4, _⟩ := (tfB_iff B l).1 hv
    omega
  · rw [if_neg h]; simp
theorem rvV_le (B : Int) (l ts : List Int) : (rvV B l ts).length ≤ 1000 := by
  unfold rvV
  by_cases h : rnE B l ts = 0
  · rw [if_pos h, rnL_len]
    cases hv : tfB B l
    · rw [rnE_1 hv] at h; simp at h
    · obtain ⟨_, _, _, b4, _⟩ := (tfB_iff B l).1 hv
      omega
  · rw [if_neg h]; simp
theorem row_nil {k : IntKind} {w : World} {a : Option Addr} {len cap : Nat} {zs : List Int} (h : IsRow k w a len cap zs) : len ≤ cap := by
  rcases h with ⟨rfl, rfl, rfl, rfl⟩ | ⟨x, rfl, hl, _⟩
  · exact Nat.le_refl _
  · exact hl

set_option maxRecDepth 100000 in
theorem walk_FnExactIsTraffic (B : Int) (a : Option Addr) (n cap : Nat) (l : List Int) (w : World) (hB : InR B) (hcap : n ≤ cap) (hs : Sl w a n l) :
    Calls Try.prog 9 #[.agg #[.int .i64 B, .slice a n cap]] w fun e w' => e = .returned (.bool true) ∧ Later w w' := by
  have HS := Lib.hid hs
  have hn := hs.2.1
  have HL := Lib.hid hs.1
  clear hs
  by_cases hbig : 1048576 < n
  · have hz := Lib.hid (szT_big hbig)
    go_enter Try.func9, Try.ntmps9
    go_wp2_with (go_at_call 68; refine (l_szTraffic _ _ _ _ _ hn).mono ?_; rw [hz.out]; rintro e w1 ⟨rfl, hb⟩; have H := Lib.hid hb; clear hb)
    go_ret
    exact ⟨rfl, (by repeat (first | (with_reducible exact Later.refl _) | (with_reducible exact Hid.out (by assumption)) | (with_reducible refine Later.alloc ?_ _) | (with_reducible refine Later.setCell ?_ (by simp; omega) _) | (with_reducible refine Later.setCell ?_ (by simp) _) | (with_reducible refine Later.drewN ?_ _) | (with_reducible refine Later.drew ?_) | (with_reducible refine Later.trans ?_ (Hid.out (by assumption)))))⟩
  have hle : n ≤ 1048576 := by omega
  have hz := Lib.hid (szT_ok hle)
  clear hbig
  obtain ⟨V, SC, IC⟩ : ∃ V : Bool, Hid (∀ (a' : Option Addr) (m c : Nat) (W : World), Sl W a' m l → Calls Try.prog 30 #[.agg #[.int .i64 B, .slice a' m c]] W fun e w' => e = .returned (.bool V) ∧ Later W w') ∧ Hid (∀ (a' : Option Addr) (m c : Nat) (W : World), Sl W a' m l → Calls Try.prog 29 #[.agg #[.int .i64 B, .slice a' m c]] W fun e w' => e = .returned (.bool V) ∧ Later W w') := ⟨tfB B l, Lib.hid (fun a' m c W h => s_IsTraffic B a' m c l W h), Lib.hid (fun a' m c W h => i_IsTraffic B a' m c l W h)⟩
  have e0 : (V != V) = false := by simp
  go_enter Try.func9, Try.ntmps9
  go_wp2_with fail
  have K0 : Hid (Held [(w.heap.size, 0, .int .i64 B), (w.heap.size, 1, .slice a n cap)] w (w.alloc (.cells #[.int .i64 B, .slice a n cap] 66))) := Lib.hid (ht_box2 (held_none w) _ _ _)
  refine (l_szTraffic B a n cap _ hn).mono ?_
  rw [hz.out]
  rintro e w1 ⟨rfl, hb⟩
  have K1 := Lib.hid (Held.later K0.out (show Later _ w1 from hb))
  have z1 := Later.size (show Later _ w1 from hb)
  try simp only [World.size_alloc] at z1
  clear hb
  clear K0
  obtain ⟨c0, c1, _⟩ := Held.s2 K1.out
  go_wp2_with fail
  clear c0 c1
  refine (l_toTraffic B a n cap l _ (sl_later HS.out (show Later w _ from K1.out.2)) hle).mono ?_
  rintro e w2 ⟨gW, rfl, _, _, ho, hb⟩
  have HX0 := Lib.hid (own_slT ho)
  clear ho
  have K2 := Lib.hid (Held.later K1.out (show Later _ w2 from hb))
  have z2 := Later.size (show Later _ w2 from hb)
  try simp only [World.size_alloc] at z2
  clear hb
  clear K1
  obtain ⟨c0, c1, _⟩ := Held.s2 K2.out
  go_wp2_with fail
  clear c0 c1
  refine (SC.out _ _ _ _ HX0.out).mono ?_
  rintro e w3 ⟨rfl, hb⟩
  have K3 := Lib.hid (Held.later K2.out (show Later _ w3 from hb))
  have z3 := Later.size (show Later _ w3 from hb)
  try simp only [World.size_alloc] at z3
  clear hb
  clear K2
  obtain ⟨c0, c1, _⟩ := Held.s2 K3.out
  go_wp2_with fail
  clear c0 c1
  refine (l_toTraffic B a n cap l _ (sl_later HS.out (show Later w _ from K3.out.2)) hle).mono ?_
  rintro e w4 ⟨gX, rfl, hgX, hgX2, ho, hb⟩
  try simp only [World.size_alloc] at hgX
  have OX := Lib.hid ho
  clear ho
  have K4 := Lib.hid (Held.later K3.out (show Later _ w4 from hb))
  have z4 := Later.size (show Later _ w4 from hb)
  try simp only [World.size_alloc] at z4
  clear hb
  clear K3
  have K5 := Lib.hid (ht_box2 K4.out (.int .i64 B) (.slice (some ⟨gX, 0, none⟩) n n) 26)
  clear K4
  have OX' := Lib.hid (OX.out.alloc (.cells #[.int .i64 B, .slice (some ⟨gX, 0, none⟩) n n] 26))
  clear OX
  have OX := OX'
  clear OX'
  obtain ⟨c0, c1, c2, c3, _⟩ := Held.s4 K5.out
  go_wp2_with fail
  clear c0 c1 c2 c3
  refine (IC.out _ _ _ _ (own_slT OX.out)).mono ?_
  rintro e w5 ⟨rfl, hb⟩
  have K6 := Lib.hid (Held.later K5.out (show Later _ w5 from hb))
  have z5 := Later.size (show Later _ w5 from hb)
  try simp only [World.size_alloc] at z5
  have OX' := Lib.hid (tf_lat OX.out (show Later _ w5 from hb))
  clear OX
  have OX := OX'
  clear OX'
  clear hb
  clear K5
  obtain ⟨c0, c1, c2, c3, _⟩ := Held.s4 K6.out
  go_wp2_with fail
  clear c0 c1 c2 c3
  obtain ⟨wz, hwz⟩ : ∃ wz, wz = w5 := ⟨_, rfl⟩
  clear hwz wz
  have KQ : Hid (∀ W', Later w5 W' → Held [(w4.heap.size, 0, .int .i64 B), (w4.heap.size, 1, .slice (some ⟨gX, 0, none⟩) n n), (w.heap.size, 0, .int .i64 B), (w.heap.size, 1, .slice a n cap)] w W') := Lib.hid (fun W' h => K6.out.later h)
  have KS : Hid (∀ W', Later w5 W' → W'.cell? ⟨w4.heap.size, 0, none⟩ = some (.int .i64 B) ∧ W'.cell? ⟨w4.heap.size, 1, none⟩ = some (.slice (some ⟨gX, 0, none⟩) n n) ∧ W'.cell? ⟨w.heap.size, 0, none⟩ = some (.int .i64 B) ∧ W'.cell? ⟨w.heap.size, 1, none⟩ = some (.slice a n cap)) := Lib.hid (fun W' h => by obtain ⟨d0, d1, d2, d3, _⟩ := Held.s4 (KQ.out W' h); exact ⟨d0, d1, d2, d3⟩)
  obtain ⟨d0, d1, d2, d3⟩ := KS.out w5 (Later.refl _)
  go_region_held3 (fun w' => w'.cell? ⟨w4.heap.size, 0, none⟩ = some (.int .i64 B) ∧ w'.cell? ⟨w4.heap.size, 1, none⟩ = some (.slice (some ⟨gX, 0, none⟩) n n) ∧ w'.cell? ⟨w.heap.size, 0, none⟩ = some (.int .i64 B) ∧ w'.cell? ⟨w.heap.size, 1, none⟩ = some (.slice a n cap)) (first | (refine KS.out _ ?_; ((repeat (first | (with_reducible exact Later.refl _) | (with_reducible exact Hid.out (by assumption)) | (with_reducible refine Later.alloc ?_ _) | (with_reducible refine Later.setCell ?_ (by simp; omega) _) | (with_reducible refine Later.setCell ?_ (by simp) _) | (with_reducible refine Later.drewN ?_ _) | (with_reducible refine Later.drew ?_) | (with_reducible refine Later.trans ?_ (Hid.out (by assumption))))); done)))
    (first
      | (go_at_call 69; refine (l_toTraffic B a n cap l _ (sl_later HS.out (show Later w _ from (KQ.out _ (show Later w5 _ from (by repeat (first | (with_reducible exact Later.refl _) | (with_reducible exact Hid.out (by assumption)) | (with_reducible refine Later.alloc ?_ _) | (with_reducible refine Later.setCell ?_ (by simp; omega) _) | (with_reducible refine Later.setCell ?_ (by simp) _) | (with_reducible refine Later.drewN ?_ _) | (with_reducible refine Later.drew ?_) | (with_reducible refine Later.trans ?_ (Hid.out (by assumption))))))).2)) hle).mono ?_; rintro e wp ⟨gP, rfl, _, _, hop, hbp⟩; have HP := Lib.hid hbp; have OP := Lib.hid (own_slT hop); clear hbp hop)
      | (go_at_call 70; refine (l_eqTraffic _ _ _ _ _ _ _ l _ (sl_later (own_slT OX.out) (show Later w5 _ from (by repeat (first | (with_reducible exact Later.refl _) | (with_reducible exact Hid.out (by assumption)) | (with_reducible refine Later.alloc ?_ _) | (with_reducible refine Later.setCell ?_ (by simp; omega) _) | (with_reducible refine Later.setCell ?_ (by simp) _) | (with_reducible refine Later.drewN ?_ _) | (with_reducible refine Later.drew ?_) | (with_reducible refine Later.trans ?_ (Hid.out (by assumption))))))) (sl_later OP.out (show Later wp _ from (by repeat (first | (with_reducible exact Later.refl _) | (with_reducible exact Hid.out (by assumption)) | (with_reducible refine Later.alloc ?_ _) | (with_reducible refine Later.setCell ?_ (by simp; omega) _) | (with_reducible refine Later.setCell ?_ (by simp) _) | (with_reducible refine Later.drewN ?_ _) | (with_reducible refine Later.drew ?_) | (with_reducible refine Later.trans ?_ (Hid.out (by assumption)))))))).mono ?_; rintro e wq ⟨rfl, hbq⟩; have HQ := Lib.hid hbq; clear hbq))
  all_goals
    go_wp2_with fail
    go_ret
    exact ⟨rfl, (KQ.out _ (show Later w5 _ from (by repeat (first | (with_reducible exact Later.refl _) | (with_reducible exact Hid.out (by assumption)) | (with_reducible refine Later.alloc ?_ _) | (with_reducible refine Later.setCell ?_ (by simp; omega) _) | (with_reducible refine Later.setCell ?_ (by simp) _) | (with_reducible refine Later.drewN ?_ _) | (with_reducible refine Later.drew ?_) | (with_reducible refine Later.trans ?_ (Hid.out (by assumption))))))).2⟩
set_option maxRecDepth 100000 in
theorem walk_FnExactIsSafeTraffic (B : Int) (a : Option Addr) (n cap : Nat) (l : List Int) (w : World) (hB : InR B) (hcap : n ≤ cap) (hs : Sl w a n l) :
    Calls Try.prog 10 #[.agg #[.int .i64 B, .slice a n cap]] w fun e w' => e = .returned (.bool true) ∧ Later w w' := by
  have HS := Lib.hid hs
  have hn := hs.2.1
  have HL := Lib.hid hs.1
  clear hs
  by_cases hbig : 1048576 < n
  · have hz := Lib.hid (szT_big hbig)
    go_enter Try.func10, Try.ntmps10
    go_wp2_with (go_at_call 68; refine (l_szTraffic _ _ _ _ _ hn).mono ?_; rw [hz.out]; rintro e w1 ⟨rfl, hb⟩; have H := Lib.hid hb; clear hb)
    go_ret
    exact ⟨rfl, (by repeat (first | (with_reducible exact Later.refl _) | (with_reducible exact Hid.out (by assumption)) | (with_reducible refine Later.alloc ?_ _) | (with_reducible refine Later.setCell ?_ (by simp; omega) _) | (with_reducible refine Later.setCell ?_ (by simp) _) | (with_reducible refine Later.drewN ?_ _) | (with_reducible refine Later.drew ?_) | (with_reducible refine Later.trans ?_ (Hid.out (by assumption)))))⟩
  have hle : n ≤ 1048576 := by omega
  have hz := Lib.hid (szT_ok hle)
  clear hbig
  obtain ⟨V, SC, IC⟩ : ∃ V : Bool, Hid (∀ (a' : Option Addr) (m c : Nat) (W : World), Sl W a' m l → Calls Try.prog 32 #[.agg #[.int .i64 B, .slice a' m c]] W fun e w' => e = .returned (.bool V) ∧ Later W w') ∧ Hid (∀ (a' : Option Addr) (m c : Nat) (W : World), Sl W a' m l → Calls Try.prog 31 #[.agg #[.int .i64 B, .slice a' m c]] W fun e w' => e = .returned (.bool V) ∧ Later W w') := ⟨sfB B l, Lib.hid (fun a' m c W h => s_IsSafeTraffic B a' m c l W h), Lib.hid (fun a' m c W h => i_IsSafeTraffic B a' m c l W h)⟩
  have e0 : (V != V) = false := by simp
  go_enter Try.func10, Try.ntmps10
  go_wp2_with fail
  have K0 : Hid (Held [(w.heap.size, 0, .int .i64 B), (w.heap.size, 1, .slice a n cap)] w (w.alloc (.cells #[.int .i64 B, .slice a n cap] 66))) := Lib.hid (ht_box2 (held_none w) _ _ _)
  refine (l_szTraffic B a n cap _ hn).mono ?_
  rw [hz.out]
  rintro e w1 ⟨rfl, hb⟩
  have K1 := Lib.hid (Held.later K0.out (show Later _ w1 from hb))
  have z1 := Later.size (show Later _ w1 from hb)
  try simp only [World.size_alloc] at z1
  clear hb
  clear K0
  obtain ⟨c0, c1, _⟩ := Held.s2 K1.out
  go_wp2_with fail
  clear c0 c1
  refine (l_toTraffic B a n cap l _ (sl_later HS.out (show Later w _ from K1.out.2)) hle).mono ?_
  rintro e w2 ⟨gW, rfl, _, _, ho, hb⟩
  have HX0 := Lib.hid (own_slT ho)
  clear ho
  have K2 := Lib.hid (Held.later K1.out (show Later _ w2 from hb))
  have z2 := Later.size (show Later _ w2 from hb)
  try simp only [World.size_alloc] at z2
  clear hb
  clear K1
  obtain ⟨c0, c1, _⟩ := Held.s2 K2.out
  go_wp2_with fail
  clear c0 c1
  refine (SC.out _ _ _ _ HX0.out).mono ?_
  rintro e w3 ⟨rfl, hb⟩
  have K3 := Lib.hid (Held.later K2.out (show Later _ w3 from hb))
  have z3 := Later.size (show Later _ w3 from hb)
  try simp only [World.size_alloc] at z3
  clear hb
  clear K2
  obtain ⟨c0, c1, _⟩ := Held.s2 K3.out
  go_wp2_with fail
  clear c0 c1
  refine (l_toTraffic B a n cap l _ (sl_later HS.out (show Later w _ from K3.out.2)) hle).mono ?_
  rintro e w4 ⟨gX, rfl, hgX, hgX2, ho, hb⟩
  try simp only [World.size_alloc] at hgX
  have OX := Lib.hid ho
  clear ho
  have K4 := Lib.hid (Held.later K3.out (show Later _ w4 from hb))
  have z4 := Later.size (show Later _ w4 from hb)
  try simp only [World.size_alloc] at z4
  clear hb
  clear K3
  have K5 := Lib.hid (ht_box2 K4.out (.int .i64 B) (.slice (some ⟨gX, 0, none⟩) n n) 26)
  clear K4
  have OX' := Lib.hid (OX.out.alloc (.cells #[.int .i64 B, .slice (some ⟨gX, 0, none⟩) n n] 26))
  clear OX
  have OX := OX'
  clear OX'
  obtain ⟨c0, c1, c2, c3, _⟩ := Held.s4 K5.out
  go_wp2_with fail
  clear c0 c1 c2 c3
  refine (IC.out _ _ _ _ (own_slT OX.out)).mono ?_
  rintro e w5 ⟨rfl, hb⟩
  have K6 := Lib.hid (Held.later K5.out (show Later _ w5 from hb))
  have z5 := Later.size (show Later _ w5 from hb)
  try simp only [World.size_alloc] at z5
  have OX' := Lib.hid (tf_lat OX.out (show Later _ w5 from hb))
  clear OX
  have OX := OX'
  clear OX'
  clear hb
  clear K5
  obtain ⟨c0, c1, c2, c3, _⟩ := Held.s4 K6.out
  go_wp2_with fail
  clear c0 c1 c2 c3
  obtain ⟨wz, hwz⟩ : ∃ wz, wz = w5 := ⟨_, rfl⟩
  clear hwz wz
  have KQ : Hid (∀ W', Later w5 W' → Held [(w4.heap.size, 0, .int .i64 B), (w4.heap.size, 1, .slice (some ⟨gX, 0, none⟩) n n), (w.heap.size, 0, .int .i64 B), (w.heap.size, 1, .slice a n cap)] w W') := Lib.hid (fun W' h => K6.out.later h)
  have KS : Hid (∀ W', Later w5 W' → W'.cell? ⟨w4.heap.size, 0, none⟩ = some (.int .i64 B) ∧ W'.cell? ⟨w4.heap.size, 1, none⟩ = some (.slice (some ⟨gX, 0, none⟩) n n) ∧ W'.cell? ⟨w.heap.size, 0, none⟩ = some (.int .i64 B) ∧ W'.cell? ⟨w.heap.size, 1, none⟩ = some (.slice a n cap)) := Lib.hid (fun W' h => by obtain ⟨d0, d1, d2, d3, _⟩ := Held.s4 (KQ.out W' h); exact ⟨d0, d1, d2, d3⟩)
  obtain ⟨d0, d1, d2, d3⟩ := KS.out w5 (Later.refl _)
  go_region_held3 (fun w' => w'.cell? ⟨w4.heap.size, 0, none⟩ = some (.int .i64 B) ∧ w'.cell? ⟨w4.heap.size, 1, none⟩ = some (.slice (some ⟨gX, 0, none⟩) n n) ∧ w'.cell? ⟨w.heap.size, 0, none⟩ = some (.int .i64 B) ∧ w'.cell? ⟨w.heap.size, 1, none⟩ = some (.slice a n cap)) (first | (refine KS.out _ ?_; ((repeat (first | (with_reducible exact Later.refl _) | (with_reducible exact Hid.out (by assumption)) | (with_reducible refine Later.alloc ?_ _) | (with_reducible refine Later.setCell ?_ (by simp; omega) _) | (with_reducible refine Later.setCell ?_ (by simp) _) | (with_reducible refine Later.drewN ?_ _) | (with_reducible refine Later.drew ?_) | (with_reducible refine Later.trans ?_ (Hid.out (by assumption))))); done)))
    (first
      | (go_at_call 69; refine (l_toTraffic B a n cap l _ (sl_later HS.out (show Later w _ from (KQ.out _ (show Later w5 _ from (by repeat (first | (with_reducible exact Later.refl _) | (with_reducible exact Hid.out (by assumption)) | (with_reducible refine Later.alloc ?_ _) | (with_reducible refine Later.setCell ?_ (by simp; omega) _) | (with_reducible refine Later.setCell ?_ (by simp) _) | (with_reducible refine Later.drewN ?_ _) | (with_reducible refine Later.drew ?_) | (with_reducible refine Later.trans ?_ (Hid.out (by assumption))))))).2)) hle).mono ?_; rintro e wp ⟨gP, rfl, _, _, hop, hbp⟩; have HP := Lib.hid hbp; have OP := Lib.hid (own_slT hop); clear hbp hop)
      | (go_at_call 70; refine (l_eqTraffic _ _ _ _ _ _ _ l _ (sl_later (own_slT OX.out) (show Later w5 _ from (by repeat (first | (with_reducible exact Later.refl _) | (with_reducible exact Hid.out (by assumption)) | (with_reducible refine Later.alloc ?_ _) | (with_reducible refine Later.setCell ?_ (by simp; omega) _) | (with_reducible refine Later.setCell ?_ (by simp) _) | (with_reducible refine Later.drewN ?_ _) | (with_reducible refine Later.drew ?_) | (with_reducible refine Later.trans ?_ (Hid.out (by assumption))))))) (sl_later OP.out (show Later wp _ from (by repeat (first | (with_reducible exact Later.refl _) | (with_reducible exact Hid.out (by assumption)) | (with_reducible refine Later.alloc ?_ _) | (with_reducible refine Later.setCell ?_ (by simp; omega) _) | (with_reducible refine Later.setCell ?_ (by simp) _) | (with_reducible refine Later.drewN ?_ _) | (with_reducible refine Later.drew ?_) | (with_reducible refine Later.trans ?_ (Hid.out (by assumption)))))))).mono ?_; rintro e wq ⟨rfl, hbq⟩; have HQ := Lib.hid hbq; clear hbq))
  all_goals
    go_wp2_with fail
    go_ret
    exact ⟨rfl, (KQ.out _ (show Later w5 _ from (by repeat (first | (with_reducible exact Later.refl _) | (with_reducible exact Hid.out (by assumption)) | (with_reducible refine Later.alloc ?_ _) | (with_reducible refine Later.setCell ?_ (by simp; omega) _) | (with_reducible refine Later.setCell ?_ (by simp) _) | (with_reducible refine Later.drewN ?_ _) | (with_reducible refine Later.drew ?_) | (with_reducible refine Later.trans ?_ (Hid.out (by assumption))))))).2⟩
set_option maxRecDepth 100000 in
theorem walk_FnExactUsedBlocks (B : Int) (a : Option Addr) (n cap : Nat) (l : List Int) (t : Int) (w : World) (hB : InR B) (hcap : n ≤ cap) (hs : Sl w a n l) (u1 : (Lit.int .i64 t).wf = true) :
    Calls Try.prog 11 #[.agg #[.int .i64 B, .slice a n cap], .int .i64 t] w fun e w' => e = .returned (.bool true) ∧ Later w w' := by
  have HS := Lib.hid hs
  have hn := hs.2.1
  have HL := Lib.hid hs.1
  clear hs
  by_cases hbig : 1048576 < n
  · have hz := Lib.hid (szT_big hbig)
    go_enter Try.func11, Try.ntmps11
    go_wp2_with (go_at_call 68; refine (l_szTraffic _ _ _ _ _ hn).mono ?_; rw [hz.out]; rintro e w1 ⟨rfl, hb⟩; have H := Lib.hid hb; clear hb)
    go_ret
    exact ⟨rfl, (by repeat (first | (with_reducible exact Later.refl _) | (with_reducible exact Hid.out (by assumption)) | (with_reducible refine Later.alloc ?_ _) | (with_reducible refine Later.setCell ?_ (by simp; omega) _) | (with_reducible refine Later.setCell ?_ (by simp) _) | (with_reducible refine Later.drewN ?_ _) | (with_reducible refine Later.drew ?_) | (with_reducible refine Later.trans ?_ (Hid.out (by assumption)))))⟩
  have hle : n ≤ 1048576 := by omega
  have hz := Lib.hid (szT_ok hle)
  clear hbig
  obtain ⟨V, E, SC, IC, hVl⟩ : ∃ (V : List Int) (E : Int), Hid (∀ (a' : Option Addr) (m c : Nat) (W : World), Sl W a' m l → Calls Try.prog 41 #[.agg #[.int .i64 B, .slice a' m c], .int .i64 t] W (LstC W V E)) ∧ Hid (∀ (a' : Option Addr) (m c : Nat) (W : World), Sl W a' m l → Calls Try.prog 40 #[.agg #[.int .i64 B, .slice a' m c], .int .i64 t] W (LstC W V E)) ∧ V.length ≤ 1000 := ⟨udV B l t, thE B l t, Lib.hid (fun a' m c W h => s_UsedBlocks B a' m c l t W h), Lib.hid (fun a' m c W h => i_UsedBlocks B a' m c l t W h), udV_le B l t⟩
  have e0 : (E != E) = false := by simp
  clear u1
  go_enter Try.func11, Try.ntmps11
  go_wp2_with fail
  have K0 : Hid (Held [(w.heap.size, 0, .int .i64 B), (w.heap.size, 1, .slice a n cap)] w (w.alloc (.cells #[.int .i64 B, .slice a n cap] 66))) := Lib.hid (ht_box2 (held_none w) _ _ _)
  refine (l_szTraffic B a n cap _ hn).mono ?_
  rw [hz.out]
  rintro e w1 ⟨rfl, hb⟩
  have K1 := Lib.hid (Held.later K0.out (show Later _ w1 from hb))
  have z1 := Later.size (show Later _ w1 from hb)
  try simp only [World.size_alloc] at z1
  clear hb
  clear K0
  obtain ⟨c0, c1, _⟩ := Held.s2 K1.out
  go_wp2_with fail
  clear c0 c1
  refine (l_toTraffic B a n cap l _ (sl_later HS.out (show Later w _ from K1.out.2)) hle).mono ?_
  rintro e w2 ⟨gW, rfl, _, _, ho, hb⟩
  have HX0 := Lib.hid (own_slT ho)
  clear ho
  have K2 := Lib.hid (Held.later K1.out (show Later _ w2 from hb))
  have z2 := Later.size (show Later _ w2 from hb)
  try simp only [World.size_alloc] at z2
  clear hb
  clear K1
  obtain ⟨c0, c1, _⟩ := Held.s2 K2.out
  go_wp2_with fail
  clear c0 c1
  refine (SC.out _ _ _ _ HX0.out).mono ?_
  rintro e w3 ⟨vW, rfl, ho, hb⟩
  obtain ⟨aW, cW, rfl, _, _⟩ := ho.sl
  have bW := ho.lt
  have OW := Lib.hid ho
  clear ho
  have K3 := Lib.hid (Held.later K2.out (show Later _ w3 from hb))
  have z3 := Later.size (show Later _ w3 from hb)
  try simp only [World.size_alloc] at z3
  clear hb
  clear K2
  obtain ⟨bWlo, hbWlo⟩ : ∃ x, x = w2.heap.size := ⟨_, rfl⟩
  rw [← hbWlo] at bW OW
  obtain ⟨c0, c1, _⟩ := Held.s2 K3.out
  go_wp2_with fail
  clear c0 c1
  refine (l_toTraffic B a n cap l _ (sl_later HS.out (show Later w _ from K3.out.2)) hle).mono ?_
  rintro e w4 ⟨gX, rfl, hgX, hgX2, ho, hb⟩
  try simp only [World.size_alloc] at hgX
  have OX := Lib.hid ho
  clear ho
  have K4 := Lib.hid (Held.later K3.out (show Later _ w4 from hb))
  have z4 := Later.size (show Later _ w4 from hb)
  try simp only [World.size_alloc] at z4
  have OW' := Lib.hid (tf_lat OW.out (show Later _ w4 from hb))
  clear OW
  have OW := OW'
  clear OW'
  clear hb
  clear K3
  have K5 := Lib.hid (ht_box2 K4.out (.int .i64 B) (.slice (some ⟨gX, 0, none⟩) n n) 26)
  clear K4
  have OW' := Lib.hid (OW.out.alloc (.cells #[.int .i64 B, .slice (some ⟨gX, 0, none⟩) n n] 26))
  clear OW
  have OW := OW'
  clear OW'
  have OX' := Lib.hid (OX.out.alloc (.cells #[.int .i64 B, .slice (some ⟨gX, 0, none⟩) n n] 26))
  clear OX
  have OX := OX'
  clear OX'
  obtain ⟨c0, c1, c2, c3, _⟩ := Held.s4 K5.out
  go_wp2_with fail
  clear c0 c1 c2 c3
  refine (IC.out _ _ _ _ (own_slT OX.out)).mono ?_
  rintro e w5 ⟨vG, rfl, ho, hb⟩
  try simp only [World.size_alloc] at ho
  obtain ⟨aG, cG, rfl, _, _⟩ := ho.sl
  have bG := ho.lt
  have OG := Lib.hid ho
  clear ho
  have K6 := Lib.hid (Held.later K5.out (show Later _ w5 from hb))
  have z5 := Later.size (show Later _ w5 from hb)
  try simp only [World.size_alloc] at z5
  have OW' := Lib.hid (tf_lat OW.out (show Later _ w5 from hb))
  clear OW
  have OW := OW'
  clear OW'
  have OX' := Lib.hid (tf_lat OX.out (show Later _ w5 from hb))
  clear OX
  have OX := OX'
  clear OX'
  clear hb
  clear K5
  obtain ⟨c0, c1, c2, c3, _⟩ := Held.s4 K6.out
  go_wp2_with fail
  clear c0 c1 c2 c3
  refine (l_eqIT _ _ _ _ _ _ V _ (own_slT OG.out) (own_slT OW.out)).mono ?_
  rintro e w6 ⟨rfl, hb⟩
  have K7 := Lib.hid (Held.later K6.out (show Later _ w6 from hb))
  have z6 := Later.size (show Later _ w6 from hb)
  try simp only [World.size_alloc] at z6
  have OW' := Lib.hid (tf_lat OW.out (show Later _ w6 from hb))
  clear OW
  have OW := OW'
  clear OW'
  have OX' := Lib.hid (tf_lat OX.out (show Later _ w6 from hb))
  clear OX
  have OX := OX'
  clear OX'
  have OG' := Lib.hid (tf_lat OG.out (show Later _ w6 from hb))
  clear OG
  have OG := OG'
  clear OG'
  clear hb
  clear K6
  obtain ⟨c0, c1, c2, c3, _⟩ := Held.s4 K7.out
  go_wp2_with fail
  clear c0 c1 c2 c3
  obtain ⟨wz, hwz⟩ : ∃ wz, wz = w6 := ⟨_, rfl⟩
  clear hwz wz
  have KQ : Hid (∀ W', Later w6 W' → Held [(w4.heap.size, 0, .int .i64 B), (w4.heap.size, 1, .slice (some ⟨gX, 0, none⟩) n n), (w.heap.size, 0, .int .i64 B), (w.heap.size, 1, .slice a n cap)] w W') := Lib.hid (fun W' h => K7.out.later h)
  have KS : Hid (∀ W', Later w6 W' → W'.cell? ⟨w4.heap.size, 0, none⟩ = some (.int .i64 B) ∧ W'.cell? ⟨w4.heap.size, 1, none⟩ = some (.slice (some ⟨gX, 0, none⟩) n n) ∧ W'.cell? ⟨w.heap.size, 0, none⟩ = some (.int .i64 B) ∧ W'.cell? ⟨w.heap.size, 1, none⟩ = some (.slice a n cap)) := Lib.hid (fun W' h => by obtain ⟨d0, d1, d2, d3, _⟩ := Held.s4 (KQ.out W' h); exact ⟨d0, d1, d2, d3⟩)
  obtain ⟨d0, d1, d2, d3⟩ := KS.out w6 (Later.refl _)
  go_region_held3 (fun w' => w'.cell? ⟨w4.heap.size, 0, none⟩ = some (.int .i64 B) ∧ w'.cell? ⟨w4.heap.size, 1, none⟩ = some (.slice (some ⟨gX, 0, none⟩) n n) ∧ w'.cell? ⟨w.heap.size, 0, none⟩ = some (.int .i64 B) ∧ w'.cell? ⟨w.heap.size, 1, none⟩ = some (.slice a n cap)) (first | (refine KS.out _ ?_; ((repeat (first | (with_reducible exact Later.refl _) | (with_reducible exact Hid.out (by assumption)) | (with_reducible refine Later.alloc ?_ _) | (with_reducible refine Later.setCell ?_ (by simp; omega) _) | (with_reducible refine Later.setCell ?_ (by simp) _) | (with_reducible refine Later.drewN ?_ _) | (with_reducible refine Later.drew ?_) | (with_reducible refine Later.trans ?_ (Hid.out (by assumption))))); done)))
    (first
      | (go_at_call 69; refine (l_toTraffic B a n cap l _ (sl_later HS.out (show Later w _ from (KQ.out _ (show Later w6 _ from (by repeat (first | (with_reducible exact Later.refl _) | (with_reducible exact Hid.out (by assumption)) | (with_reducible refine Later.alloc ?_ _) | (with_reducible refine Later.setCell ?_ (by simp; omega) _) | (with_reducible refine Later.setCell ?_ (by simp) _) | (with_reducible refine Later.drewN ?_ _) | (with_reducible refine Later.drew ?_) | (with_reducible refine Later.trans ?_ (Hid.out (by assumption))))))).2)) hle).mono ?_; rintro e wp ⟨gP, rfl, _, _, hop, hbp⟩; have HP := Lib.hid hbp; have OP := Lib.hid (own_slT hop); clear hbp hop)
      | (go_at_call 70; refine (l_eqTraffic _ _ _ _ _ _ _ l _ (sl_later (own_slT OX.out) (show Later w6 _ from (by repeat (first | (with_reducible exact Later.refl _) | (with_reducible exact Hid.out (by assumption)) | (with_reducible refine Later.alloc ?_ _) | (with_reducible refine Later.setCell ?_ (by simp; omega) _) | (with_reducible refine Later.setCell ?_ (by simp) _) | (with_reducible refine Later.drewN ?_ _) | (with_reducible refine Later.drew ?_) | (with_reducible refine Later.trans ?_ (Hid.out (by assumption))))))) (sl_later OP.out (show Later wp _ from (by repeat (first | (with_reducible exact Later.refl _) | (with_reducible exact Hid.out (by assumption)) | (with_reducible refine Later.alloc ?_ _) | (with_reducible refine Later.setCell ?_ (by simp; omega) _) | (with_reducible refine Later.setCell ?_ (by simp) _) | (with_reducible refine Later.drewN ?_ _) | (with_reducible refine Later.drew ?_) | (with_reducible refine Later.trans ?_ (Hid.out (by assumption)))))))).mono ?_; rintro e wq ⟨rfl, hbq⟩; have HQ := Lib.hid hbq; clear hbq))
  all_goals
    refine then_into (fun W => Later w6 W) (show Later w6 _ from (by repeat (first | (with_reducible exact Later.refl _) | (with_reducible exact Hid.out (by assumption)) | (with_reducible refine Later.alloc ?_ _) | (with_reducible refine Later.setCell ?_ (by simp; omega) _) | (with_reducible refine Later.setCell ?_ (by simp) _) | (with_reducible refine Later.drewN ?_ _) | (with_reducible refine Later.drew ?_) | (with_reducible refine Later.trans ?_ (Hid.out (by assumption)))))) ?_
    intro w7 hb
    clear HQ HP OP KS KQ d0 d1 d2 d3
    have K8 := Lib.hid (Held.later K7.out (show Later _ w7 from hb))
    have z7 := Later.size (show Later _ w7 from hb)
    try simp only [World.size_alloc] at z7
    have OW' := Lib.hid (tf_lat OW.out (show Later _ w7 from hb))
    clear OW
    have OW := OW'
    clear OW'
    have OX' := Lib.hid (tf_lat OX.out (show Later _ w7 from hb))
    clear OX
    have OX := OX'
    clear OX'
    have OG' := Lib.hid (tf_lat OG.out (show Later _ w7 from hb))
    clear OG
    have OG := OG'
    clear OG'
    clear hb
    clear K7
    obtain ⟨c0, c1, c2, c3, _⟩ := Held.s4 K8.out
    go_wp2_with fail
    clear c0 c1 c2 c3
    refine (l_markTraffic _ _ _ l _ OX.out (by rw [HL.out]; omega)).mono ?_
    rintro e w8 ⟨rfl, _, hg⟩
    rw [HL.out]
    clear OX
    have K9 := Lib.hid (ht_grown K8.out hg (by intro x hx; simp only [List.mem_cons, List.not_mem_nil, or_false] at hx; rcases hx with rfl | rfl | rfl | rfl <;> (intro e; have e := Option.some.inj e; (try simp only [] at e); omega)) (by intro k e; have e := Option.some.inj e; (try simp only [] at e); omega))
    have z8 := hg.size
    have OW' := Lib.hid (own_keptT OW.out hg (by intro k hk e; have := bW k hk; have e := Option.some.inj e; (try simp only [] at e); omega))
    clear OW
    have OW := OW'
    clear OW'
    have OG' := Lib.hid (own_keptT OG.out hg (by intro k hk e; have := bG k hk; have e := Option.some.inj e; (try simp only [] at e); omega))
    clear OG
    have OG := OG'
    clear OG'
    clear hg
    clear K8
    obtain ⟨c0, c1, c2, c3, _⟩ := Held.s4 K9.out
    go_wp2_with fail
    clear c0 c1 c2 c3
    refine (l_eqIT _ _ _ _ _ _ V _ (own_slT OG.out) (own_slT OW.out)).mono ?_
    rintro e w9 ⟨rfl, hb⟩
    have K10 := Lib.hid (Held.later K9.out (show Later _ w9 from hb))
    have z9 := Later.size (show Later _ w9 from hb)
    try simp only [World.size_alloc] at z9
    have OW' := Lib.hid (tf_lat OW.out (show Later _ w9 from hb))
    clear OW
    have OW := OW'
    clear OW'
    have OG' := Lib.hid (tf_lat OG.out (show Later _ w9 from hb))
    clear OG
    have OG := OG'
    clear OG'
    clear hb
    clear K9
    obtain ⟨c0, c1, c2, c3, _⟩ := Held.s4 K10.out
    go_wp2_with fail
    clear c0 c1 c2 c3
    refine (l_markInt64S _ _ V _ OG.out (by omega)).mono ?_
    rintro e w10 ⟨rfl, hm, hg⟩
    have OM := Lib.hid hm
    clear hm OG
    have K11 := Lib.hid (ht_grown K10.out hg (by intro x hx; simp only [List.mem_cons, List.not_mem_nil, or_false] at hx; rcases hx with rfl | rfl | rfl | rfl <;> (intro e; have := bG _ e; (try simp only [] at this); omega)) (by intro k e; have := bG k e; omega))
    have z10 := hg.size
    have OW' := Lib.hid (own_keptT OW.out hg (by intro k hk e; have := bW k hk; have := bG k e; omega))
    clear OW
    have OW := OW'
    clear OW'
    clear hg
    clear K10
    obtain ⟨c0, c1, c2, c3, _⟩ := Held.s4 K11.out
    go_wp2_with fail
    clear c0 c1 c2 c3
    refine (l_heldInt64S _ _ V _ OM.out (by omega)).mono ?_
    rintro e w' ⟨rfl, rfl⟩
    obtain ⟨c0, c1, c2, c3, _⟩ := Held.s4 K11.out
    go_wp2_with fail
    clear c0 c1 c2 c3
    refine (l_toTraffic B a n cap l _ (sl_later HS.out (show Later w _ from K11.out.2)) hle).mono ?_
    rintro e w11 ⟨gV, rfl, _, _, ho, hb⟩
    have HX0 := Lib.hid (own_slT ho)
    clear ho
    have K12 := Lib.hid (Held.later K11.out (show Later _ w11 from hb))
    have z11 := Later.size (show Later _ w11 from hb)
    try simp only [World.size_alloc] at z11
    have OW' := Lib.hid (tf_lat OW.out (show Later _ w11 from hb))
    clear OW
    have OW := OW'
    clear OW'
    have OM' := Lib.hid (tf_lat OM.out (show Later _ w11 from hb))
    clear OM
    have OM := OM'
    clear OM'
    clear hb
    clear K11
    obtain ⟨c0, c1, c2, c3, _⟩ := Held.s4 K12.out
    go_wp2_with fail
    clear c0 c1 c2 c3
    refine (IC.out _ _ _ _ HX0.out).mono ?_
    rintro e w12 ⟨vH, rfl, ho, hb⟩
    obtain ⟨aH, cH, rfl, _, _⟩ := ho.sl
    have OH := Lib.hid ho
    clear ho
    have K13 := Lib.hid (Held.later K12.out (show Later _ w12 from hb))
    have z12 := Later.size (show Later _ w12 from hb)
    try simp only [World.size_alloc] at z12
    have OW' := Lib.hid (tf_lat OW.out (show Later _ w12 from hb))
    clear OW
    have OW := OW'
    clear OW'
    have OM' := Lib.hid (tf_lat OM.out (show Later _ w12 from hb))
    clear OM
    have OM := OM'
    clear OM'
    clear hb
    clear K12
    obtain ⟨c0, c1, c2, c3, _⟩ := Held.s4 K13.out
    go_wp2_with fail
    clear c0 c1 c2 c3
    refine (l_eqIT _ _ _ _ _ _ V _ (own_slT OH.out) (own_slT OW.out)).mono ?_
    rintro e w13 ⟨rfl, hb⟩
    have K14 := Lib.hid (Held.later K13.out (show Later _ w13 from hb))
    have z13 := Later.size (show Later _ w13 from hb)
    try simp only [World.size_alloc] at z13
    have OW' := Lib.hid (tf_lat OW.out (show Later _ w13 from hb))
    clear OW
    have OW := OW'
    clear OW'
    have OM' := Lib.hid (tf_lat OM.out (show Later _ w13 from hb))
    clear OM
    have OM := OM'
    clear OM'
    have OH' := Lib.hid (tf_lat OH.out (show Later _ w13 from hb))
    clear OH
    have OH := OH'
    clear OH'
    clear hb
    clear K13
    obtain ⟨c0, c1, c2, c3, _⟩ := Held.s4 K14.out
    go_wp2_with fail
    clear c0 c1 c2 c3
    refine (l_heldInt64S _ _ V _ OM.out (by omega)).mono ?_
    rintro e w' ⟨rfl, rfl⟩
    obtain ⟨c0, c1, c2, c3, _⟩ := Held.s4 K14.out
    go_wp2_with fail
    go_ret
    exact ⟨rfl, K14.out.2⟩
set_option maxRecDepth 100000 in
theorem walk_FnExactUsesOfBlocks (B : Int) (a : Option Addr) (n cap : Nat) (l : List Int) (w : World) (hB : InR B) (hcap : n ≤ cap) (hs : Sl w a n l) :
    Calls Try.prog 12 #[.agg #[.int .i64 B, .slice a n cap]] w fun e w' => e = .returned (.bool true) ∧ Later w w' := by
  have HS := Lib.hid hs
  have hn := hs.2.1
  have HL := Lib.hid hs.1
  clear hs
  by_cases hbig : 1048576 < n
  · have hz := Lib.hid (szT_big hbig)
    go_enter Try.func12, Try.ntmps12
    go_wp2_with (go_at_call 68; refine (l_szTraffic _ _ _ _ _ hn).mono ?_; rw [hz.out]; rintro e w1 ⟨rfl, hb⟩; have H := Lib.hid hb; clear hb)
    go_ret
    exact ⟨rfl, (by repeat (first | (with_reducible exact Later.refl _) | (with_reducible exact Hid.out (by assumption)) | (with_reducible refine Later.alloc ?_ _) | (with_reducible refine Later.setCell ?_ (by simp; omega) _) | (with_reducible refine Later.setCell ?_ (by simp) _) | (with_reducible refine Later.drewN ?_ _) | (with_reducible refine Later.drew ?_) | (with_reducible refine Later.trans ?_ (Hid.out (by assumption)))))⟩
  have hle : n ≤ 1048576 := by omega
  have hz := Lib.hid (szT_ok hle)
  clear hbig
  obtain ⟨V, E, SC, IC, hVl⟩ : ∃ (V : List Int) (E : Int), Hid (∀ (a' : Option Addr) (m c : Nat) (W : World), Sl W a' m l → Calls Try.prog 39 #[.agg #[.int .i64 B, .slice a' m c]] W (LstC W V E)) ∧ Hid (∀ (a' : Option Addr) (m c : Nat) (W : World), Sl W a' m l → Calls Try.prog 38 #[.agg #[.int .i64 B, .slice a' m c]] W (LstC W V E)) ∧ V.length ≤ 1000 := ⟨usV B l, usE B l, Lib.hid (fun a' m c W h => s_UsesOfBlocks B a' m c l W h), Lib.hid (fun a' m c W h => i_UsesOfBlocks B a' m c l W h), usV_le B l⟩
  have e0 : (E != E) = false := by simp
  go_enter Try.func12, Try.ntmps12
  go_wp2_with fail
  have K0 : Hid (Held [(w.heap.size, 0, .int .i64 B), (w.heap.size, 1, .slice a n cap)] w (w.alloc (.cells #[.int .i64 B, .slice a n cap] 66))) := Lib.hid (ht_box2 (held_none w) _ _ _)
  refine (l_szTraffic B a n cap _ hn).mono ?_
  rw [hz.out]
  rintro e w1 ⟨rfl, hb⟩
  have K1 := Lib.hid (Held.later K0.out (show Later _ w1 from hb))
  have z1 := Later.size (show Later _ w1 from hb)
  try simp only [World.size_alloc] at z1
  clear hb
  clear K0
  obtain ⟨c0, c1, _⟩ := Held.s2 K1.out
  go_wp2_with fail
  clear c0 c1
  refine (l_toTraffic B a n cap l _ (sl_later HS.out (show Later w _ from K1.out.2)) hle).mono ?_
  rintro e w2 ⟨gW, rfl, _, _, ho, hb⟩
  have HX0 := Lib.hid (own_slT ho)
  clear ho
  have K2 := Lib.hid (Held.later K1.out (show Later _ w2 from hb))
  have z2 := Later.size (show Later _ w2 from hb)
  try simp only [World.size_alloc] at z2
  clear hb
  clear K1
  obtain ⟨c0, c1, _⟩ := Held.s2 K2.out
  go_wp2_with fail
  clear c0 c1
  refine (SC.out _ _ _ _ HX0.out).mono ?_
  rintro e w3 ⟨vW, rfl, ho, hb⟩
  obtain ⟨aW, cW, rfl, _, _⟩ := ho.sl
  have bW := ho.lt
  have OW := Lib.hid ho
  clear ho
  have K3 := Lib.hid (Held.later K2.out (show Later _ w3 from hb))
  have z3 := Later.size (show Later _ w3 from hb)
  try simp only [World.size_alloc] at z3
  clear hb
  clear K2
  obtain ⟨bWlo, hbWlo⟩ : ∃ x, x = w2.heap.size := ⟨_, rfl⟩
  rw [← hbWlo] at bW OW
  obtain ⟨c0, c1, _⟩ := Held.s2 K3.out
  go_wp2_with fail
  clear c0 c1
  refine (l_toTraffic B a n cap l _ (sl_later HS.out (show Later w _ from K3.out.2)) hle).mono ?_
  rintro e w4 ⟨gX, rfl, hgX, hgX2, ho, hb⟩
  try simp only [World.size_alloc] at hgX
  have OX := Lib.hid ho
  clear ho
  have K4 := Lib.hid (Held.later K3.out (show Later _ w4 from hb))
  have z4 := Later.size (show Later _ w4 from hb)
  try simp only [World.size_alloc] at z4
  have OW' := Lib.hid (tf_lat OW.out (show Later _ w4 from hb))
  clear OW
  have OW := OW'
  clear OW'
  clear hb
  clear K3
  have K5 := Lib.hid (ht_box2 K4.out (.int .i64 B) (.slice (some ⟨gX, 0, none⟩) n n) 26)
  clear K4
  have OW' := Lib.hid (OW.out.alloc (.cells #[.int .i64 B, .slice (some ⟨gX, 0, none⟩) n n] 26))
  clear OW
  have OW := OW'
  clear OW'
  have OX' := Lib.hid (OX.out.alloc (.cells #[.int .i64 B, .slice (some ⟨gX, 0, none⟩) n n] 26))
  clear OX
  have OX := OX'
  clear OX'
  obtain ⟨c0, c1, c2, c3, _⟩ := Held.s4 K5.out
  go_wp2_with fail
  clear c0 c1 c2 c3
  refine (IC.out _ _ _ _ (own_slT OX.out)).mono ?_
  rintro e w5 ⟨vG, rfl, ho, hb⟩
  try simp only [World.size_alloc] at ho
  obtain ⟨aG, cG, rfl, _, _⟩ := ho.sl
  have bG := ho.lt
  have OG := Lib.hid ho
  clear ho
  have K6 := Lib.hid (Held.later K5.out (show Later _ w5 from hb))
  have z5 := Later.size (show Later _ w5 from hb)
  try simp only [World.size_alloc] at z5
  have OW' := Lib.hid (tf_lat OW.out (show Later _ w5 from hb))
  clear OW
  have OW := OW'
  clear OW'
  have OX' := Lib.hid (tf_lat OX.out (show Later _ w5 from hb))
  clear OX
  have OX := OX'
  clear OX'
  clear hb
  clear K5
  obtain ⟨c0, c1, c2, c3, _⟩ := Held.s4 K6.out
  go_wp2_with fail
  clear c0 c1 c2 c3
  refine (l_eqIT _ _ _ _ _ _ V _ (own_slT OG.out) (own_slT OW.out)).mono ?_
  rintro e w6 ⟨rfl, hb⟩
  have K7 := Lib.hid (Held.later K6.out (show Later _ w6 from hb))
  have z6 := Later.size (show Later _ w6 from hb)
  try simp only [World.size_alloc] at z6
  have OW' := Lib.hid (tf_lat OW.out (show Later _ w6 from hb))
  clear OW
  have OW := OW'
  clear OW'
  have OX' := Lib.hid (tf_lat OX.out (show Later _ w6 from hb))
  clear OX
  have OX := OX'
  clear OX'
  have OG' := Lib.hid (tf_lat OG.out (show Later _ w6 from hb))
  clear OG
  have OG := OG'
  clear OG'
  clear hb
  clear K6
  obtain ⟨c0, c1, c2, c3, _⟩ := Held.s4 K7.out
  go_wp2_with fail
  clear c0 c1 c2 c3
  obtain ⟨wz, hwz⟩ : ∃ wz, wz = w6 := ⟨_, rfl⟩
  clear hwz wz
  have KQ : Hid (∀ W', Later w6 W' → Held [(w4.heap.size, 0, .int .i64 B), (w4.heap.size, 1, .slice (some ⟨gX, 0, none⟩) n n), (w.heap.size, 0, .int .i64 B), (w.heap.size, 1, .slice a n cap)] w W') := Lib.hid (fun W' h => K7.out.later h)
  have KS : Hid (∀ W', Later w6 W' → W'.cell? ⟨w4.heap.size, 0, none⟩ = some (.int .i64 B) ∧ W'.cell? ⟨w4.heap.size, 1, none⟩ = some (.slice (some ⟨gX, 0, none⟩) n n) ∧ W'.cell? ⟨w.heap.size, 0, none⟩ = some (.int .i64 B) ∧ W'.cell? ⟨w.heap.size, 1, none⟩ = some (.slice a n cap)) := Lib.hid (fun W' h => by obtain ⟨d0, d1, d2, d3, _⟩ := Held.s4 (KQ.out W' h); exact ⟨d0, d1, d2, d3⟩)
  obtain ⟨d0, d1, d2, d3⟩ := KS.out w6 (Later.refl _)
  go_region_held3 (fun w' => w'.cell? ⟨w4.heap.size, 0, none⟩ = some (.int .i64 B) ∧ w'.cell? ⟨w4.heap.size, 1, none⟩ = some (.slice (some ⟨gX, 0, none⟩) n n) ∧ w'.cell? ⟨w.heap.size, 0, none⟩ = some (.int .i64 B) ∧ w'.cell? ⟨w.heap.size, 1, none⟩ = some (.slice a n cap)) (first | (refine KS.out _ ?_; ((repeat (first | (with_reducible exact Later.refl _) | (with_reducible exact Hid.out (by assumption)) | (with_reducible refine Later.alloc ?_ _) | (with_reducible refine Later.setCell ?_ (by simp; omega) _) | (with_reducible refine Later.setCell ?_ (by simp) _) | (with_reducible refine Later.drewN ?_ _) | (with_reducible refine Later.drew ?_) | (with_reducible refine Later.trans ?_ (Hid.out (by assumption))))); done)))
    (first
      | (go_at_call 69; refine (l_toTraffic B a n cap l _ (sl_later HS.out (show Later w _ from (KQ.out _ (show Later w6 _ from (by repeat (first | (with_reducible exact Later.refl _) | (with_reducible exact Hid.out (by assumption)) | (with_reducible refine Later.alloc ?_ _) | (with_reducible refine Later.setCell ?_ (by simp; omega) _) | (with_reducible refine Later.setCell ?_ (by simp) _) | (with_reducible refine Later.drewN ?_ _) | (with_reducible refine Later.drew ?_) | (with_reducible refine Later.trans ?_ (Hid.out (by assumption))))))).2)) hle).mono ?_; rintro e wp ⟨gP, rfl, _, _, hop, hbp⟩; have HP := Lib.hid hbp; have OP := Lib.hid (own_slT hop); clear hbp hop)
      | (go_at_call 70; refine (l_eqTraffic _ _ _ _ _ _ _ l _ (sl_later (own_slT OX.out) (show Later w6 _ from (by repeat (first | (with_reducible exact Later.refl _) | (with_reducible exact Hid.out (by assumption)) | (with_reducible refine Later.alloc ?_ _) | (with_reducible refine Later.setCell ?_ (by simp; omega) _) | (with_reducible refine Later.setCell ?_ (by simp) _) | (with_reducible refine Later.drewN ?_ _) | (with_reducible refine Later.drew ?_) | (with_reducible refine Later.trans ?_ (Hid.out (by assumption))))))) (sl_later OP.out (show Later wp _ from (by repeat (first | (with_reducible exact Later.refl _) | (with_reducible exact Hid.out (by assumption)) | (with_reducible refine Later.alloc ?_ _) | (with_reducible refine Later.setCell ?_ (by simp; omega) _) | (with_reducible refine Later.setCell ?_ (by simp) _) | (with_reducible refine Later.drewN ?_ _) | (with_reducible refine Later.drew ?_) | (with_reducible refine Later.trans ?_ (Hid.out (by assumption)))))))).mono ?_; rintro e wq ⟨rfl, hbq⟩; have HQ := Lib.hid hbq; clear hbq))
  all_goals
    refine then_into (fun W => Later w6 W) (show Later w6 _ from (by repeat (first | (with_reducible exact Later.refl _) | (with_reducible exact Hid.out (by assumption)) | (with_reducible refine Later.alloc ?_ _) | (with_reducible refine Later.setCell ?_ (by simp; omega) _) | (with_reducible refine Later.setCell ?_ (by simp) _) | (with_reducible refine Later.drewN ?_ _) | (with_reducible refine Later.drew ?_) | (with_reducible refine Later.trans ?_ (Hid.out (by assumption)))))) ?_
    intro w7 hb
    clear HQ HP OP KS KQ d0 d1 d2 d3
    have K8 := Lib.hid (Held.later K7.out (show Later _ w7 from hb))
    have z7 := Later.size (show Later _ w7 from hb)
    try simp only [World.size_alloc] at z7
    have OW' := Lib.hid (tf_lat OW.out (show Later _ w7 from hb))
    clear OW
    have OW := OW'
    clear OW'
    have OX' := Lib.hid (tf_lat OX.out (show Later _ w7 from hb))
    clear OX
    have OX := OX'
    clear OX'
    have OG' := Lib.hid (tf_lat OG.out (show Later _ w7 from hb))
    clear OG
    have OG := OG'
    clear OG'
    clear hb
    clear K7
    obtain ⟨c0, c1, c2, c3, _⟩ := Held.s4 K8.out
    go_wp2_with fail
    clear c0 c1 c2 c3
    refine (l_markTraffic _ _ _ l _ OX.out (by rw [HL.out]; omega)).mono ?_
    rintro e w8 ⟨rfl, _, hg⟩
    rw [HL.out]
    clear OX
    have K9 := Lib.hid (ht_grown K8.out hg (by intro x hx; simp only [List.mem_cons, List.not_mem_nil, or_false] at hx; rcases hx with rfl | rfl | rfl | rfl <;> (intro e; have e := Option.some.inj e; (try simp only [] at e); omega)) (by intro k e; have e := Option.some.inj e; (try simp only [] at e); omega))
    have z8 := hg.size
    have OW' := Lib.hid (own_keptT OW.out hg (by intro k hk e; have := bW k hk; have e := Option.some.inj e; (try simp only [] at e); omega))
    clear OW
    have OW := OW'
    clear OW'
    have OG' := Lib.hid (own_keptT OG.out hg (by intro k hk e; have := bG k hk; have e := Option.some.inj e; (try simp only [] at e); omega))
    clear OG
    have OG := OG'
    clear OG'
    clear hg
    clear K8
    obtain ⟨c0, c1, c2, c3, _⟩ := Held.s4 K9.out
    go_wp2_with fail
    clear c0 c1 c2 c3
    refine (l_eqIT _ _ _ _ _ _ V _ (own_slT OG.out) (own_slT OW.out)).mono ?_
    rintro e w9 ⟨rfl, hb⟩
    have K10 := Lib.hid (Held.later K9.out (show Later _ w9 from hb))
    have z9 := Later.size (show Later _ w9 from hb)
    try simp only [World.size_alloc] at z9
    have OW' := Lib.hid (tf_lat OW.out (show Later _ w9 from hb))
    clear OW
    have OW := OW'
    clear OW'
    have OG' := Lib.hid (tf_lat OG.out (show Later _ w9 from hb))
    clear OG
    have OG := OG'
    clear OG'
    clear hb
    clear K9
    obtain ⟨c0, c1, c2, c3, _⟩ := Held.s4 K10.out
    go_wp2_with fail
    clear c0 c1 c2 c3
    refine (l_markInt64S _ _ V _ OG.out (by omega)).mono ?_
    rintro e w10 ⟨rfl, hm, hg⟩
    have OM := Lib.hid hm
    clear hm OG
    have K11 := Lib.hid (ht_grown K10.out hg (by intro x hx; simp only [List.mem_cons, List.not_mem_nil, or_false] at hx; rcases hx with rfl | rfl | rfl | rfl <;> (intro e; have := bG _ e; (try simp only [] at this); omega)) (by intro k e; have := bG k e; omega))
    have z10 := hg.size
    have OW' := Lib.hid (own_keptT OW.out hg (by intro k hk e; have := bW k hk; have := bG k e; omega))
    clear OW
    have OW := OW'
    clear OW'
    clear hg
    clear K10
    obtain ⟨c0, c1, c2, c3, _⟩ := Held.s4 K11.out
    go_wp2_with fail
    clear c0 c1 c2 c3
    refine (l_heldInt64S _ _ V _ OM.out (by omega)).mono ?_
    rintro e w' ⟨rfl, rfl⟩
    obtain ⟨c0, c1, c2, c3, _⟩ := Held.s4 K11.out
    go_wp2_with fail
    clear c0 c1 c2 c3
    refine (l_toTraffic B a n cap l _ (sl_later HS.out (show Later w _ from K11.out.2)) hle).mono ?_
    rintro e w11 ⟨gV, rfl, _, _, ho, hb⟩
    have HX0 := Lib.hid (own_slT ho)
    clear ho
    have K12 := Lib.hid (Held.later K11.out (show Later _ w11 from hb))
    have z11 := Later.size (show Later _ w11 from hb)
    try simp only [World.size_alloc] at z11
    have OW' := Lib.hid (tf_lat OW.out (show Later _ w11 from hb))
    clear OW
    have OW := OW'
    clear OW'
    have OM' := Lib.hid (tf_lat OM.out (show Later _ w11 from hb))
    clear OM
    have OM := OM'
    clear OM'
    clear hb
    clear K11
    obtain ⟨c0, c1, c2, c3, _⟩ := Held.s4 K12.out
    go_wp2_with fail
    clear c0 c1 c2 c3
    refine (IC.out _ _ _ _ HX0.out).mono ?_
    rintro e w12 ⟨vH, rfl, ho, hb⟩
    obtain ⟨aH, cH, rfl, _, _⟩ := ho.sl
    have OH := Lib.hid ho
    clear ho
    have K13 := Lib.hid (Held.later K12.out (show Later _ w12 from hb))
    have z12 := Later.size (show Later _ w12 from hb)
    try simp only [World.size_alloc] at z12
    have OW' := Lib.hid (tf_lat OW.out (show Later _ w12 from hb))
    clear OW
    have OW := OW'
    clear OW'
    have OM' := Lib.hid (tf_lat OM.out (show Later _ w12 from hb))
    clear OM
    have OM := OM'
    clear OM'
    clear hb
    clear K12
    obtain ⟨c0, c1, c2, c3, _⟩ := Held.s4 K13.out
    go_wp2_with fail
    clear c0 c1 c2 c3
    refine (l_eqIT _ _ _ _ _ _ V _ (own_slT OH.out) (own_slT OW.out)).mono ?_
    rintro e w13 ⟨rfl, hb⟩
    have K14 := Lib.hid (Held.later K13.out (show Later _ w13 from hb))
    have z13 := Later.size (show Later _ w13 from hb)
    try simp only [World.size_alloc] at z13
    have OW' := Lib.hid (tf_lat OW.out (show Later _ w13 from hb))
    clear OW
    have OW := OW'
    clear OW'
    have OM' := Lib.hid (tf_lat OM.out (show Later _ w13 from hb))
    clear OM
    have OM := OM'
    clear OM'
    have OH' := Lib.hid (tf_lat OH.out (show Later _ w13 from hb))
    clear OH
    have OH := OH'
    clear OH'
    clear hb
    clear K13
    obtain ⟨c0, c1, c2, c3, _⟩ := Held.s4 K14.out
    go_wp2_with fail
    clear c0 c1 c2 c3
    refine (l_heldInt64S _ _ V _ OM.out (by omega)).mono ?_
    rintro e w' ⟨rfl, rfl⟩
    obtain ⟨c0, c1, c2, c3, _⟩ := Held.s4 K14.out
    go_wp2_with fail
    go_ret
    exact ⟨rfl, K14.out.2⟩
set_option maxRecDepth 100000 in
theorem walk_FnExactMovedTrain (B : Int) (a : Option Addr) (n cap : Nat) (l : List Int) (t : Int) (w : World) (hB : InR B) (hcap : n ≤ cap) (hs : Sl w a n l) (u1 : (Lit.int .i64 t).wf = true) :
    Calls Try.prog 13 #[.agg #[.int .i64 B, .slice a n cap], .int .i64 t] w fun e w' => e = .returned (.bool true) ∧ Later w w' := by
  have HS := Lib.hid hs
  have hn := hs.2.1
  have HL := Lib.hid hs.1
  clear hs
  by_cases hbig : 1048576 < n
  · have hz := Lib.hid (szT_big hbig)
    go_enter Try.func13, Try.ntmps13
    go_wp2_with (go_at_call 68; refine (l_szTraffic _ _ _ _ _ hn).mono ?_; rw [hz.out]; rintro e w1 ⟨rfl, hb⟩; have H := Lib.hid hb; clear hb)
    go_ret
    exact ⟨rfl, (by repeat (first | (with_reducible exact Later.refl _) | (with_reducible exact Hid.out (by assumption)) | (with_reducible refine Later.alloc ?_ _) | (with_reducible refine Later.setCell ?_ (by simp; omega) _) | (with_reducible refine Later.setCell ?_ (by simp) _) | (with_reducible refine Later.drewN ?_ _) | (with_reducible refine Later.drew ?_) | (with_reducible refine Later.trans ?_ (Hid.out (by assumption)))))⟩
  have hle : n ≤ 1048576 := by omega
  have hz := Lib.hid (szT_ok hle)
  clear hbig
  obtain ⟨V, E, B2, SC, IC, hVl⟩ : ∃ (V : List Int) (E B2 : Int), Hid (∀ (a' : Option Addr) (m c : Nat) (W : World), Sl W a' m l → Calls Try.prog 34 #[.agg #[.int .i64 B, .slice a' m c], .int .i64 t] W (NewTC W B2 V E)) ∧ Hid (∀ (a' : Option Addr) (m c : Nat) (W : World), Sl W a' m l → Calls Try.prog 33 #[.agg #[.int .i64 B, .slice a' m c], .int .i64 t] W (NewTC W B2 V E)) ∧ V.length ≤ 1000 := ⟨mtV B l t, thE B l t, mtB B l t, Lib.hid (fun a' m c W h => s_MovedTrain B a' m c l t W h), Lib.hid (fun a' m c W h => i_MovedTrain B a' m c l t W h), mtV_le B l t⟩
  have e0 : (E != E) = false := by simp
  clear u1
  go_enter Try.func13, Try.ntmps13
  go_wp2_with fail
  have K0 : Hid (Held [(w.heap.size, 0, .int .i64 B), (w.heap.size, 1, .slice a n cap)] w (w.alloc (.cells #[.int .i64 B, .slice a n cap] 66))) := Lib.hid (ht_box2 (held_none w) _ _ _)
  refine (l_szTraffic B a n cap _ hn).mono ?_
  rw [hz.out]
  rintro e w1 ⟨rfl, hb⟩
  have K1 := Lib.hid (Held.later K0.out (show Later _ w1 from hb))
  have z1 := Later.size (show Later _ w1 from hb)
  try simp only [World.size_alloc] at z1
  clear hb
  clear K0
  obtain ⟨c0, c1, _⟩ := Held.s2 K1.out
  go_wp2_with fail
  clear c0 c1
  refine (l_toTraffic B a n cap l _ (sl_later HS.out (show Later w _ from K1.out.2)) hle).mono ?_
  rintro e w2 ⟨gW, rfl, _, _, ho, hb⟩
  have HX0 := Lib.hid (own_slT ho)
  clear ho
  have K2 := Lib.hid (Held.later K1.out (show Later _ w2 from hb))
  have z2 := Later.size (show Later _ w2 from hb)
  try simp only [World.size_alloc] at z2
  clear hb
  clear K1
  obtain ⟨c0, c1, _⟩ := Held.s2 K2.out
  go_wp2_with fail
  clear c0 c1
  refine (SC.out _ _ _ _ HX0.out).mono ?_
  rintro e w3 ⟨vW, rfl, ho, hb⟩
  obtain ⟨aW, cW, rfl, _, _⟩ := ho.sl
  have bW := ho.lt
  have OW := Lib.hid ho
  clear ho
  have K3 := Lib.hid (Held.later K2.out (show Later _ w3 from hb))
  have z3 := Later.size (show Later _ w3 from hb)
  try simp only [World.size_alloc] at z3
  clear hb
  clear K2
  obtain ⟨bWlo, hbWlo⟩ : ∃ x, x = w2.heap.size := ⟨_, rfl⟩
  rw [← hbWlo] at bW OW
  have K4 := Lib.hid (ht_box2 K3.out (.int .i64 B2) (.slice aW V.length cW) 26)
  clear K3
  have OW' := Lib.hid (OW.out.alloc (.cells #[.int .i64 B2, .slice aW V.length cW] 26))
  clear OW
  have OW := OW'
  clear OW'
  obtain ⟨_, _, c0, c1, _⟩ := Held.s4 K4.out
  go_wp2_with fail
  clear c0 c1
  refine (l_toTraffic B a n cap l _ (sl_later HS.out (show Later w _ from K4.out.2)) hle).mono ?_
  rintro e w4 ⟨gX, rfl, hgX, hgX2, ho, hb⟩
  try simp only [World.size_alloc] at hgX
  have OX := Lib.hid ho
  clear ho
  have K5 := Lib.hid (Held.later K4.out (show Later _ w4 from hb))
  have z4 := Later.size (show Later _ w4 from hb)
  try simp only [World.size_alloc] at z4
  have OW' := Lib.hid (tf_lat OW.out (show Later _ w4 from hb))
  clear OW
  have OW := OW'
  clear OW'
  clear hb
  clear K4
  have K6 := Lib.hid (ht_box2 K5.out (.int .i64 B) (.slice (some ⟨gX, 0, none⟩) n n) 26)
  clear K5
  have OW' := Lib.hid (OW.out.alloc (.cells #[.int .i64 B, .slice (some ⟨gX, 0, none⟩) n n] 26))
  clear OW
  have OW := OW'
  clear OW'
  have OX' := Lib.hid (OX.out.alloc (.cells #[.int .i64 B, .slice (some ⟨gX, 0, none⟩) n n] 26))
  clear OX
  have OX := OX'
  clear OX'
  obtain ⟨c0, c1, c2, c3, c4, c5, _⟩ := Held.s6 K6.out
  go_wp2_with fail
  clear c0 c1 c2 c3 c4 c5
  refine (IC.out _ _ _ _ (own_slT OX.out)).mono ?_
  rintro e w5 ⟨vG, rfl, ho, hb⟩
  try simp only [World.size_alloc] at ho
  obtain ⟨aG, cG, rfl, _, _⟩ := ho.sl
  have bG := ho.lt
  have OG := Lib.hid ho
  clear ho
  have K7 := Lib.hid (Held.later K6.out (show Later _ w5 from hb))
  have z5 := Later.size (show Later _ w5 from hb)
  try simp only [World.size_alloc] at z5
  have OW' := Lib.hid (tf_lat OW.out (show Later _ w5 from hb))
  clear OW
  have OW := OW'
  clear OW'
  have OX' := Lib.hid (tf_lat OX.out (show Later _ w5 from hb))
  clear OX
  have OX := OX'
  clear OX'
  clear hb
  clear K6
  have K8 := Lib.hid (ht_box2 K7.out (.int .i64 B2) (.slice aG V.length cG) 26)
  clear K7
  have OW' := Lib.hid (OW.out.alloc (.cells #[.int .i64 B2, .slice aG V.length cG] 26))
  clear OW
  have OW := OW'
  clear OW'
  have OX' := Lib.hid (OX.out.alloc (.cells #[.int .i64 B2, .slice aG V.length cG] 26))
  clear OX
  have OX := OX'
  clear OX'
  have OG' := Lib.hid (OG.out.alloc (.cells #[.int .i64 B2, .slice aG V.length cG] 26))
  clear OG
  have OG := OG'
  clear OG'
  obtain ⟨c0, c1, c2, c3, c4, c5, c6, c7, _⟩ := Held.s8 K8.out
  go_wp2_with fail
  clear c0 c1 c2 c3 c4 c5 c6 c7
  refine (l_eqTraffic _ _ _ _ _ _ _ V _ (own_slT OG.out) (own_slT OW.out)).mono ?_
  rintro e w6 ⟨rfl, hb⟩
  have K9 := Lib.hid (Held.later K8.out (show Later _ w6 from hb))
  have z6 := Later.size (show Later _ w6 from hb)
  try simp only [World.size_alloc] at z6
  have OW' := Lib.hid (tf_lat OW.out (show Later _ w6 from hb))
  clear OW
  have OW := OW'
  clear OW'
  have OX' := Lib.hid (tf_lat OX.out (show Later _ w6 from hb))
  clear OX
  have OX := OX'
  clear OX'
  have OG' := Lib.hid (tf_lat OG.out (show Later _ w6 from hb))
  clear OG
  have OG := OG'
  clear OG'
  clear hb
  clear K8
  obtain ⟨c0, c1, c2, c3, c4, c5, c6, c7, _⟩ := Held.s8 K9.out
  go_wp2_with fail
  clear c0 c1 c2 c3 c4 c5 c6 c7
  obtain ⟨wz, hwz⟩ : ∃ wz, wz = w6 := ⟨_, rfl⟩
  clear hwz wz
  have KQ : Hid (∀ W', Later w6 W' → Held [(w5.heap.size, 0, .int .i64 B2), (w5.heap.size, 1, .slice aG V.length cG), (w4.heap.size, 0, .int .i64 B), (w4.heap.size, 1, .slice (some ⟨gX, 0, none⟩) n n), (w3.heap.size, 0, .int .i64 B2), (w3.heap.size, 1, .slice aW V.length cW), (w.heap.size, 0, .int .i64 B), (w.heap.size, 1, .slice a n cap)] w W') := Lib.hid (fun W' h => K9.out.later h)
  have KS : Hid (∀ W', Later w6 W' → W'.cell? ⟨w4.heap.size, 0, none⟩ = some (.int .i64 B) ∧ W'.cell? ⟨w4.heap.size, 1, none⟩ = some (.slice (some ⟨gX, 0, none⟩) n n) ∧ W'.cell? ⟨w.heap.size, 0, none⟩ = some (.int .i64 B) ∧ W'.cell? ⟨w.heap.size, 1, none⟩ = some (.slice a n cap)) := Lib.hid (fun W' h => by obtain ⟨_, _, d0, d1, _, _, d2, d3, _⟩ := Held.s8 (KQ.out W' h); exact ⟨d0, d1, d2, d3⟩)
  obtain ⟨d0, d1, d2, d3⟩ := KS.out w6 (Later.refl _)
  go_region_held3 (fun w' => w'.cell? ⟨w4.heap.size, 0, none⟩ = some (.int .i64 B) ∧ w'.cell? ⟨w4.heap.size, 1, none⟩ = some (.slice (some ⟨gX, 0, none⟩) n n) ∧ w'.cell? ⟨w.heap.size, 0, none⟩ = some (.int .i64 B) ∧ w'.cell? ⟨w.heap.size, 1, none⟩ = some (.slice a n cap)) (first | (refine KS.out _ ?_; ((repeat (first | (with_reducible exact Later.refl _) | (with_reducible exact Hid.out (by assumption)) | (with_reducible refine Later.alloc ?_ _) | (with_reducible refine Later.setCell ?_ (by simp; omega) _) | (with_reducible refine Later.setCell ?_ (by simp) _) | (with_reducible refine Later.drewN ?_ _) | (with_reducible refine Later.drew ?_) | (with_reducible refine Later.trans ?_ (Hid.out (by assumption))))); done)))
    (first
      | (go_at_call 69; refine (l_toTraffic B a n cap l _ (sl_later HS.out (show Later w _ from (KQ.out _ (show Later w6 _ from (by repeat (first | (with_reducible exact Later.refl _) | (with_reducible exact Hid.out (by assumption)) | (with_reducible refine Later.alloc ?_ _) | (with_reducible refine Later.setCell ?_ (by simp; omega) _) | (with_reducible refine Later.setCell ?_ (by simp) _) | (with_reducible refine Later.drewN ?_ _) | (with_reducible refine Later.drew ?_) | (with_reducible refine Later.trans ?_ (Hid.out (by assumption))))))).2)) hle).mono ?_; rintro e wp ⟨gP, rfl, _, _, hop, hbp⟩; have HP := Lib.hid hbp; have OP := Lib.hid (own_slT hop); clear hbp hop)
      | (go_at_call 70; refine (l_eqTraffic _ _ _ _ _ _ _ l _ (sl_later (own_slT OX.out) (show Later w6 _ from (by repeat (first | (with_reducible exact Later.refl _) | (with_reducible exact Hid.out (by assumption)) | (with_reducible refine Later.alloc ?_ _) | (with_reducible refine Later.setCell ?_ (by simp; omega) _) | (with_reducible refine Later.setCell ?_ (by simp) _) | (with_reducible refine Later.drewN ?_ _) | (with_reducible refine Later.drew ?_) | (with_reducible refine Later.trans ?_ (Hid.out (by assumption))))))) (sl_later OP.out (show Later wp _ from (by repeat (first | (with_reducible exact Later.refl _) | (with_reducible exact Hid.out (by assumption)) | (with_reducible refine Later.alloc ?_ _) | (with_reducible refine Later.setCell ?_ (by simp; omega) _) | (with_reducible refine Later.setCell ?_ (by simp) _) | (with_reducible refine Later.drewN ?_ _) | (with_reducible refine Later.drew ?_) | (with_reducible refine Later.trans ?_ (Hid.out (by assumption)))))))).mono ?_; rintro e wq ⟨rfl, hbq⟩; have HQ := Lib.hid hbq; clear hbq))
  all_goals
    refine then_into (fun W => Later w6 W) (show Later w6 _ from (by repeat (first | (with_reducible exact Later.refl _) | (with_reducible exact Hid.out (by assumption)) | (with_reducible refine Later.alloc ?_ _) | (with_reducible refine Later.setCell ?_ (by simp; omega) _) | (with_reducible refine Later.setCell ?_ (by simp) _) | (with_reducible refine Later.drewN ?_ _) | (with_reducible refine Later.drew ?_) | (with_reducible refine Later.trans ?_ (Hid.out (by assumption)))))) ?_
    intro w7 hb
    clear HQ HP OP KS KQ d0 d1 d2 d3
    have K10 := Lib.hid (Held.later K9.out (show Later _ w7 from hb))
    have z7 := Later.size (show Later _ w7 from hb)
    try simp only [World.size_alloc] at z7
    have OW' := Lib.hid (tf_lat OW.out (show Later _ w7 from hb))
    clear OW
    have OW := OW'
    clear OW'
    have OX' := Lib.hid (tf_lat OX.out (show Later _ w7 from hb))
    clear OX
    have OX := OX'
    clear OX'
    have OG' := Lib.hid (tf_lat OG.out (show Later _ w7 from hb))
    clear OG
    have OG := OG'
    clear OG'
    clear hb
    clear K9
    obtain ⟨c0, c1, c2, c3, c4, c5, c6, c7, _⟩ := Held.s8 K10.out
    go_wp2_with fail
    clear c0 c1 c2 c3 c4 c5 c6 c7
    refine (l_markTraffic _ _ _ l _ OX.out (by rw [HL.out]; omega)).mono ?_
    rintro e w8 ⟨rfl, _, hg⟩
    rw [HL.out]
    clear OX
    have K11 := Lib.hid (ht_grown K10.out hg (by intro x hx; simp only [List.mem_cons, List.not_mem_nil, or_false] at hx; rcases hx with rfl | rfl | rfl | rfl | rfl | rfl | rfl | rfl <;> (intro e; have e := Option.some.inj e; (try simp only [] at e); omega)) (by intro k e; have e := Option.some.inj e; (try simp only [] at e); omega))
    have z8 := hg.size
    have OW' := Lib.hid (own_keptT OW.out hg (by intro k hk e; have := bW k hk; have e := Option.some.inj e; (try simp only [] at e); omega))
    clear OW
    have OW := OW'
    clear OW'
    have OG' := Lib.hid (own_keptT OG.out hg (by intro k hk e; have := bG k hk; have e := Option.some.inj e; (try simp only [] at e); omega))
    clear OG
    have OG := OG'
    clear OG'
    clear hg
    clear K10
    obtain ⟨c0, c1, c2, c3, c4, c5, c6, c7, _⟩ := Held.s8 K11.out
    go_wp2_with fail
    clear c0 c1 c2 c3 c4 c5 c6 c7
    refine (l_eqTraffic _ _ _ _ _ _ _ V _ (own_slT OG.out) (own_slT OW.out)).mono ?_
    rintro e w9 ⟨rfl, hb⟩
    have K12 := Lib.hid (Held.later K11.out (show Later _ w9 from hb))
    have z9 := Later.size (show Later _ w9 from hb)
    try simp only [World.size_alloc] at z9
    have OW' := Lib.hid (tf_lat OW.out (show Later _ w9 from hb))
    clear OW
    have OW := OW'
    clear OW'
    have OG' := Lib.hid (tf_lat OG.out (show Later _ w9 from hb))
    clear OG
    have OG := OG'
    clear OG'
    clear hb
    clear K11
    obtain ⟨c0, c1, c2, c3, c4, c5, c6, c7, _⟩ := Held.s8 K12.out
    go_wp2_with fail
    clear c0 c1 c2 c3 c4 c5 c6 c7
    refine (l_markTraffic _ _ _ V _ OG.out (by omega)).mono ?_
    rintro e w10 ⟨rfl, hm, hg⟩
    have OM := Lib.hid hm
    clear hm OG
    have K13 := Lib.hid (ht_grown K12.out hg (by intro x hx; simp only [List.mem_cons, List.not_mem_nil, or_false] at hx; rcases hx with rfl | rfl | rfl | rfl | rfl | rfl | rfl | rfl <;> (intro e; have := bG _ e; (try simp only [] at this); omega)) (by intro k e; have := bG k e; omega))
    have z10 := hg.size
    have OW' := Lib.hid (own_keptT OW.out hg (by intro k hk e; have := bW k hk; have := bG k e; omega))
    clear OW
    have OW := OW'
    clear OW'
    clear hg
    clear K12
    obtain ⟨c0, c1, c2, c3, c4, c5, c6, c7, _⟩ := Held.s8 K13.out
    go_wp2_with fail
    clear c0 c1 c2 c3 c4 c5 c6 c7
    refine (l_heldTraffic _ _ _ V _ OM.out (by omega)).mono ?_
    rintro e w11 ⟨rfl, hb⟩
    have K14 := Lib.hid (Held.later K13.out (show Later _ w11 from hb))
    have z11 := Later.size (show Later _ w11 from hb)
    try simp only [World.size_alloc] at z11
    have OW' := Lib.hid (tf_lat OW.out (show Later _ w11 from hb))
    clear OW
    have OW := OW'
    clear OW'
    have OM' := Lib.hid (tf_lat OM.out (show Later _ w11 from hb))
    clear OM
    have OM := OM'
    clear OM'
    clear hb
    clear K13
    obtain ⟨c0, c1, c2, c3, c4, c5, c6, c7, _⟩ := Held.s8 K14.out
    go_wp2_with fail
    clear c0 c1 c2 c3 c4 c5 c6 c7
    refine (l_toTraffic B a n cap l _ (sl_later HS.out (show Later w _ from K14.out.2)) hle).mono ?_
    rintro e w12 ⟨gV, rfl, _, _, ho, hb⟩
    have HX0 := Lib.hid (own_slT ho)
    clear ho
    have K15 := Lib.hid (Held.later K14.out (show Later _ w12 from hb))
    have z12 := Later.size (show Later _ w12 from hb)
    try simp only [World.size_alloc] at z12
    have OW' := Lib.hid (tf_lat OW.out (show Later _ w12 from hb))
    clear OW
    have OW := OW'
    clear OW'
    have OM' := Lib.hid (tf_lat OM.out (show Later _ w12 from hb))
    clear OM
    have OM := OM'
    clear OM'
    clear hb
    clear K14
    obtain ⟨c0, c1, c2, c3, c4, c5, c6, c7, _⟩ := Held.s8 K15.out
    go_wp2_with fail
    clear c0 c1 c2 c3 c4 c5 c6 c7
    refine (IC.out _ _ _ _ HX0.out).mono ?_
    rintro e w13 ⟨vH, rfl, ho, hb⟩
    obtain ⟨aH, cH, rfl, _, _⟩ := ho.sl
    have OH := Lib.hid ho
    clear ho
    have K16 := Lib.hid (Held.later K15.out (show Later _ w13 from hb))
    have z13 := Later.size (show Later _ w13 from hb)
    try simp only [World.size_alloc] at z13
    have OW' := Lib.hid (tf_lat OW.out (show Later _ w13 from hb))
    clear OW
    have OW := OW'
    clear OW'
    have OM' := Lib.hid (tf_lat OM.out (show Later _ w13 from hb))
    clear OM
    have OM := OM'
    clear OM'
    clear hb
    clear K15
    have K17 := Lib.hid (ht_box2 K16.out (.int .i64 B2) (.slice aH V.length cH) 26)
    clear K16
    have OW' := Lib.hid (OW.out.alloc (.cells #[.int .i64 B2, .slice aH V.length cH] 26))
    clear OW
    have OW := OW'
    clear OW'
    have OM' := Lib.hid (OM.out.alloc (.cells #[.int .i64 B2, .slice aH V.length cH] 26))
    clear OM
    have OM := OM'
    clear OM'
    have OH' := Lib.hid (OH.out.alloc (.cells #[.int .i64 B2, .slice aH V.length cH] 26))
    clear OH
    have OH := OH'
    clear OH'
    obtain ⟨c0, c1, c2, c3, c4, c5, c6, c7, c8, c9, _⟩ := Held.s10 K17.out
    go_wp2_with fail
    clear c0 c1 c2 c3 c4 c5 c6 c7 c8 c9
    refine (l_eqTraffic _ _ _ _ _ _ _ V _ (own_slT OH.out) (own_slT OW.out)).mono ?_
    rintro e w14 ⟨rfl, hb⟩
    have K18 := Lib.hid (Held.later K17.out (show Later _ w14 from hb))
    have z14 := Later.size (show Later _ w14 from hb)
    try simp only [World.size_alloc] at z14
    have OW' := Lib.hid (tf_lat OW.out (show Later _ w14 from hb))
    clear OW
    have OW := OW'
    clear OW'
    have OM' := Lib.hid (tf_lat OM.out (show Later _ w14 from hb))
    clear OM
    have OM := OM'
    clear OM'
    have OH' := Lib.hid (tf_lat OH.out (show Later _ w14 from hb))
    clear OH
    have OH := OH'
    clear OH'
    clear hb
    clear K17
    obtain ⟨c0, c1, c2, c3, c4, c5, c6, c7, c8, c9, _⟩ := Held.s10 K18.out
    go_wp2_with fail
    clear c0 c1 c2 c3 c4 c5 c6 c7 c8 c9
    refine (l_heldTraffic _ _ _ V _ OM.out (by omega)).mono ?_
    rintro e w15 ⟨rfl, hb⟩
    have K19 := Lib.hid (Held.later K18.out (show Later _ w15 from hb))
    have z15 := Later.size (show Later _ w15 from hb)
    try simp only [World.size_alloc] at z15
    have OW' := Lib.hid (tf_lat OW.out (show Later _ w15 from hb))
    clear OW
    have OW := OW'
    clear OW'
    have OM' := Lib.hid (tf_lat OM.out (show Later _ w15 from hb))
    clear OM
    have OM := OM'
    clear OM'
    have OH' := Lib.hid (tf_lat OH.out (show Later _ w15 from hb))
    clear OH
    have OH := OH'
    clear OH'
    clear hb
    clear K18
    obtain ⟨c0, c1, c2, c3, c4, c5, c6, c7, c8, c9, _⟩ := Held.s10 K19.out
    go_wp2_with fail
    go_ret
    exact ⟨rfl, K19.out.2⟩
set_option maxRecDepth 100000 in
theorem walk_FnExactAllowedMoves (B : Int) (a : Option Addr) (n cap : Nat) (l : List Int) (w : World) (hB : InR B) (hcap : n ≤ cap) (hs : Sl w a n l) :
    Calls Try.prog 14 #[.agg #[.int .i64 B, .slice a n cap]] w fun e w' => e = .returned (.bool true) ∧ Later w w' := by
  have HS := Lib.hid hs
  have hn := hs.2.1
  have HL := Lib.hid hs.1
  clear hs
  by_cases hbig : 1048576 < n
  · have hz := Lib.hid (szT_big hbig)
    go_enter Try.func14, Try.ntmps14
    go_wp2_with (go_at_call 68; refine (l_szTraffic _ _ _ _ _ hn).mono ?_; rw [hz.out]; rintro e w1 ⟨rfl, hb⟩; have H := Lib.hid hb; clear hb)
    go_ret
    exact ⟨rfl, (by repeat (first | (with_reducible exact Later.refl _) | (with_reducible exact Hid.out (by assumption)) | (with_reducible refine Later.alloc ?_ _) | (with_reducible refine Later.setCell ?_ (by simp; omega) _) | (with_reducible refine Later.setCell ?_ (by simp) _) | (with_reducible refine Later.drewN ?_ _) | (with_reducible refine Later.drew ?_) | (with_reducible refine Later.trans ?_ (Hid.out (by assumption)))))⟩
  have hle : n ≤ 1048576 := by omega
  have hz := Lib.hid (szT_ok hle)
  clear hbig
  obtain ⟨V, E, SC, IC, hVl⟩ : ∃ (V : List Int) (E : Int), Hid (∀ (a' : Option Addr) (m c : Nat) (W : World), Sl W a' m l → Calls Try.prog 27 #[.agg #[.int .i64 B, .slice a' m c]] W (LstC W V E)) ∧ Hid (∀ (a' : Option Addr) (m c : Nat) (W : World), Sl W a' m l → Calls Try.prog 26 #[.agg #[.int .i64 B, .slice a' m c]] W (LstC W V E)) ∧ V.length ≤ 1000 := ⟨awV B l, awE B l, Lib.hid (fun a' m c W h => s_AllowedMoves B a' m c l W h), Lib.hid (fun a' m c W h => i_AllowedMoves B a' m c l W h), awV_le B l⟩
  have e0 : (E != E) = false := by simp
  go_enter Try.func14, Try.ntmps14
  go_wp2_with fail
  have K0 : Hid (Held [(w.heap.size, 0, .int .i64 B), (w.heap.size, 1, .slice a n cap)] w (w.alloc (.cells #[.int .i64 B, .slice a n cap] 66))) := Lib.hid (ht_box2 (held_none w) _ _ _)
  refine (l_szTraffic B a n cap _ hn).mono ?_
  rw [hz.out]
  rintro e w1 ⟨rfl, hb⟩
  have K1 := Lib.hid (Held.later K0.out (show Later _ w1 from hb))
  have z1 := Later.size (show Later _ w1 from hb)
  try simp only [World.size_alloc] at z1
  clear hb
  clear K0
  obtain ⟨c0, c1, _⟩ := Held.s2 K1.out
  go_wp2_with fail
  clear c0 c1
  refine (l_toTraffic B a n cap l _ (sl_later HS.out (show Later w _ from K1.out.2)) hle).mono ?_
  rintro e w2 ⟨gW, rfl, _, _, ho, hb⟩
  have HX0 := Lib.hid (own_slT ho)
  clear ho
  have K2 := Lib.hid (Held.later K1.out (show Later _ w2 from hb))
  have z2 := Later.size (show Later _ w2 from hb)
  try simp only [World.size_alloc] at z2
  clear hb
  clear K1
  obtain ⟨c0, c1, _⟩ := Held.s2 K2.out
  go_wp2_with fail
  clear c0 c1
  refine (SC.out _ _ _ _ HX0.out).mono ?_
  rintro e w3 ⟨vW, rfl, ho, hb⟩
  obtain ⟨aW, cW, rfl, _, _⟩ := ho.sl
  have bW := ho.lt
  have OW := Lib.hid ho
  clear ho
  have K3 := Lib.hid (Held.later K2.out (show Later _ w3 from hb))
  have z3 := Later.size (show Later _ w3 from hb)
  try simp only [World.size_alloc] at z3
  clear hb
  clear K2
  obtain ⟨bWlo, hbWlo⟩ : ∃ x, x = w2.heap.size := ⟨_, rfl⟩
  rw [← hbWlo] at bW OW
  obtain ⟨c0, c1, _⟩ := Held.s2 K3.out
  go_wp2_with fail
  clear c0 c1
  refine (l_toTraffic B a n cap l _ (sl_later HS.out (show Later w _ from K3.out.2)) hle).mono ?_
  rintro e w4 ⟨gX, rfl, hgX, hgX2, ho, hb⟩
  try simp only [World.size_alloc] at hgX
  have OX := Lib.hid ho
  clear ho
  have K4 := Lib.hid (Held.later K3.out (show Later _ w4 from hb))
  have z4 := Later.size (show Later _ w4 from hb)
  try simp only [World.size_alloc] at z4
  have OW' := Lib.hid (tf_lat OW.out (show Later _ w4 from hb))
  clear OW
  have OW := OW'
  clear OW'
  clear hb
  clear K3
  have K5 := Lib.hid (ht_box2 K4.out (.int .i64 B) (.slice (some ⟨gX, 0, none⟩) n n) 26)
  clear K4
  have OW' := Lib.hid (OW.out.alloc (.cells #[.int .i64 B, .slice (some ⟨gX, 0, none⟩) n n] 26))
  clear OW
  have OW := OW'
  clear OW'
  have OX' := Lib.hid (OX.out.alloc (.cells #[.int .i64 B, .slice (some ⟨gX, 0, none⟩) n n] 26))
  clear OX
  have OX := OX'
  clear OX'
  obtain ⟨c0, c1, c2, c3, _⟩ := Held.s4 K5.out
  go_wp2_with fail
  clear c0 c1 c2 c3
  refine (IC.out _ _ _ _ (own_slT OX.out)).mono ?_
  rintro e w5 ⟨vG, rfl, ho, hb⟩
  try simp only [World.size_alloc] at ho
  obtain ⟨aG, cG, rfl, _, _⟩ := ho.sl
  have bG := ho.lt
  have OG := Lib.hid ho
  clear ho
  have K6 := Lib.hid (Held.later K5.out (show Later _ w5 from hb))
  have z5 := Later.size (show Later _ w5 from hb)
  try simp only [World.size_alloc] at z5
  have OW' := Lib.hid (tf_lat OW.out (show Later _ w5 from hb))
  clear OW
  have OW := OW'
  clear OW'
  have OX' := Lib.hid (tf_lat OX.out (show Later _ w5 from hb))
  clear OX
  have OX := OX'
  clear OX'
  clear hb
  clear K5
  obtain ⟨c0, c1, c2, c3, _⟩ := Held.s4 K6.out
  go_wp2_with fail
  clear c0 c1 c2 c3
  refine (l_eqIT _ _ _ _ _ _ V _ (own_slT OG.out) (own_slT OW.out)).mono ?_
  rintro e w6 ⟨rfl, hb⟩
  have K7 := Lib.hid (Held.later K6.out (show Later _ w6 from hb))
  have z6 := Later.size (show Later _ w6 from hb)
  try simp only [World.size_alloc] at z6
  have OW' := Lib.hid (tf_lat OW.out (show Later _ w6 from hb))
  clear OW
  have OW := OW'
  clear OW'
  have OX' := Lib.hid (tf_lat OX.out (show Later _ w6 from hb))
  clear OX
  have OX := OX'
  clear OX'
  have OG' := Lib.hid (tf_lat OG.out (show Later _ w6 from hb))
  clear OG
  have OG := OG'
  clear OG'
  clear hb
  clear K6
  obtain ⟨c0, c1, c2, c3, _⟩ := Held.s4 K7.out
  go_wp2_with fail
  clear c0 c1 c2 c3
  obtain ⟨wz, hwz⟩ : ∃ wz, wz = w6 := ⟨_, rfl⟩
  clear hwz wz
  have KQ : Hid (∀ W', Later w6 W' → Held [(w4.heap.size, 0, .int .i64 B), (w4.heap.size, 1, .slice (some ⟨gX, 0, none⟩) n n), (w.heap.size, 0, .int .i64 B), (w.heap.size, 1, .slice a n cap)] w W') := Lib.hid (fun W' h => K7.out.later h)
  have KS : Hid (∀ W', Later w6 W' → W'.cell? ⟨w4.heap.size, 0, none⟩ = some (.int .i64 B) ∧ W'.cell? ⟨w4.heap.size, 1, none⟩ = some (.slice (some ⟨gX, 0, none⟩) n n) ∧ W'.cell? ⟨w.heap.size, 0, none⟩ = some (.int .i64 B) ∧ W'.cell? ⟨w.heap.size, 1, none⟩ = some (.slice a n cap)) := Lib.hid (fun W' h => by obtain ⟨d0, d1, d2, d3, _⟩ := Held.s4 (KQ.out W' h); exact ⟨d0, d1, d2, d3⟩)
  obtain ⟨d0, d1, d2, d3⟩ := KS.out w6 (Later.refl _)
  go_region_held3 (fun w' => w'.cell? ⟨w4.heap.size, 0, none⟩ = some (.int .i64 B) ∧ w'.cell? ⟨w4.heap.size, 1, none⟩ = some (.slice (some ⟨gX, 0, none⟩) n n) ∧ w'.cell? ⟨w.heap.size, 0, none⟩ = some (.int .i64 B) ∧ w'.cell? ⟨w.heap.size, 1, none⟩ = some (.slice a n cap)) (first | (refine KS.out _ ?_; ((repeat (first | (with_reducible exact Later.refl _) | (with_reducible exact Hid.out (by assumption)) | (with_reducible refine Later.alloc ?_ _) | (with_reducible refine Later.setCell ?_ (by simp; omega) _) | (with_reducible refine Later.setCell ?_ (by simp) _) | (with_reducible refine Later.drewN ?_ _) | (with_reducible refine Later.drew ?_) | (with_reducible refine Later.trans ?_ (Hid.out (by assumption))))); done)))
    (first
      | (go_at_call 69; refine (l_toTraffic B a n cap l _ (sl_later HS.out (show Later w _ from (KQ.out _ (show Later w6 _ from (by repeat (first | (with_reducible exact Later.refl _) | (with_reducible exact Hid.out (by assumption)) | (with_reducible refine Later.alloc ?_ _) | (with_reducible refine Later.setCell ?_ (by simp; omega) _) | (with_reducible refine Later.setCell ?_ (by simp) _) | (with_reducible refine Later.drewN ?_ _) | (with_reducible refine Later.drew ?_) | (with_reducible refine Later.trans ?_ (Hid.out (by assumption))))))).2)) hle).mono ?_; rintro e wp ⟨gP, rfl, _, _, hop, hbp⟩; have HP := Lib.hid hbp; have OP := Lib.hid (own_slT hop); clear hbp hop)
      | (go_at_call 70; refine (l_eqTraffic _ _ _ _ _ _ _ l _ (sl_later (own_slT OX.out) (show Later w6 _ from (by repeat (first | (with_reducible exact Later.refl _) | (with_reducible exact Hid.out (by assumption)) | (with_reducible refine Later.alloc ?_ _) | (with_reducible refine Later.setCell ?_ (by simp; omega) _) | (with_reducible refine Later.setCell ?_ (by simp) _) | (with_reducible refine Later.drewN ?_ _) | (with_reducible refine Later.drew ?_) | (with_reducible refine Later.trans ?_ (Hid.out (by assumption))))))) (sl_later OP.out (show Later wp _ from (by repeat (first | (with_reducible exact Later.refl _) | (with_reducible exact Hid.out (by assumption)) | (with_reducible refine Later.alloc ?_ _) | (with_reducible refine Later.setCell ?_ (by simp; omega) _) | (with_reducible refine Later.setCell ?_ (by simp) _) | (with_reducible refine Later.drewN ?_ _) | (with_reducible refine Later.drew ?_) | (with_reducible refine Later.trans ?_ (Hid.out (by assumption)))))))).mono ?_; rintro e wq ⟨rfl, hbq⟩; have HQ := Lib.hid hbq; clear hbq))
  all_goals
    refine then_into (fun W => Later w6 W) (show Later w6 _ from (by repeat (first | (with_reducible exact Later.refl _) | (with_reducible exact Hid.out (by assumption)) | (with_reducible refine Later.alloc ?_ _) | (with_reducible refine Later.setCell ?_ (by simp; omega) _) | (with_reducible refine Later.setCell ?_ (by simp) _) | (with_reducible refine Later.drewN ?_ _) | (with_reducible refine Later.drew ?_) | (with_reducible refine Later.trans ?_ (Hid.out (by assumption)))))) ?_
    intro w7 hb
    clear HQ HP OP KS KQ d0 d1 d2 d3
    have K8 := Lib.hid (Held.later K7.out (show Later _ w7 from hb))
    have z7 := Later.size (show Later _ w7 from hb)
    try simp only [World.size_alloc] at z7
    have OW' := Lib.hid (tf_lat OW.out (show Later _ w7 from hb))
    clear OW
    have OW := OW'
    clear OW'
    have OX' := Lib.hid (tf_lat OX.out (show Later _ w7 from hb))
    clear OX
    have OX := OX'
    clear OX'
    have OG' := Lib.hid (tf_lat OG.out (show Later _ w7 from hb))
    clear OG
    have OG := OG'
    clear OG'
    clear hb
    clear K7
    obtain ⟨c0, c1, c2, c3, _⟩ := Held.s4 K8.out
    go_wp2_with fail
    clear c0 c1 c2 c3
    refine (l_markTraffic _ _ _ l _ OX.out (by rw [HL.out]; omega)).mono ?_
    rintro e w8 ⟨rfl, _, hg⟩
    rw [HL.out]
    clear OX
    have K9 := Lib.hid (ht_grown K8.out hg (by intro x hx; simp only [List.mem_cons, List.not_mem_nil, or_false] at hx; rcases hx with rfl | rfl | rfl | rfl <;> (intro e; have e := Option.some.inj e; (try simp only [] at e); omega)) (by intro k e; have e := Option.some.inj e; (try simp only [] at e); omega))
    have z8 := hg.size
    have OW' := Lib.hid (own_keptT OW.out hg (by intro k hk e; have := bW k hk; have e := Option.some.inj e; (try simp only [] at e); omega))
    clear OW
    have OW := OW'
    clear OW'
    have OG' := Lib.hid (own_keptT OG.out hg (by intro k hk e; have := bG k hk; have e := Option.some.inj e; (try simp only [] at e); omega))
    clear OG
    have OG := OG'
    clear OG'
    clear hg
    clear K8
    obtain ⟨c0, c1, c2, c3, _⟩ := Held.s4 K9.out
    go_wp2_with fail
    clear c0 c1 c2 c3
    refine (l_eqIT _ _ _ _ _ _ V _ (own_slT OG.out) (own_slT OW.out)).mono ?_
    rintro e w9 ⟨rfl, hb⟩
    have K10 := Lib.hid (Held.later K9.out (show Later _ w9 from hb))
    have z9 := Later.size (show Later _ w9 from hb)
    try simp only [World.size_alloc] at z9
    have OW' := Lib.hid (tf_lat OW.out (show Later _ w9 from hb))
    clear OW
    have OW := OW'
    clear OW'
    have OG' := Lib.hid (tf_lat OG.out (show Later _ w9 from hb))
    clear OG
    have OG := OG'
    clear OG'
    clear hb
    clear K9
    obtain ⟨c0, c1, c2, c3, _⟩ := Held.s4 K10.out
    go_wp2_with fail
    clear c0 c1 c2 c3
    refine (l_markInt64S _ _ V _ OG.out (by omega)).mono ?_
    rintro e w10 ⟨rfl, hm, hg⟩
    have OM := Lib.hid hm
    clear hm OG
    have K11 := Lib.hid (ht_grown K10.out hg (by intro x hx; simp only [List.mem_cons, List.not_mem_nil, or_false] at hx; rcases hx with rfl | rfl | rfl | rfl <;> (intro e; have := bG _ e; (try simp only [] at this); omega)) (by intro k e; have := bG k e; omega))
    have z10 := hg.size
    have OW' := Lib.hid (own_keptT OW.out hg (by intro k hk e; have := bW k hk; have := bG k e; omega))
    clear OW
    have OW := OW'
    clear OW'
    clear hg
    clear K10
    obtain ⟨c0, c1, c2, c3, _⟩ := Held.s4 K11.out
    go_wp2_with fail
    clear c0 c1 c2 c3
    refine (l_heldInt64S _ _ V _ OM.out (by omega)).mono ?_
    rintro e w' ⟨rfl, rfl⟩
    obtain ⟨c0, c1, c2, c3, _⟩ := Held.s4 K11.out
    go_wp2_with fail
    clear c0 c1 c2 c3
    refine (l_toTraffic B a n cap l _ (sl_later HS.out (show Later w _ from K11.out.2)) hle).mono ?_
    rintro e w11 ⟨gV, rfl, _, _, ho, hb⟩
    have HX0 := Lib.hid (own_slT ho)
    clear ho
    have K12 := Lib.hid (Held.later K11.out (show Later _ w11 from hb))
    have z11 := Later.size (show Later _ w11 from hb)
    try simp only [World.size_alloc] at z11
    have OW' := Lib.hid (tf_lat OW.out (show Later _ w11 from hb))
    clear OW
    have OW := OW'
    clear OW'
    have OM' := Lib.hid (tf_lat OM.out (show Later _ w11 from hb))
    clear OM
    have OM := OM'
    clear OM'
    clear hb
    clear K11
    obtain ⟨c0, c1, c2, c3, _⟩ := Held.s4 K12.out
    go_wp2_with fail
    clear c0 c1 c2 c3
    refine (IC.out _ _ _ _ HX0.out).mono ?_
    rintro e w12 ⟨vH, rfl, ho, hb⟩
    obtain ⟨aH, cH, rfl, _, _⟩ := ho.sl
    have OH := Lib.hid ho
    clear ho
    have K13 := Lib.hid (Held.later K12.out (show Later _ w12 from hb))
    have z12 := Later.size (show Later _ w12 from hb)
    try simp only [World.size_alloc] at z12
    have OW' := Lib.hid (tf_lat OW.out (show Later _ w12 from hb))
    clear OW
    have OW := OW'
    clear OW'
    have OM' := Lib.hid (tf_lat OM.out (show Later _ w12 from hb))
    clear OM
    have OM := OM'
    clear OM'
    clear hb
    clear K12
    obtain ⟨c0, c1, c2, c3, _⟩ := Held.s4 K13.out
    go_wp2_with fail
    clear c0 c1 c2 c3
    refine (l_eqIT _ _ _ _ _ _ V _ (own_slT OH.out) (own_slT OW.out)).mono ?_
    rintro e w13 ⟨rfl, hb⟩
    have K14 := Lib.hid (Held.later K13.out (show Later _ w13 from hb))
    have z13 := Later.size (show Later _ w13 from hb)
    try simp only [World.size_alloc] at z13
    have OW' := Lib.hid (tf_lat OW.out (show Later _ w13 from hb))
    clear OW
    have OW := OW'
    clear OW'
    have OM' := Lib.hid (tf_lat OM.out (show Later _ w13 from hb))
    clear OM
    have OM := OM'
    clear OM'
    have OH' := Lib.hid (tf_lat OH.out (show Later _ w13 from hb))
    clear OH
    have OH := OH'
    clear OH'
    clear hb
    clear K13
    obtain ⟨c0, c1, c2, c3, _⟩ := Held.s4 K14.out
    go_wp2_with fail
    clear c0 c1 c2 c3
    refine (l_heldInt64S _ _ V _ OM.out (by omega)).mono ?_
    rintro e w' ⟨rfl, rfl⟩
    obtain ⟨c0, c1, c2, c3, _⟩ := Held.s4 K14.out
    go_wp2_with fail
    go_ret
    exact ⟨rfl, K14.out.2⟩
set_option maxRecDepth 100000 in
theorem walk_FnExactRunMoves (B : Int) (a : Option Addr) (n cap : Nat) (l : List Int) (ta : Option Addr) (tn tc : Nat) (zs : List Int) (w : World) (hB : InR B) (hcap : n ≤ cap) (hs : Sl w a n l) (ht : IsRow .i64 w ta tn tc zs) :
    Calls Try.prog 15 #[.agg #[.int .i64 B, .slice a n cap], .slice ta tn tc] w fun e w' => e = .returned (.bool true) ∧ Later w w' := by
  have HS := Lib.hid hs
  have hn := hs.2.1
  have HL := Lib.hid hs.1
  clear hs
  obtain ⟨ts, hts⟩ : ∃ ts, ts = zs.take tn := ⟨_, rfl⟩
  have HT : Hid (Sl w ta tn ts) := Lib.hid (by rw [hts]; exact isRow_sl ht)
  have htn := HT.out.2.1
  clear ht hts
  by_cases hbt : 1048576 < tn
  · go_enter Try.func15, Try.ntmps15
    go_wp2_with fail
    go_ret
    exact ⟨rfl, (by repeat (first | (with_reducible exact Later.refl _) | (with_reducible exact Hid.out (by assumption)) | (with_reducible refine Later.alloc ?_ _) | (with_reducible refine Later.setCell ?_ (by simp; omega) _) | (with_reducible refine Later.setCell ?_ (by simp) _) | (with_reducible refine Later.drewN ?_ _) | (with_reducible refine Later.drew ?_) | (with_reducible refine Later.trans ?_ (Hid.out (by assumption)))))⟩
  have htl : tn ≤ 1048576 := by omega
  clear hbt
  by_cases hbig : 1048576 < n
  · have hz := Lib.hid (szT_big hbig)
    go_enter Try.func15, Try.ntmps15
    go_wp2_with (go_at_call 68; refine (l_szTraffic _ _ _ _ _ hn).mono ?_; rw [hz.out]; rintro e w1 ⟨rfl, hb⟩; have H := Lib.hid hb; clear hb)
    go_ret
    exact ⟨rfl, (by repeat (first | (with_reducible exact Later.refl _) | (with_reducible exact Hid.out (by assumption)) | (with_reducible refine Later.alloc ?_ _) | (with_reducible refine Later.setCell ?_ (by simp; omega) _) | (with_reducible refine Later.setCell ?_ (by simp) _) | (with_reducible refine Later.drewN ?_ _) | (with_reducible refine Later.drew ?_) | (with_reducible refine Later.trans ?_ (Hid.out (by assumption)))))⟩
  have hle : n ≤ 1048576 := by omega
  have hz := Lib.hid (szT_ok hle)
  clear hbig
  obtain ⟨V, E, B2, SC, IC, hVl⟩ : ∃ (V : List Int) (E B2 : Int), Hid (∀ (a' : Option Addr) (m c : Nat) (t' : Option Addr) (m' c' : Nat) (W : World), Sl W a' m l → Sl W t' m' ts → Calls Try.prog 44 #[.agg #[.int .i64 B, .slice a' m c], .slice t' m' c'] W (NewTC W B2 V E)) ∧ Hid (∀ (a' : Option Addr) (m c : Nat) (t' : Option Addr) (m' c' : Nat) (W : World), Sl W a' m l → Sl W t' m' ts → Calls Try.prog 43 #[.agg #[.int .i64 B, .slice a' m c], .slice t' m' c'] W (NewTC W B2 V E)) ∧ V.length ≤ 1000 := ⟨rvV B l ts, rnE B l ts, rvB B l ts, Lib.hid (fun a' m c t' m' c' W h h2 => s_RunMoves B a' m c l t' m' c' ts W h h2), Lib.hid (fun a' m c t' m' c' W h h2 => i_RunMoves B a' m c l t' m' c' ts W h h2), rvV_le B l ts⟩
  have e0 : (E != E) = false := by simp
  go_enter Try.func15, Try.ntmps15
  go_wp2_with fail
  have K0 : Hid (Held [(w.heap.size, 0, .int .i64 B), (w.heap.size, 1, .slice a n cap)] w (w.alloc (.cells #[.int .i64 B, .slice a n cap] 66))) := Lib.hid (ht_box2 (held_none w) _ _ _)
  refine (l_szTraffic B a n cap _ hn).mono ?_
  rw [hz.out]
  rintro e w1 ⟨rfl, hb⟩
  have K1 := Lib.hid (Held.later K0.out (show Later _ w1 from hb))
  have z1 := Later.size (show Later _ w1 from hb)
  try simp only [World.size_alloc] at z1
  clear hb
  clear K0
  obtain ⟨c0, c1, _⟩ := Held.s2 K1.out
  go_wp2_with fail
  clear c0 c1
  refine (l_toTraffic B a n cap l _ (sl_later HS.out (show Later w _ from K1.out.2)) hle).mono ?_
  rintro e w2 ⟨gW, rfl, _, _, ho, hb⟩
  have HX0 := Lib.hid (own_slT ho)
  clear ho
  have K2 := Lib.hid (Held.later K1.out (show Later _ w2 from hb))
  have z2 := Later.size (show Later _ w2 from hb)
  try simp only [World.size_alloc] at z2
  clear hb
  clear K1
  obtain ⟨c0, c1, _⟩ := Held.s2 K2.out
  go_wp2_with fail
  clear c0 c1
  refine (l_toInt64O ta tn tc ts _ (sl_later HT.out (show Later w _ from K2.out.2)) htl).mono ?_
  rintro e w3 ⟨gT, rfl, _, _, ho, hb⟩
  have HX1 := Lib.hid (own_slT ho)
  have HX0' := Lib.hid (sl_later HX0.out (show Later _ w3 from hb))
  clear ho HX0
  have HX0 := HX0'
  clear HX0'
  have K3 := Lib.hid (Held.later K2.out (show Later _ w3 from hb))
  have z3 := Later.size (show Later _ w3 from hb)
  try simp only [World.size_alloc] at z3
  clear hb
  clear K2
  obtain ⟨c0, c1, _⟩ := Held.s2 K3.out
  go_wp2_with fail
  clear c0 c1
  refine (SC.out _ _ _ _ _ _ _ HX0.out HX1.out).mono ?_
  rintro e w4 ⟨vW, rfl, ho, hb⟩
  obtain ⟨aW, cW, rfl, _, _⟩ := ho.sl
  have bW := ho.lt
  have OW := Lib.hid ho
  clear ho
  have K4 := Lib.hid (Held.later K3.out (show Later _ w4 from hb))
  have z4 := Later.size (show Later _ w4 from hb)
  try simp only [World.size_alloc] at z4
  clear hb
  clear K3
  obtain ⟨bWlo, hbWlo⟩ : ∃ x, x = w3.heap.size := ⟨_, rfl⟩
  rw [← hbWlo] at bW OW
  have K5 := Lib.hid (ht_box2 K4.out (.int .i64 B2) (.slice aW V.length cW) 26)
  clear K4
  have OW' := Lib.hid (OW.out.alloc (.cells #[.int .i64 B2, .slice aW V.length cW] 26))
  clear OW
  have OW := OW'
  clear OW'
  obtain ⟨_, _, c0, c1, _⟩ := Held.s4 K5.out
  go_wp2_with fail
  clear c0 c1
  refine (l_toTraffic B a n cap l _ (sl_later HS.out (show Later w _ from K5.out.2)) hle).mono ?_
  rintro e w5 ⟨gX, rfl, hgX, hgX2, ho, hb⟩
  try simp only [World.size_alloc] at hgX
  have OX := Lib.hid ho
  clear ho
  have K6 := Lib.hid (Held.later K5.out (show Later _ w5 from hb))
  have z5 := Later.size (show Later _ w5 from hb)
  try simp only [World.size_alloc] at z5
  have OW' := Lib.hid (tf_lat OW.out (show Later _ w5 from hb))
  clear OW
  have OW := OW'
  clear OW'
  clear hb
  clear K5
  have K7 := Lib.hid (ht_box2 K6.out (.int .i64 B) (.slice (some ⟨gX, 0, none⟩) n n) 26)
  clear K6
  have OW' := Lib.hid (OW.out.alloc (.cells #[.int .i64 B, .slice (some ⟨gX, 0, none⟩) n n] 26))
  clear OW
  have OW := OW'
  clear OW'
  have OX' := Lib.hid (OX.out.alloc (.cells #[.int .i64 B, .slice (some ⟨gX, 0, none⟩) n n] 26))
  clear OX
  have OX := OX'
  clear OX'
  obtain ⟨c0, c1, c2, c3, c4, c5, _⟩ := Held.s6 K7.out
  go_wp2_with fail
  clear c0 c1 c2 c3 c4 c5
  refine (l_toInt64O ta tn tc ts _ (sl_later HT.out (show Later w _ from K7.out.2)) htl).mono ?_
  rintro e w6 ⟨gY, rfl, hgY, hgY2, ho, hb⟩
  try simp only [World.size_alloc] at hgY
  have OY := Lib.hid ho
  clear ho
  have K8 := Lib.hid (Held.later K7.out (show Later _ w6 from hb))
  have z6 := Later.size (show Later _ w6 from hb)
  try simp only [World.size_alloc] at z6
  have OW' := Lib.hid (tf_lat OW.out (show Later _ w6 from hb))
  clear OW
  have OW := OW'
  clear OW'
  have OX' := Lib.hid (tf_lat OX.out (show Later _ w6 from hb))
  clear OX
  have OX := OX'
  clear OX'
  clear hb
  clear K7
  obtain ⟨c0, c1, c2, c3, c4, c5, _⟩ := Held.s6 K8.out
  go_wp2_with fail
  clear c0 c1 c2 c3 c4 c5
  refine (IC.out _ _ _ _ _ _ _ (own_slT OX.out) (own_slT OY.out)).mono ?_
  rintro e w7 ⟨vG, rfl, ho, hb⟩
  try simp only [World.size_alloc] at ho
  obtain ⟨aG, cG, rfl, _, _⟩ := ho.sl
  have bG := ho.lt
  have OG := Lib.hid ho
  clear ho
  have K9 := Lib.hid (Held.later K8.out (show Later _ w7 from hb))
  have z7 := Later.size (show Later _ w7 from hb)
  try simp only [World.size_alloc] at z7
  have OW' := Lib.hid (tf_lat OW.out (show Later _ w7 from hb))
  clear OW
  have OW := OW'
  clear OW'
  have OX' := Lib.hid (tf_lat OX.out (show Later _ w7 from hb))
  clear OX
  have OX := OX'
  clear OX'
  have OY' := Lib.hid (tf_lat OY.out (show Later _ w7 from hb))
  clear OY
  have OY := OY'
  clear OY'
  clear hb
  clear K8
  have K10 := Lib.hid (ht_box2 K9.out (.int .i64 B2) (.slice aG V.length cG) 26)
  clear K9
  have OW' := Lib.hid (OW.out.alloc (.cells #[.int .i64 B2, .slice aG V.length cG] 26))
  clear OW
  have OW := OW'
  clear OW'
  have OX' := Lib.hid (OX.out.alloc (.cells #[.int .i64 B2, .slice aG V.length cG] 26))
  clear OX
  have OX := OX'
  clear OX'
  have OY' := Lib.hid (OY.out.alloc (.cells #[.int .i64 B2, .slice aG V.length cG] 26))
  clear OY
  have OY := OY'
  clear OY'
  have OG' := Lib.hid (OG.out.alloc (.cells #[.int .i64 B2, .slice aG V.length cG] 26))
  clear OG
  have OG := OG'
  clear OG'
  obtain ⟨c0, c1, c2, c3, c4, c5, c6, c7, _⟩ := Held.s8 K10.out
  go_wp2_with fail
  clear c0 c1 c2 c3 c4 c5 c6 c7
  refine (l_eqTraffic _ _ _ _ _ _ _ V _ (own_slT OG.out) (own_slT OW.out)).mono ?_
  rintro e w8 ⟨rfl, hb⟩
  have K11 := Lib.hid (Held.later K10.out (show Later _ w8 from hb))
  have z8 := Later.size (show Later _ w8 from hb)
  try simp only [World.size_alloc] at z8
  have OW' := Lib.hid (tf_lat OW.out (show Later _ w8 from hb))
  clear OW
  have OW := OW'
  clear OW'
  have OX' := Lib.hid (tf_lat OX.out (show Later _ w8 from hb))
  clear OX
  have OX := OX'
  clear OX'
  have OY' := Lib.hid (tf_lat OY.out (show Later _ w8 from hb))
  clear OY
  have OY := OY'
  clear OY'
  have OG' := Lib.hid (tf_lat OG.out (show Later _ w8 from hb))
  clear OG
  have OG := OG'
  clear OG'
  clear hb
  clear K10
  obtain ⟨c0, c1, c2, c3, c4, c5, c6, c7, _⟩ := Held.s8 K11.out
  go_wp2_with fail
  clear c0 c1 c2 c3 c4 c5 c6 c7
  obtain ⟨wz, hwz⟩ : ∃ wz, wz = w8 := ⟨_, rfl⟩
  clear hwz wz
  have KQ : Hid (∀ W', Later w8 W' → Held [(w7.heap.size, 0, .int .i64 B2), (w7.heap.size, 1, .slice aG V.length cG), (w5.heap.size, 0, .int .i64 B), (w5.heap.size, 1, .slice (some ⟨gX, 0, none⟩) n n), (w4.heap.size, 0, .int .i64 B2), (w4.heap.size, 1, .slice aW V.length cW), (w.heap.size, 0, .int .i64 B), (w.heap.size, 1, .slice a n cap)] w W') := Lib.hid (fun W' h => K11.out.later h)
  have KS : Hid (∀ W', Later w8 W' → W'.cell? ⟨w5.heap.size, 0, none⟩ = some (.int .i64 B) ∧ W'.cell? ⟨w5.heap.size, 1, none⟩ = some (.slice (some ⟨gX, 0, none⟩) n n) ∧ W'.cell? ⟨w.heap.size, 0, none⟩ = some (.int .i64 B) ∧ W'.cell? ⟨w.heap.size, 1, none⟩ = some (.slice a n cap)) := Lib.hid (fun W' h => by obtain ⟨_, _, d0, d1, _, _, d2, d3, _⟩ := Held.s8 (KQ.out W' h); exact ⟨d0, d1, d2, d3⟩)
  obtain ⟨d0, d1, d2, d3⟩ := KS.out w8 (Later.refl _)
  go_region_held3 (fun w' => w'.cell? ⟨w5.heap.size, 0, none⟩ = some (.int .i64 B) ∧ w'.cell? ⟨w5.heap.size, 1, none⟩ = some (.slice (some ⟨gX, 0, none⟩) n n) ∧ w'.cell? ⟨w.heap.size, 0, none⟩ = some (.int .i64 B) ∧ w'.cell? ⟨w.heap.size, 1, none⟩ = some (.slice a n cap)) (first | (refine KS.out _ ?_; ((repeat (first | (with_reducible exact Later.refl _) | (with_reducible exact Hid.out (by assumption)) | (with_reducible refine Later.alloc ?_ _) | (with_reducible refine Later.setCell ?_ (by simp; omega) _) | (with_reducible refine Later.setCell ?_ (by simp) _) | (with_reducible refine Later.drewN ?_ _) | (with_reducible refine Later.drew ?_) | (with_reducible refine Later.trans ?_ (Hid.out (by assumption))))); done)))
    (first
      | (go_at_call 69; refine (l_toTraffic B a n cap l _ (sl_later HS.out (show Later w _ from (KQ.out _ (show Later w8 _ from (by repeat (first | (with_reducible exact Later.refl _) | (with_reducible exact Hid.out (by assumption)) | (with_reducible refine Later.alloc ?_ _) | (with_reducible refine Later.setCell ?_ (by simp; omega) _) | (with_reducible refine Later.setCell ?_ (by simp) _) | (with_reducible refine Later.drewN ?_ _) | (with_reducible refine Later.drew ?_) | (with_reducible refine Later.trans ?_ (Hid.out (by assumption))))))).2)) hle).mono ?_; rintro e wp ⟨gP, rfl, _, _, hop, hbp⟩; have HP := Lib.hid hbp; have OP := Lib.hid (own_slT hop); clear hbp hop)
      | (go_at_call 70; refine (l_eqTraffic _ _ _ _ _ _ _ l _ (sl_later (own_slT OX.out) (show Later w8 _ from (by repeat (first | (with_reducible exact Later.refl _) | (with_reducible exact Hid.out (by assumption)) | (with_reducible refine Later.alloc ?_ _) | (with_reducible refine Later.setCell ?_ (by simp; omega) _) | (with_reducible refine Later.setCell ?_ (by simp) _) | (with_reducible refine Later.drewN ?_ _) | (with_reducible refine Later.drew ?_) | (with_reducible refine Later.trans ?_ (Hid.out (by assumption))))))) (sl_later OP.out (show Later wp _ from (by repeat (first | (with_reducible exact Later.refl _) | (with_reducible exact Hid.out (by assumption)) | (with_reducible refine Later.alloc ?_ _) | (with_reducible refine Later.setCell ?_ (by simp; omega) _) | (with_reducible refine Later.setCell ?_ (by simp) _) | (with_reducible refine Later.drewN ?_ _) | (with_reducible refine Later.drew ?_) | (with_reducible refine Later.trans ?_ (Hid.out (by assumption)))))))).mono ?_; rintro e wq ⟨rfl, hbq⟩; have HQ := Lib.hid hbq; clear hbq))
  all_goals
    refine then_into (fun W => Later w8 W) (show Later w8 _ from (by repeat (first | (with_reducible exact Later.refl _) | (with_reducible exact Hid.out (by assumption)) | (with_reducible refine Later.alloc ?_ _) | (with_reducible refine Later.setCell ?_ (by simp; omega) _) | (with_reducible refine Later.setCell ?_ (by simp) _) | (with_reducible refine Later.drewN ?_ _) | (with_reducible refine Later.drew ?_) | (with_reducible refine Later.trans ?_ (Hid.out (by assumption)))))) ?_
    intro w9 hb
    clear HQ HP OP KS KQ d0 d1 d2 d3
    have K12 := Lib.hid (Held.later K11.out (show Later _ w9 from hb))
    have z9 := Later.size (show Later _ w9 from hb)
    try simp only [World.size_alloc] at z9
    have OW' := Lib.hid (tf_lat OW.out (show Later _ w9 from hb))
    clear OW
    have OW := OW'
    clear OW'
    have OX' := Lib.hid (tf_lat OX.out (show Later _ w9 from hb))
    clear OX
    have OX := OX'
    clear OX'
    have OY' := Lib.hid (tf_lat OY.out (show Later _ w9 from hb))
    clear OY
    have OY := OY'
    clear OY'
    have OG' := Lib.hid (tf_lat OG.out (show Later _ w9 from hb))
    clear OG
    have OG := OG'
    clear OG'
    clear hb
    clear K11
    obtain ⟨c0, c1, c2, c3, c4, c5, c6, c7, _⟩ := Held.s8 K12.out
    go_wp2_with fail
    clear c0 c1 c2 c3 c4 c5 c6 c7
    refine (l_toInt64O ta tn tc ts _ (sl_later HT.out (show Later w _ from K12.out.2)) htl).mono ?_
    rintro e w10 ⟨gZ, rfl, _, _, ho, hb⟩
    have HZ := Lib.hid (own_slT ho)
    clear ho
    have K13 := Lib.hid (Held.later K12.out (show Later _ w10 from hb))
    have z10 := Later.size (show Later _ w10 from hb)
    try simp only [World.size_alloc] at z10
    have OW' := Lib.hid (tf_lat OW.out (show Later _ w10 from hb))
    clear OW
    have OW := OW'
    clear OW'
    have OX' := Lib.hid (tf_lat OX.out (show Later _ w10 from hb))
    clear OX
    have OX := OX'
    clear OX'
    have OY' := Lib.hid (tf_lat OY.out (show Later _ w10 from hb))
    clear OY
    have OY := OY'
    clear OY'
    have OG' := Lib.hid (tf_lat OG.out (show Later _ w10 from hb))
    clear OG
    have OG := OG'
    clear OG'
    clear hb
    clear K12
    obtain ⟨c0, c1, c2, c3, c4, c5, c6, c7, _⟩ := Held.s8 K13.out
    go_wp2_with fail
    clear c0 c1 c2 c3 c4 c5 c6 c7
    refine (l_eqIT _ _ _ _ _ _ ts _ (own_slT OY.out) HZ.out).mono ?_
    rintro e w11 ⟨rfl, hb⟩
    clear HZ
    have K14 := Lib.hid (Held.later K13.out (show Later _ w11 from hb))
    have z11 := Later.size (show Later _ w11 from hb)
    try simp only [World.size_alloc] at z11
    have OW' := Lib.hid (tf_lat OW.out (show Later _ w11 from hb))
    clear OW
    have OW := OW'
    clear OW'
    have OX' := Lib.hid (tf_lat OX.out (show Later _ w11 from hb))
    clear OX
    have OX := OX'
    clear OX'
    have OY' := Lib.hid (tf_lat OY.out (show Later _ w11 from hb))
    clear OY
    have OY := OY'
    clear OY'
    have OG' := Lib.hid (tf_lat OG.out (show Later _ w11 from hb))
    clear OG
    have OG := OG'
    clear OG'
    clear hb
    clear K13
    obtain ⟨c0, c1, c2, c3, c4, c5, c6, c7, _⟩ := Held.s8 K14.out
    go_wp2_with fail
    clear c0 c1 c2 c3 c4 c5 c6 c7
    refine (l_markTraffic _ _ _ l _ OX.out (by rw [HL.out]; omega)).mono ?_
    rintro e w12 ⟨rfl, _, hg⟩
    rw [HL.out]
    clear OX
    have K15 := Lib.hid (ht_grown K14.out hg (by intro x hx; simp only [List.mem_cons, List.not_mem_nil, or_false] at hx; rcases hx with rfl | rfl | rfl | rfl | rfl | rfl | rfl | rfl <;> (intro e; have e := Option.some.inj e; (try simp only [] at e); omega)) (by intro k e; have e := Option.some.inj e; (try simp only [] at e); omega))
    have z12 := hg.size
    have OW' := Lib.hid (own_keptT OW.out hg (by intro k hk e; have := bW k hk; have e := Option.some.inj e; (try simp only [] at e); omega))
    clear OW
    have OW := OW'
    clear OW'
    have OG' := Lib.hid (own_keptT OG.out hg (by intro k hk e; have := bG k hk; have e := Option.some.inj e; (try simp only [] at e); omega))
    clear OG
    have OG := OG'
    clear OG'
    have OY' := Lib.hid (own_keptT OY.out hg (by intro k hk e; have hk := Option.some.inj hk; have e := Option.some.inj e; (try simp only [] at e hk); omega))
    clear OY
    have OY := OY'
    clear OY'
    clear hg
    clear K14
    obtain ⟨c0, c1, c2, c3, c4, c5, c6, c7, _⟩ := Held.s8 K15.out
    go_wp2_with fail
    clear c0 c1 c2 c3 c4 c5 c6 c7
    refine (l_markK _ _ _ _ (1 + (n : Int)) ts _ OY.out HT.out.1 (by omega) (by omega) (by omega)).mono ?_
    rintro e w13 ⟨rfl, hg⟩
    clear OY
    have K16 := Lib.hid (ht_grown K15.out hg (by intro x hx; simp only [List.mem_cons, List.not_mem_nil, or_false] at hx; rcases hx with rfl | rfl | rfl | rfl | rfl | rfl | rfl | rfl <;> (intro e; have e := Option.some.inj e; (try simp only [] at e); omega)) (by intro k e; have e := Option.some.inj e; omega))
    have z13 := hg.size
    have OW' := Lib.hid (own_keptT OW.out hg (by intro k hk e; have := bW k hk; have e := Option.some.inj e; (try simp only [] at e); omega))
    clear OW
    have OW := OW'
    clear OW'
    have OG' := Lib.hid (own_keptT OG.out hg (by intro k hk e; have := bG k hk; have e := Option.some.inj e; (try simp only [] at e); omega))
    clear OG
    have OG := OG'
    clear OG'
    clear hg
    clear K15
    obtain ⟨c0, c1, c2, c3, c4, c5, c6, c7, _⟩ := Held.s8 K16.out
    go_wp2_with fail
    clear c0 c1 c2 c3 c4 c5 c6 c7
    refine (l_eqTraffic _ _ _ _ _ _ _ V _ (own_slT OG.out) (own_slT OW.out)).mono ?_
    rintro e w14 ⟨rfl, hb⟩
    have K17 := Lib.hid (Held.later K16.out (show Later _ w14 from hb))
    have z14 := Later.size (show Later _ w14 from hb)
    try simp only [World.size_alloc] at z14
    have OW' := Lib.hid (tf_lat OW.out (show Later _ w14 from hb))
    clear OW
    have OW := OW'
    clear OW'
    have OG' := Lib.hid (tf_lat OG.out (show Later _ w14 from hb))
    clear OG
    have OG := OG'
    clear OG'
    clear hb
    clear K16
    obtain ⟨c0, c1, c2, c3, c4, c5, c6, c7, _⟩ := Held.s8 K17.out
    go_wp2_with fail
    clear c0 c1 c2 c3 c4 c5 c6 c7
    refine (l_markTraffic _ _ _ V _ OG.out (by omega)).mono ?_
    rintro e w15 ⟨rfl, hm, hg⟩
    have OM := Lib.hid hm
    clear hm OG
    have K18 := Lib.hid (ht_grown K17.out hg (by intro x hx; simp only [List.mem_cons, List.not_mem_nil, or_false] at hx; rcases hx with rfl | rfl | rfl | rfl | rfl | rfl | rfl | rfl <;> (intro e; have := bG _ e; (try simp only [] at this); omega)) (by intro k e; have := bG k e; omega))
    have z15 := hg.size
    have OW' := Lib.hid (own_keptT OW.out hg (by intro k hk e; have := bW k hk; have := bG k e; omega))
    clear OW
    have OW := OW'
    clear OW'
    clear hg
    clear K17
    obtain ⟨c0, c1, c2, c3, c4, c5, c6, c7, _⟩ := Held.s8 K18.out
    go_wp2_with fail
    clear c0 c1 c2 c3 c4 c5 c6 c7
    refine (l_heldTraffic _ _ _ V _ OM.out (by omega)).mono ?_
    rintro e w16 ⟨rfl, hb⟩
    have K19 := Lib.hid (Held.later K18.out (show Later _ w16 from hb))
    have z16 := Later.size (show Later _ w16 from hb)
    try simp only [World.size_alloc] at z16
    have OW' := Lib.hid (tf_lat OW.out (show Later _ w16 from hb))
    clear OW
    have OW := OW'
    clear OW'
    have OM' := Lib.hid (tf_lat OM.out (show Later _ w16 from hb))
    clear OM
    have OM := OM'
    clear OM'
    clear hb
    clear K18
    obtain ⟨c0, c1, c2, c3, c4, c5, c6, c7, _⟩ := Held.s8 K19.out
    go_wp2_with fail
    clear c0 c1 c2 c3 c4 c5 c6 c7
    refine (l_toTraffic B a n cap l _ (sl_later HS.out (show Later w _ from K19.out.2)) hle).mono ?_
    rintro e w17 ⟨gV, rfl, _, _, ho, hb⟩
    have HX0 := Lib.hid (own_slT ho)
    clear ho
    have K20 := Lib.hid (Held.later K19.out (show Later _ w17 from hb))
    have z17 := Later.size (show Later _ w17 from hb)
    try simp only [World.size_alloc] at z17
    have OW' := Lib.hid (tf_lat OW.out (show Later _ w17 from hb))
    clear OW
    have OW := OW'
    clear OW'
    have OM' := Lib.hid (tf_lat OM.out (show Later _ w17 from hb))
    clear OM
    have OM := OM'
    clear OM'
    clear hb
    clear K19
    obtain ⟨c0, c1, c2, c3, c4, c5, c6, c7, _⟩ := Held.s8 K20.out
    go_wp2_with fail
    clear c0 c1 c2 c3 c4 c5 c6 c7
    refine (l_toInt64O ta tn tc ts _ (sl_later HT.out (show Later w _ from K20.out.2)) htl).mono ?_
    rintro e w18 ⟨gT2, rfl, _, _, ho, hb⟩
    have HX1 := Lib.hid (own_slT ho)
    have HX0' := Lib.hid (sl_later HX0.out (show Later _ w18 from hb))
    clear ho HX0
    have HX0 := HX0'
    clear HX0'
    have K21 := Lib.hid (Held.later K20.out (show Later _ w18 from hb))
    have z18 := Later.size (show Later _ w18 from hb)
    try simp only [World.size_alloc] at z18
    have OW' := Lib.hid (tf_lat OW.out (show Later _ w18 from hb))
    clear OW
    have OW := OW'
    clear OW'
    have OM' := Lib.hid (tf_lat OM.out (show Later _ w18 from hb))
    clear OM
    have OM := OM'
    clear OM'
    clear hb
    clear K20
    obtain ⟨c0, c1, c2, c3, c4, c5, c6, c7, _⟩ := Held.s8 K21.out
    go_wp2_with fail
    clear c0 c1 c2 c3 c4 c5 c6 c7
    refine (IC.out _ _ _ _ _ _ _ HX0.out HX1.out).mono ?_
    rintro e w19 ⟨vH, rfl, ho, hb⟩
    obtain ⟨aH, cH, rfl, _, _⟩ := ho.sl
    have OH := Lib.hid ho
    clear ho
    have K22 := Lib.hid (Held.later K21.out (show Later _ w19 from hb))
    have z19 := Later.size (show Later _ w19 from hb)
    try simp only [World.size_alloc] at z19
    have OW' := Lib.hid (tf_lat OW.out (show Later _ w19 from hb))
    clear OW
    have OW := OW'
    clear OW'
    have OM' := Lib.hid (tf_lat OM.out (show Later _ w19 from hb))
    clear OM
    have OM := OM'
    clear OM'
    clear hb
    clear K21
    have K23 := Lib.hid (ht_box2 K22.out (.int .i64 B2) (.slice aH V.length cH) 26)
    clear K22
    have OW' := Lib.hid (OW.out.alloc (.cells #[.int .i64 B2, .slice aH V.length cH] 26))
    clear OW
    have OW := OW'
    clear OW'
    have OM' := Lib.hid (OM.out.alloc (.cells #[.int .i64 B2, .slice aH V.length cH] 26))
    clear OM
    have OM := OM'
    clear OM'
    have OH' := Lib.hid (OH.out.alloc (.cells #[.int .i64 B2, .slice aH V.length cH] 26))
    clear OH
    have OH := OH'
    clear OH'
    obtain ⟨c0, c1, c2, c3, c4, c5, c6, c7, c8, c9, _⟩ := Held.s10 K23.out
    go_wp2_with fail
    clear c0 c1 c2 c3 c4 c5 c6 c7 c8 c9
    refine (l_eqTraffic _ _ _ _ _ _ _ V _ (own_slT OH.out) (own_slT OW.out)).mono ?_
    rintro e w20 ⟨rfl, hb⟩
    have K24 := Lib.hid (Held.later K23.out (show Later _ w20 from hb))
    have z20 := Later.size (show Later _ w20 from hb)
    try simp only [World.size_alloc] at z20
    have OW' := Lib.hid (tf_lat OW.out (show Later _ w20 from hb))
    clear OW
    have OW := OW'
    clear OW'
    have OM' := Lib.hid (tf_lat OM.out (show Later _ w20 from hb))
    clear OM
    have OM := OM'
    clear OM'
    have OH' := Lib.hid (tf_lat OH.out (show Later _ w20 from hb))
    clear OH
    have OH := OH'
    clear OH'
    clear hb
    clear K23
    obtain ⟨c0, c1, c2, c3, c4, c5, c6, c7, c8, c9, _⟩ := Held.s10 K24.out
    go_wp2_with fail
    clear c0 c1 c2 c3 c4 c5 c6 c7 c8 c9
    refine (l_heldTraffic _ _ _ V _ OM.out (by omega)).mono ?_
    rintro e w21 ⟨rfl, hb⟩
    have K25 := Lib.hid (Held.later K24.out (show Later _ w21 from hb))
    have z21 := Later.size (show Later _ w21 from hb)
    try simp only [World.size_alloc] at z21
    have OW' := Lib.hid (tf_lat OW.out (show Later _ w21 from hb))
    clear OW
    have OW := OW'
    clear OW'
    have OM' := Lib.hid (tf_lat OM.out (show Later _ w21 from hb))
    clear OM
    have OM := OM'
    clear OM'
    have OH' := Lib.hid (tf_lat OH.out (show Later _ w21 from hb))
    clear OH
    have OH := OH'
    clear OH'
    clear hb
    clear K24
    obtain ⟨c0, c1, c2, c3, c4, c5, c6, c7, c8, c9, _⟩ := Held.s10 K25.out
    go_wp2_with fail
    go_ret
    exact ⟨rfl, K25.out.2⟩
end Go.Proofs.Ytdaihpkjnigjgaa
