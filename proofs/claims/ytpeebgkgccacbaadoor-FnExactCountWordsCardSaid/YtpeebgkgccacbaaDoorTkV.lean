/- Tokens, of both: IsToken; lists of tokens that are valid; blanks between tokens. -/
import Derived.Test.YtpeebgkgccacbaaDoorTkB
import Derived.Test.YtpeebgkgccacbaaDoorTkS
namespace Go.Proofs.YtpeebgkgccacbaaDoor
open Go.RowKit Go.Shelf
set_option maxHeartbeats 4000000
set_option maxRecDepth 100000
set_option linter.unusedVariables false
set_option linter.unusedSimpArgs false
theorem i_IsToken (k : Int) (t : List UInt8) (w : World) (ht : t.length ≤ 1048576) (hk : InR k) (hW : Wst w) : Calls Tryd.prog 19 #[.agg #[.int .i64 k, .string (tx t)]] w fun e w' => e = .returned (.bool (tokB k t)) ∧ Later w w' := by
  have HW := Lib.hid hW
  have TK := Lib.hid (i_tokenKindT t)
  have hkd := kdB_le t
  obtain ⟨k0, k1⟩ := hk
  rw [tok_kd]
  obtain ⟨q, hq⟩ : ∃ q, q = kdB t := ⟨_, rfl⟩
  rw [← hq] at TK hkd ⊢
  obtain ⟨s, hs⟩ : ∃ s, s = tx t := ⟨_, rfl⟩
  rw [← hs] at TK ⊢
  clear hq hs hW
  by_cases h0 : q = 0
  · subst h0
    have hr : (decide (((0 : Nat) : Int) ≠ 0) && decide (((0 : Nat) : Int) = k)) = false := by simp
    rw [hr]
    clear hr
    go_enter Tryd.func19, Tryd.ntmps19
    go_wp2_with (go_at_call 50; refine (TK.out _ ht (HW.out.later (by repeat (first | (with_reducible exact Later.refl _) | (with_reducible exact Hid.out (by assumption)) | (with_reducible refine Later.alloc ?_ _) | (with_reducible refine Later.setCell ?_ (by simp; omega) _) | (with_reducible refine Later.setCell ?_ (by simp) _) | (with_reducible refine Later.drewN ?_ _) | (with_reducible refine Later.drew ?_) | (with_reducible refine Later.trans ?_ (Hid.out (by assumption))))))).mono ?_; rintro e w1 ⟨rfl, hb⟩; obtain ⟨H, hcc, hff, hzz⟩ := later_facts hb; clear hb; (try simp at hzz))
    all_goals
      go_ret
      exact ⟨rfl, (by repeat (first | (with_reducible exact Later.refl _) | (with_reducible exact Hid.out (by assumption)) | (with_reducible refine Later.alloc ?_ _) | (with_reducible refine Later.setCell ?_ (by simp; omega) _) | (with_reducible refine Later.setCell ?_ (by simp) _) | (with_reducible refine Later.drewN ?_ _) | (with_reducible refine Later.drew ?_) | (with_reducible refine Later.trans ?_ (Hid.out (by assumption)))))⟩
  · have e1 : ((q : Int) != 0) = true := by simp; omega
    have hr : (decide ((q : Int) ≠ 0) && decide ((q : Int) = k)) = decide ((q : Int) = k) := by rw [decide_eq_true (by omega), Bool.true_and]
    rw [hr]
    by_cases h1 : (q : Int) = k
    · have e2 : ((q : Int) == k) = true := by simpa using h1
      rw [decide_eq_true h1]
      clear h0 h1 hr
      go_enter Tryd.func19, Tryd.ntmps19
      go_wp2_with (go_at_call 50; refine (TK.out _ ht (HW.out.later (by repeat (first | (with_reducible exact Later.refl _) | (with_reducible exact Hid.out (by assumption)) | (with_reducible refine Later.alloc ?_ _) | (with_reducible refine Later.setCell ?_ (by simp; omega) _) | (with_reducible refine Later.setCell ?_ (by simp) _) | (with_reducible refine Later.drewN ?_ _) | (with_reducible refine Later.drew ?_) | (with_reducible refine Later.trans ?_ (Hid.out (by assumption))))))).mono ?_; rintro e w1 ⟨rfl, hb⟩; obtain ⟨H, hcc, hff, hzz⟩ := later_facts hb; clear hb; (try simp at hzz); have hz0 : w.heap.size < w1.heap.size := (by omega))
      all_goals
        go_ret
        exact ⟨rfl, (by repeat (first | (with_reducible exact Later.refl _) | (with_reducible exact Hid.out (by assumption)) | (with_reducible refine Later.alloc ?_ _) | (with_reducible refine Later.setCell ?_ (by simp; omega) _) | (with_reducible refine Later.setCell ?_ (by simp) _) | (with_reducible refine Later.drewN ?_ _) | (with_reducible refine Later.drew ?_) | (with_reducible refine Later.trans ?_ (Hid.out (by assumption)))))⟩
    · have e2 : ((q : Int) == k) = false := by simpa using h1
      rw [decide_eq_false h1]
      clear h0 h1 hr
      go_enter Tryd.func19, Tryd.ntmps19
      go_wp2_with (go_at_call 50; refine (TK.out _ ht (HW.out.later (by repeat (first | (with_reducible exact Later.refl _) | (with_reducible exact Hid.out (by assumption)) | (with_reducible refine Later.alloc ?_ _) | (with_reducible refine Later.setCell ?_ (by simp; omega) _) | (with_reducible refine Later.setCell ?_ (by simp) _) | (with_reducible refine Later.drewN ?_ _) | (with_reducible refine Later.drew ?_) | (with_reducible refine Later.trans ?_ (Hid.out (by assumption))))))).mono ?_; rintro e w1 ⟨rfl, hb⟩; obtain ⟨H, hcc, hff, hzz⟩ := later_facts hb; clear hb; (try simp at hzz); have hz0 : w.heap.size < w1.heap.size := (by omega))
      all_goals
        go_ret
        exact ⟨rfl, (by repeat (first | (with_reducible exact Later.refl _) | (with_reducible exact Hid.out (by assumption)) | (with_reducible refine Later.alloc ?_ _) | (with_reducible refine Later.setCell ?_ (by simp; omega) _) | (with_reducible refine Later.setCell ?_ (by simp) _) | (with_reducible refine Later.drewN ?_ _) | (with_reducible refine Later.drew ?_) | (with_reducible refine Later.trans ?_ (Hid.out (by assumption)))))⟩
theorem s_IsToken (k : Int) (t : List UInt8) (w : World) (ht : t.length ≤ 1048576) (hk : InR k) : Calls Tryd.prog 20 #[.agg #[.int .i64 k, .string (tx t)]] w fun e w' => e = .returned (.bool (tokB k t)) ∧ Later w w' := by
  obtain ⟨k0, k1⟩ := hk
  have WD : Hid (∀ W, Calls Tryd.prog 48 #[.string (tx t)] W fun e w' => e = .returned (.bool (wrdB t)) ∧ W = w') := Lib.hid (fun W => s_Word (tx t) W ht)
  have ND : Hid (∀ W, Calls Tryd.prog 51 #[.string (tx t)] W fun e w' => e = .returned (.bool (numB t)) ∧ Later W w') := Lib.hid (fun W => s_Number (tx t) W ht)
  have SD : Hid (∀ W, Calls Tryd.prog 52 #[.string (tx t)] W fun e w' => e = .returned (.bool (sgnB t)) ∧ W = w') := Lib.hid (fun W => s_Sign (tx t) W)
  have HT : Hid (tokB k t = if k = 1 then wrdB t else if k = 2 then numB t else if k = 3 then sgnB t else false) := Lib.hid rfl
  obtain ⟨s, hs⟩ : ∃ s, s = tx t := ⟨_, rfl⟩
  rw [← hs] at WD ND SD ⊢
  clear hs
  by_cases h1 : k = 1
  · have hr : tokB k t = wrdB t := by rw [HT.out, if_pos h1]
    rw [hr]
    have e1 : (k == 1) = true := by simpa using h1
    clear h1 hr
    go_enter Tryd.func20, Tryd.ntmps20
    go_wp2_with (go_at_call 48; refine (WD.out _).mono ?_; rintro e w' ⟨rfl, rfl⟩)
    go_ret
    exact ⟨rfl, (by repeat (first | (with_reducible exact Later.refl _) | (with_reducible exact Hid.out (by assumption)) | (with_reducible refine Later.alloc ?_ _) | (with_reducible refine Later.setCell ?_ (by simp; omega) _) | (with_reducible refine Later.setCell ?_ (by simp) _) | (with_reducible refine Later.drewN ?_ _) | (with_reducible refine Later.drew ?_) | (with_reducible refine Later.trans ?_ (Hid.out (by assumption)))))⟩
  · have e1 : (k == 1) = false := by simpa using h1
    by_cases h2 : k = 2
    · have hr : tokB k t = numB t := by rw [HT.out, if_neg h1, if_pos h2]
      rw [hr]
      have e2 : (k == 2) = true := by simpa using h2
      clear h1 h2 hr
      go_enter Tryd.func20, Tryd.ntmps20
      go_wp2_with (go_at_call 51; refine (ND.out _).mono ?_; rintro e w1 ⟨rfl, hb⟩; have H1 := Lib.hid hb; clear hb)
      go_ret
      exact ⟨rfl, (by repeat (first | (with_reducible exact Later.refl _) | (with_reducible exact Hid.out (by assumption)) | (with_reducible refine Later.alloc ?_ _) | (with_reducible refine Later.setCell ?_ (by simp; omega) _) | (with_reducible refine Later.setCell ?_ (by simp) _) | (with_reducible refine Later.drewN ?_ _) | (with_reducible refine Later.drew ?_) | (with_reducible refine Later.trans ?_ (Hid.out (by assumption)))))⟩
    · have e2 : (k == 2) = false := by simpa using h2
      by_cases h3 : k = 3
      · have hr : tokB k t = sgnB t := by rw [HT.out, if_neg h1, if_neg h2, if_pos h3]
        rw [hr]
        have e3 : (k == 3) = true := by simpa using h3
        clear h1 h2 h3 hr
        go_enter Tryd.func20, Tryd.ntmps20
        go_wp2_with (go_at_call 52; refine (SD.out _).mono ?_; rintro e w' ⟨rfl, rfl⟩)
        go_ret
        exact ⟨rfl, (by repeat (first | (with_reducible exact Later.refl _) | (with_reducible exact Hid.out (by assumption)) | (with_reducible refine Later.alloc ?_ _) | (with_reducible refine Later.setCell ?_ (by simp; omega) _) | (with_reducible refine Later.setCell ?_ (by simp) _) | (with_reducible refine Later.drewN ?_ _) | (with_reducible refine Later.drew ?_) | (with_reducible refine Later.trans ?_ (Hid.out (by assumption)))))⟩
      · have e3 : (k == 3) = false := by simpa using h3
        have hr : tokB k t = false := by rw [HT.out, if_neg h1, if_neg h2, if_neg h3]
        rw [hr]
        clear h1 h2 h3 hr
        go_enter Tryd.func20, Tryd.ntmps20
        go_wp2_with fail
        go_ret
        exact ⟨rfl, (by repeat (first | (with_reducible exact Later.refl _) | (with_reducible exact Hid.out (by assumption)) | (with_reducible refine Later.alloc ?_ _) | (with_reducible refine Later.setCell ?_ (by simp; omega) _) | (with_reducible refine Later.setCell ?_ (by simp) _) | (with_reducible refine Later.drewN ?_ _) | (with_reducible refine Later.drew ?_) | (with_reducible refine Later.trans ?_ (Hid.out (by assumption)))))⟩
/-- 'the code of a list of tokens' -/
def lsE (L : List Tkn) : Int := if 800 < L.length then 3 else if (L.all fun x => tokB x.1 x.2) = true then 0 else 1
theorem lsE_bad (L : List Tkn) (k : Nat) (h : L.length ≤ 800) (hk : k < L.length) (hb : tokB (tkx L k) (tsx L k) = false) : lsE L = 1 := by
  unfold lsE
  rw [if_neg (by omega), if_neg]
  intro hall
  have := List.all_eq_true.1 hall _ (kx_mem L k hk)
  simp only [] at this
  rw [hb] at this; cases this
theorem lsE_ok (L : List Tkn) (h : L.length ≤ 800) (hb : ∀ k, k < L.length → tokB (tkx L k) (tsx L k) = true) : lsE L = 0 := by
  unfold lsE
  rw [if_neg (by omega), if_pos]
  apply List.all_eq_true.2
  intro x hx
  obtain ⟨k, hk, rfl⟩ := List.mem_iff_getElem.1 hx
  rw [kx_at L k hk]; exact hb k hk
theorem i_tokensError (a : Option Addr) (n cap : Nat) (L : List Tkn) (w : World) (hs : Tks w a n L) (hW : Wst w) : Calls Tryd.prog 41 #[.slice a n cap] w fun e w' => e = .returned (.int .i64 (lsE L)) ∧ Later w w' := by
  have HS := Lib.hid hs
  have HN := Lib.hid hs.1
  have HW := Lib.hid hW
  have hn := hs.2.1
  clear hs hW
  by_cases h8 : 800 < n
  · have hr : lsE L = 3 := by unfold lsE; rw [HN.out, if_pos h8]
    rw [hr]
    go_enter Tryd.func41, Tryd.ntmps41
    go_wp2_with fail
    go_ret
    exact ⟨rfl, Later.refl _⟩
  · have h8' : n ≤ 800 := by omega
    clear h8
    go_enter Tryd.func41, Tryd.ntmps41
    go_wp2_with fail
    go_loopw [10] (fun i wr => ∃ k : Nat, i = .int .i64 k ∧ k ≤ n ∧ Hid (∀ j, j < k → tokB (tkx L j) (tsx L j) = true) ∧ Later w wr) (fun i _ => n - (intOf i).toNat)
    case atStart => exact ⟨0, rfl, by omega, Lib.hid (by intro j h; omega), Later.refl _⟩
    case round =>
      obtain ⟨k, rfl, hk, HI, hb⟩ := hrel
      have B3 := Lib.hid hb
      by_cases hlt : k < n
      · obtain ⟨b, off, rfl, hc, hd⟩ := (HS.out.later hb).2.2.1 k hlt
        obtain ⟨r1, r2⟩ := HS.out.rng k hlt
        have IT := Lib.hid (fun W => i_IsToken (tkx L k) (tsx L k) W r2 r1)
        obtain ⟨x, hx⟩ : ∃ x, x = tkx L k := ⟨_, rfl⟩
        obtain ⟨y, hy⟩ : ∃ y, y = tx (tsx L k) := ⟨_, rfl⟩
        obtain ⟨z, hz⟩ : ∃ z, z = tokB (tkx L k) (tsx L k) := ⟨_, rfl⟩
        have HZ := Lib.hid hz
        rw [← hz, ← hx, ← hy] at IT
        rw [← hx] at hc; rw [← hy] at hd
        clear hx hy hz hb r1 r2
        cases z
        · have hr := lsE_bad L k (by rw [HN.out]; exact h8') (by rw [HN.out]; exact hlt) HZ.out.symm
          have HR := Lib.hid hr
          clear hr
          go_wp2_with (go_at_call 19; refine (IT.out _ (HW.out.later (by repeat (first | (with_reducible exact Later.refl _) | (with_reducible exact Hid.out (by assumption)) | (with_reducible refine Later.alloc ?_ _) | (with_reducible refine Later.setCell ?_ (by simp; omega) _) | (with_reducible refine Later.setCell ?_ (by simp) _) | (with_reducible refine Later.drewN ?_ _) | (with_reducible refine Later.drew ?_) | (with_reducible refine Later.trans ?_ (Hid.out (by assumption))))))).mono ?_; rintro e w4 ⟨rfl, hb⟩; have H4 := Lib.hid hb; clear hb)
          go_ret
          rw [HR.out]
          exact ⟨rfl, (by repeat (first | (with_reducible exact Later.refl _) | (with_reducible exact Hid.out (by assumption)) | (with_reducible refine Later.alloc ?_ _) | (with_reducible refine Later.setCell ?_ (by simp; omega) _) | (with_reducible refine Later.setCell ?_ (by simp) _) | (with_reducible refine Later.drewN ?_ _) | (with_reducible refine Later.drew ?_) | (with_reducible refine Later.trans ?_ (Hid.out (by assumption)))))⟩
        · go_wp2_with (go_at_call 19; refine (IT.out _ (HW.out.later (by repeat (first | (with_reducible exact Later.refl _) | (with_reducible exact Hid.out (by assumption)) | (with_reducible refine Later.alloc ?_ _) | (with_reducible refine Later.setCell ?_ (by simp; omega) _) | (with_reducible refine Later.setCell ?_ (by simp) _) | (with_reducible refine Later.drewN ?_ _) | (with_reducible refine Later.drew ?_) | (with_reducible refine Later.trans ?_ (Hid.out (by assumption))))))).mono ?_; rintro e w4 ⟨rfl, hb⟩; have H4 := Lib.hid hb; clear hb)
          go_roundw
          case rel => exact ⟨k + 1, by go_num, by omega, Lib.hid (by
            intro j hj
            rcases Nat.lt_or_ge j k with h1 | h1
            · exact HI.out j h1
            · obtain rfl : j = k := by omega
              exact HZ.out.symm), (by repeat (first | (with_reducible exact Later.refl _) | (with_reducible exact Hid.out (by assumption)) | (with_reducible refine Later.alloc ?_ _) | (with_reducible refine Later.setCell ?_ (by simp; omega) _) | (with_reducible refine Later.setCell ?_ (by simp) _) | (with_reducible refine Later.drewN ?_ _) | (with_reducible refine Later.drew ?_) | (with_reducible refine Later.trans ?_ (Hid.out (by assumption)))))⟩
          case measure => simp [intOf]; omega
      · obtain rfl : k = n := by omega
        have HR := Lib.hid (lsE_ok L (by rw [HN.out]; exact h8') (fun j hj => HI.out j (by rw [← HN.out]; exact hj)))
        clear hb
        go_wp2_with fail
        go_ret
        rw [HR.out]
        exact ⟨rfl, B3.out⟩
theorem s_List12 (a : Option Addr) (n cap : Nat) (L : List Tkn) (w : World) (hs : Tks w a n L) : Calls Tryd.prog 43 #[.slice a n cap] w fun e w' => e = .returned (.int .i64 (lsE L)) ∧ Later w w' := by
  have HS := Lib.hid hs
  have HN := Lib.hid hs.1
  have hn := hs.2.1
  clear hs
  by_cases h8 : 800 < n
  · have hr : lsE L = 3 := by unfold lsE; rw [HN.out, if_pos h8]
    rw [hr]
    go_enter Tryd.func43, Tryd.ntmps43
    go_wp2_with fail
    go_ret
    exact ⟨rfl, Later.refl _⟩
  · have h8' : n ≤ 800 := by omega
    clear h8
    go_enter Tryd.func43, Tryd.ntmps43
    go_wp2_with fail
    go_loopw [3] (fun i wr => ∃ k : Nat, i = .int .i64 k ∧ k ≤ n ∧ Hid (∀ j, j < k → tokB (tkx L j) (tsx L j) = true) ∧ Later w wr) (fun i _ => n - (intOf i).toNat)
    case atStart => exact ⟨0, rfl, by omega, Lib.hid (by intro j h; omega), Later.refl _⟩
    case round =>
      obtain ⟨k, rfl, hk, HI, hb⟩ := hrel
      have B3 := Lib.hid hb
      by_cases hlt : k < n
      · obtain ⟨b, off, rfl, hc, hd⟩ := (HS.out.later hb).2.2.1 k hlt
        obtain ⟨r1, r2⟩ := HS.out.rng k hlt
        have IT := Lib.hid (fun W => s_IsToken (tkx L k) (tsx L k) W r2 r1)
        obtain ⟨x, hx⟩ : ∃ x, x = tkx L k := ⟨_, rfl⟩
        obtain ⟨y, hy⟩ : ∃ y, y = tx (tsx L k) := ⟨_, rfl⟩
        obtain ⟨z, hz⟩ : ∃ z, z = tokB (tkx L k) (tsx L k) := ⟨_, rfl⟩
        have HZ := Lib.hid hz
        rw [← hz, ← hx, ← hy] at IT
        rw [← hx] at hc; rw [← hy] at hd
        clear hx hy hz hb r1 r2
        cases z
        · have hr := lsE_bad L k (by rw [HN.out]; exact h8') (by rw [HN.out]; exact hlt) HZ.out.symm
          have HR := Lib.hid hr
          clear hr
          go_wp2_with (go_at_call 20; refine (IT.out _).mono ?_; rintro e w4 ⟨rfl, hb⟩; have H4 := Lib.hid hb; clear hb)
          go_ret
          rw [HR.out]
          exact ⟨rfl, (by repeat (first | (with_reducible exact Later.refl _) | (with_reducible exact Hid.out (by assumption)) | (with_reducible refine Later.alloc ?_ _) | (with_reducible refine Later.setCell ?_ (by simp; omega) _) | (with_reducible refine Later.setCell ?_ (by simp) _) | (with_reducible refine Later.drewN ?_ _) | (with_reducible refine Later.drew ?_) | (with_reducible refine Later.trans ?_ (Hid.out (by assumption)))))⟩
        · go_wp2_with (go_at_call 20; refine (IT.out _).mono ?_; rintro e w4 ⟨rfl, hb⟩; have H4 := Lib.hid hb; clear hb)
          go_roundw
          case rel => exact ⟨k + 1, by go_num, by omega, Lib.hid (by
            intro j hj
            rcases Nat.lt_or_ge j k with h1 | h1
            · exact HI.out j h1
            · obtain rfl : j = k := by omega
              exact HZ.out.symm), (by repeat (first | (with_reducible exact Later.refl _) | (with_reducible exact Hid.out (by assumption)) | (with_reducible refine Later.alloc ?_ _) | (with_reducible refine Later.setCell ?_ (by simp; omega) _) | (with_reducible refine Later.setCell ?_ (by simp) _) | (with_reducible refine Later.drewN ?_ _) | (with_reducible refine Later.drew ?_) | (with_reducible refine Later.trans ?_ (Hid.out (by assumption)))))⟩
          case measure => simp [intOf]; omega
      · obtain rfl : k = n := by omega
        have HR := Lib.hid (lsE_ok L (by rw [HN.out]; exact h8') (fun j hj => HI.out j (by rw [← HN.out]; exact hj)))
        clear hb
        go_wp2_with fail
        go_ret
        rw [HR.out]
        exact ⟨rfl, B3.out⟩
end Go.Proofs.YtpeebgkgccacbaaDoor
