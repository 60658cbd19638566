/- The walk of the law on tokens. -/
import Derived.Test.YtpeebgkgccacbaaDoorTkY
namespace Go.Proofs.YtpeebgkgccacbaaDoor
open Go.RowKit Go.Shelf
set_option maxHeartbeats 4000000
set_option maxRecDepth 100000
set_option linter.unusedVariables false
set_option linter.unusedSimpArgs false
theorem ls_rd {L : List Tkn} (h : lsE L = 0) : tkI (rd (stdB (txs L)) 0).1 = L ∧ (rd (stdB (txs L)) 0).2 = -1 := by
  obtain ⟨h8, hk⟩ := lsE_zero h
  have hall : ∀ x ∈ L, kdB x.2 ≠ 0 ∧ (kdB x.2 : Int) = x.1 := by
    intro x hx
    obtain ⟨k, hkl, rfl⟩ := List.mem_iff_getElem.1 hx
    rw [kx_at L k hkl]
    exact tok_kd0 (hk k hkl)
  have hvt : VT (txs L) := by
    intro y hy
    obtain ⟨x, hx, rfl⟩ := List.mem_map.1 hy
    exact (hall x hx).1
  obtain ⟨r1, r2⟩ := rd_std (txs L) hvt 0
  refine ⟨?_, r2⟩
  rw [r1]
  unfold tkI txs
  rw [List.map_map, List.map_map]
  conv => rhs; rw [← List.map_id L]
  apply List.map_congr_left
  intro x hx
  have := (hall x hx).2
  simp only [Function.comp, this, id]
theorem rst_len (M : List (List UInt8)) (h : ∀ k, (M.getD k []).length ≤ 13) : ∀ (n k : Nat), k + n = M.length → (rst M k).length ≤ 15 * n
  | 0, k, hk => by rw [show k = M.length by omega, rst_end]; simp
  | n + 1, k, hk => by
    rw [rst_step M k (by omega), List.length_append]
    have h1 := pcs_len M k
    have h2 := h k
    have h3 := rst_len M h n (k + 1) (by omega)
    omega
theorem stV_len (L : List Tkn) (h : T13 L) (hL : L.length ≤ 801) : (stV L).length ≤ 20000 := by
  unfold stV
  split
  · have := rst_len (txs L) (fun k => by
      rw [txs_at]
      by_cases hk : k < L.length
      · exact h _ (kx_mem L k hk)
      · unfold tsx; rw [List.getD_eq_getElem?_getD, List.getElem?_eq_none (by omega)]; simp) L.length 0 (by rw [txs_len]; omega)
    unfold stdB
    omega
  · simp
theorem rt_std {L : List Tkn} (h : lsE L = 0) : (rtE (stV L) = 3 ∧ 6000 < (stV L).length) ∨ ((stV L).length ≤ 6000 ∧ rtE (stV L) = 0 ∧ rtL (stV L) = L) := by
  have e : stV L = stdB (txs L) := by unfold stV; rw [if_pos h]
  obtain ⟨r1, r2⟩ := ls_rd h
  have h8 := (lsE_zero h).1
  by_cases hl : 6000 < (stV L).length
  · left
    refine ⟨?_, hl⟩
    unfold rtE; rw [if_pos hl]
  · right
    have hE : rtE (stV L) = 0 := by
      rw [rtE_lo _ (by omega), e, r2, if_neg (by omega)]
      have : (rd (stdB (txs L)) 0).1.length = L.length := by
        have := congrArg List.length r1
        unfold tkI at this
        rwa [List.length_map] at this
      rw [this, if_neg (by omega)]
    refine ⟨by omega, hE, ?_⟩
    unfold rtL
    rw [hE, if_pos rfl, e]; exact r1
theorem walk_FnTokens (a0 : Option Addr) (len0 cap0 : Nat) (z0 : List Int) (w : World) (w0 : IsRow .u8 w a0 len0 cap0 z0) (hx : Wst w ∧ MaxL w) :
    Calls Tryd.prog 3 #[.slice a0 len0 cap0] w fun e w' => e = .returned (.bool true) ∧ Below w.heap.size w w' := by
  have HS := Lib.hid (isRow_bytes w0)
  have HW := Lib.hid hx.1
  clear w0 hx
  by_cases hbig : 4096 < len0
  · go_enter Tryd.func3, Tryd.ntmps3
    go_wp2_with fail
    refine (l_big _ _ _ _).mono ?_
    rintro e w' ⟨rfl, rfl⟩
    go_wp2
    go_ret
    exact ⟨rfl, Below.refl _ _⟩
  go_enter Tryd.func3, Tryd.ntmps3
  go_wp2_with fail
  refine (l_big _ _ _ _).mono ?_
  rintro e w' ⟨rfl, rfl⟩
  go_wp2_with fail
  refine (s_DrawStandardText _ _ _ _ HS.out).mono ?_
  rintro e w1 ⟨v1, rfl, L, o1, hL, hT, hb⟩
  have B1 := Lib.hid hb
  obtain ⟨a1, cap1, rfl, _, t1, _, _, _⟩ := o1.tks
  have HSL := Lib.hid (stV_len L hT hL)
  have HRT : Hid (lsE L = 0 → (rtE (stV L) = 3 ∧ 6000 < (stV L).length) ∨ ((stV L).length ≤ 6000 ∧ rtE (stV L) = 0 ∧ rtL (stV L) = L)) := Lib.hid rt_std
  obtain ⟨n, hn⟩ : ∃ n, n = L.length := ⟨_, rfl⟩
  have HN := Lib.hid hn
  rw [← hn] at t1 ⊢
  have T1 := Lib.hid t1
  have hn8 : n ≤ 801 := by omega
  have IS := Lib.hid (i_StandardText a1 n cap1 L)
  have SS := Lib.hid (s_StandardText a1 n cap1 L)
  have IR : Hid (∀ W, Wst W → Calls Tryd.prog 21 #[.string (tx (stV L))] W (TkRt (stV L) W)) := Lib.hid (fun W h => i_ReadTokens (tx (stV L)) W (by rw [tx_size]; have := HSL.out; omega) h)
  unfold TkRt at IR
  obtain ⟨E, hE⟩ : ∃ x, x = lsE L := ⟨_, rfl⟩
  obtain ⟨P, hP⟩ : ∃ x, x = tx (stV L) := ⟨_, rfl⟩
  have HPZ : Hid (P.size = (stV L).length) := Lib.hid (by rw [hP]; rfl)
  rw [← hE] at IS SS HRT
  rw [← hP] at IS SS IR
  clear hb o1 t1 hn hE hP hT hL
  go_wp2_with fail
  refine (IS.out _ T1.out (HW.out.later B1.out)).mono ?_
  rintro e w2 ⟨rfl, hb⟩
  have B2 := Lib.hid (Later.trans B1.out hb)
  have T2 := Lib.hid (T1.out.later hb)
  clear hb T1
  go_wp2_with fail
  refine (SS.out _ T2.out).mono ?_
  rintro e w3 ⟨rfl, hb⟩
  have B3 := Lib.hid (Later.trans B2.out hb)
  have T3 := Lib.hid (T2.out.later hb)
  clear hb T2
  go_wp2_with fail
  refine (s_DrawCountWords _ _ _ _ (HS.out.later B3.out)).mono ?_
  rintro e w4 ⟨v4, u, rfl, hu, M, o4, hM, hTM, hb⟩
  have B4 := Lib.hid (Later.trans B3.out hb)
  have T4 := Lib.hid (T3.out.later hb)
  obtain ⟨a4, cap4, rfl, _, t4, _, _, _⟩ := o4.tks
  obtain ⟨m, hm⟩ : ∃ m, m = M.length := ⟨_, rfl⟩
  rw [← hm] at t4 ⊢
  have U4 := Lib.hid t4
  have ICW := Lib.hid (fun W h hW => i_CountWords a4 m cap4 M u W h (by omega) hW)
  have SCW := Lib.hid (fun W h => s_CountWords a4 m cap4 M u W h (by omega))
  obtain ⟨c1, hc1⟩ : ∃ x, x = cwV M u := ⟨_, rfl⟩
  obtain ⟨c2, hc2⟩ : ∃ x, x = cwE M u := ⟨_, rfl⟩
  rw [← hc1, ← hc2] at ICW SCW
  obtain ⟨su, hsu⟩ : ∃ s, s = tx u := ⟨_, rfl⟩
  rw [← hsu] at ICW SCW ⊢
  clear hb o4 t4 hm hc1 hc2 hsu T3 hTM hM
  go_wp2_with fail
  refine (ICW.out _ U4.out (HW.out.later B4.out)).mono ?_
  rintro e w5 ⟨rfl, hb⟩
  have B5 := Lib.hid (Later.trans B4.out hb)
  have T5 := Lib.hid (T4.out.later hb)
  have U5 := Lib.hid (U4.out.later hb)
  clear hb T4 U4
  go_wp2_with fail
  refine (SCW.out _ U5.out).mono ?_
  rintro e w6 ⟨rfl, hb⟩
  have B6 := Lib.hid (Later.trans B5.out hb)
  have T6 := Lib.hid (T5.out.later hb)
  clear hb T5 U5
  go_wp2_with fail
  refine (s_DrawIsToken _ _ _ _ (HS.out.later B6.out)).mono ?_
  rintro e w7 ⟨k, t, rfl, hk, ht, hb⟩
  have B7 := Lib.hid (Later.trans B6.out hb)
  have T7 := Lib.hid (T6.out.later hb)
  have IT := Lib.hid (fun W hW => i_IsToken k t W (by omega) hk hW)
  have ST := Lib.hid (fun W => s_IsToken k t W (by omega) hk)
  obtain ⟨z, hz⟩ : ∃ z, z = tokB k t := ⟨_, rfl⟩
  rw [← hz] at IT ST
  obtain ⟨st, hst⟩ : ∃ s, s = tx t := ⟨_, rfl⟩
  rw [← hst] at IT ST ⊢
  clear hb hz hst T6 IS SS ICW SCW
  have KL : Hid (∀ W', Later (w7.alloc (.cells #[.int .i64 k, .string st] 33)) W' → W'.cell? ⟨w7.heap.size, 0, none⟩ = some (.int .i64 k) ∧ W'.cell? ⟨w7.heap.size, 1, none⟩ = some (.string st)) := Lib.hid (fun W' q => by
    have X := (q.block w7.heap.size (by rw [World.size_alloc]; exact Nat.lt_succ_self _)).trans (heap_alloc_new w7 _)
    refine ⟨?_, ?_⟩
    · rw [cell_of_row _ _ 0 _ _ (0, 0) X]; rfl
    · rw [cell_of_row _ _ 1 _ _ (0, 0) X]; rfl)
  go_wp2_with fail
  go_region_held3 (fun w' => w'.cell? ⟨w7.heap.size, 0, none⟩ = some (.int .i64 k) ∧ w'.cell? ⟨w7.heap.size, 1, none⟩ = some (.string st)) (exact KL.out _ (by repeat (first | (with_reducible exact Later.refl _) | (with_reducible exact Hid.out (by assumption)) | (with_reducible refine Later.alloc ?_ _) | (with_reducible refine Later.setCell ?_ (by simp; omega) _) | (with_reducible refine Later.setCell ?_ (by simp) _) | (with_reducible refine Later.drewN ?_ _) | (with_reducible refine Later.drew ?_) | (with_reducible refine Later.trans ?_ (Hid.out (by assumption))))))
    (first | (go_at_call 19; refine (IT.out _ (HW.out.later (Later.trans B7.out (by repeat (first | (with_reducible exact Later.refl _) | (with_reducible exact Hid.out (by assumption)) | (with_reducible refine Later.alloc ?_ _) | (with_reducible refine Later.setCell ?_ (by simp; omega) _) | (with_reducible refine Later.setCell ?_ (by simp) _) | (with_reducible refine Later.drewN ?_ _) | (with_reducible refine Later.drew ?_) | (with_reducible refine Later.trans ?_ (Hid.out (by assumption)))))))).mono ?_; rintro e wA ⟨rfl, hb⟩; have HA := Lib.hid hb; clear hb) | (go_at_call 20; refine (ST.out _).mono ?_; rintro e wB ⟨rfl, hb⟩; have HB := Lib.hid hb; clear hb))
  have HZ : Hid (Later w7 wB) := Lib.hid (by repeat (first | (with_reducible exact Later.refl _) | (with_reducible exact Hid.out (by assumption)) | (with_reducible refine Later.alloc ?_ _) | (with_reducible refine Later.setCell ?_ (by simp; omega) _) | (with_reducible refine Later.setCell ?_ (by simp) _) | (with_reducible refine Later.drewN ?_ _) | (with_reducible refine Later.drew ?_) | (with_reducible refine Later.trans ?_ (Hid.out (by assumption)))))
  have BB := Lib.hid (Later.trans B7.out HZ.out)
  have TB := Lib.hid (T7.out.later HZ.out)
  clear HA HB HZ KL IT ST T7
  by_cases hE0 : E = 0
  · subst hE0
    have hrt := HRT.out rfl
    clear HRT
    rcases hrt with ⟨r1, r2⟩ | ⟨r1, r2, r3⟩
    · rw [r1] at IR
      have hp : P.size > 6000 := by rw [HPZ.out]; exact r2
      have hp2 : decide ((6000 : Int) < P.size) = true := by simp; omega
      clear r1 r2
      go_wp2_with (go_at_call 21; refine (IR.out _ (HW.out.later BB.out)).mono ?_; rintro e wC ⟨v3, rfl, o3, hb⟩; have BC := Lib.hid (Later.trans BB.out hb); clear hb o3)
      go_ret
      exact ⟨rfl, BC.out⟩
    · rw [r2, r3] at IR
      clear r1 r2 r3
      go_wp2_with fail
      refine (IR.out _ (HW.out.later BB.out)).mono ?_
      rintro e wC ⟨v3, rfl, o3, hb⟩
      have BC := Lib.hid (Later.trans BB.out hb)
      have TC := Lib.hid (TB.out.later hb)
      obtain ⟨a3, cap3, rfl, _, t3, _, _, _⟩ := o3.tks
      rw [← HN.out] at t3 ⊢
      have T3 := Lib.hid t3
      clear hb o3 t3 TB
      go_wp2_with (go_at_call 22; refine (l_likeTokens_same _ _ n cap3 n cap1 L _ T3.out TC.out).mono ?_; rintro e wD ⟨rfl, hb⟩; have BD := Lib.hid (Later.trans BC.out hb); clear hb)
      go_ret
      exact ⟨rfl, BD.out⟩
  · have hE' : (E != 0) = true := by simpa using hE0
    clear hE0 HRT
    go_wp2_with fail
    go_ret
    exact ⟨rfl, BB.out⟩
end Go.Proofs.YtpeebgkgccacbaaDoor
