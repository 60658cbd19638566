/- Expressions of a text, of both: ParseExpression. -/
import Derived.Test.YtggnhdeldmkdmaaGreatDoorPqL
import Derived.Test.YtggnhdeldmkdmaaGreatDoorPpV
namespace Go.Proofs.YtggnhdeldmkdmaaGreatDoor
open Go.RowKit Go.Shelf
set_option maxHeartbeats 4000000
set_option maxRecDepth 100000
set_option linter.unusedVariables false
set_option linter.unusedSimpArgs false
def peE (l : List UInt8) : Int := if pxE l = 0 then (if 40 < (pxL l).length then 3 else 0) else pxE l
def peL (l : List UInt8) : List Trm := if peE l = 0 then pxL l else []
/-- what ParseExpression hands back -/
def ReC (l : List UInt8) (w : World) (e : Ending) (w' : World) : Prop :=
  ∃ v, e = .returned (.tuple #[v, .int .i64 (peE l)]) ∧ OwnR w' w.heap.size 47 v (peL l) ∧ Later w w'
theorem i_ParseExpression (l : List UInt8) (w : World) (hl : l.length ≤ 1048576) (hW : Wst w) (hO : Ops w) : Calls Tryz.prog 22 #[.string (tx l)] w (ReC l w) := by
  have PC := Lib.hid (fun W h1 h2 => i_parsedT l W hl h1 h2)
  have HW := Lib.hid hW; have HO := Lib.hid hO
  have HR : Hid (∀ v e w', e = .returned (.tuple #[v, .int .i64 (peE l)]) → OwnR w' w.heap.size 47 v (peL l) → Later w w' → ReC l w e w') := Lib.hid (fun v e w' a b c => ⟨v, a, b, c⟩)
  obtain ⟨s, hs⟩ : ∃ s, s = tx l := ⟨_, rfl⟩
  rw [← hs] at PC ⊢
  clear hs hW hO
  go_enter Tryz.func22, Tryz.ntmps22
  go_wp2_with fail
  refine (PC.out _ HW.out HO.out).mono ?_
  rintro e w1 ⟨v, rfl, ho, hb⟩
  obtain ⟨a, cap, rfl, hcap, ht, _, _, hmx⟩ := ho.trs
  have HOW := Lib.hid ho; have HB := Lib.hid hb
  have HV : Hid (peE l = (if pxE l = 0 then (if 40 < (pxL l).length then 3 else 0) else pxE l) ∧ peL l = if peE l = 0 then pxL l else []) := Lib.hid ⟨rfl, rfl⟩
  generalize pxL l = A at HOW HV hmx ⊢
  obtain ⟨n, hn⟩ : ∃ n, n = A.length := ⟨_, rfl⟩
  have HN := Lib.hid hn
  rw [← hn] at HOW HV hmx ⊢
  clear ho hb ht hcap hn
  obtain ⟨c, hc⟩ : ∃ c, c = pxE l := ⟨_, rfl⟩
  rw [← hc] at HV ⊢
  clear hc
  by_cases h0 : c = 0
  · subst h0
    by_cases h40 : 40 < n
    · have HE : Hid (peE l = 3 ∧ peL l = []) := Lib.hid (by
        have h1 : peE l = 3 := by rw [HV.out.1, if_pos rfl, if_pos h40]
        refine ⟨h1, ?_⟩
        rw [HV.out.2, h1]; rfl)
      go_wp2_with fail
      refine bodyPost_ret (v := .tuple #[.slice none 0 0, .int .i64 3]) (by simp [results, Tryz.results22, go_sem, *]) rfl (HR.out _ _ _ (by rw [HE.out.1]) (by rw [HE.out.2]; exact ownR_none _ _ _) HB.out)
    · have HE : Hid (peE l = 0 ∧ peL l = A) := Lib.hid (by
        have h1 : peE l = 0 := by rw [HV.out.1, if_pos rfl, if_neg h40]
        refine ⟨h1, ?_⟩
        rw [HV.out.2, h1]; rfl)
      go_wp2_with fail
      refine bodyPost_ret (v := .tuple #[.slice a n cap, .int .i64 0]) (by simp [results, Tryz.results22, go_sem, *]) rfl (HR.out _ _ _ (by rw [HE.out.1]) (by rw [HE.out.2]; exact HOW.out) HB.out)
  · have HE : Hid (peE l = c ∧ peL l = []) := Lib.hid (by
      have h1 : peE l = c := by rw [HV.out.1, if_neg h0]
      refine ⟨h1, ?_⟩
      rw [HV.out.2, h1, if_neg h0])
    have e1 : (c != 0) = true := by simpa using h0
    go_wp2_with fail
    refine bodyPost_ret (v := .tuple #[.slice none 0 0, .int .i64 c]) (by simp [results, Tryz.results22, go_sem, *]) rfl (HR.out _ _ _ (by rw [HE.out.1]) (by rw [HE.out.2]; exact ownR_none _ _ _) HB.out)
theorem pe_bad {l : List UInt8} (h : rtE l = 0) (hx : pxR l = .bad) : peE l = 6 ∧ peL l = [] := by
  have h1 : pxE l = 6 := by unfold pxE; rw [if_pos h, hx]
  have h2 : peE l = 6 := by unfold peE; rw [h1]; rfl
  exact ⟨h2, by unfold peL; rw [h2]; rfl⟩
theorem pe_more {l : List UInt8} {a : List Trm} {x : List UInt8} {r : TT} (h : rtE l = 0) (hx : pxR l = .ok a (x :: r)) : peE l = 6 ∧ peL l = [] := by
  have h1 : pxE l = 6 := by unfold pxE; rw [if_pos h, hx]
  have h2 : peE l = 6 := by unfold peE; rw [h1]; rfl
  exact ⟨h2, by unfold peL; rw [h2]; rfl⟩
theorem pe_ok {l : List UInt8} {a : List Trm} (h : rtE l = 0) (hx : pxR l = .ok a []) : peE l = (if 40 < a.length then 3 else 0) ∧ peL l = (if 40 < a.length then [] else a) := by
  have h1 : pxE l = 0 := by unfold pxE; rw [if_pos h, hx]
  have h3 : pxL l = a := by unfold pxL; rw [if_pos h, hx]
  have h2 : peE l = (if 40 < a.length then 3 else 0) := by unfold peE; rw [h1, h3]; rfl
  refine ⟨h2, ?_⟩
  unfold peL
  rw [h2, h3]
  split <;> simp_all
theorem pe_read {l : List UInt8} (h : rtE l ≠ 0) : peE l = rtE l ∧ peL l = [] := by
  have h1 : pxE l = rtE l := by unfold pxE; rw [if_neg h]
  have h2 : peE l = rtE l := by unfold peE; rw [h1, if_neg h]
  exact ⟨h2, by unfold peL; rw [h2, if_neg h]⟩
theorem s_ParseExpression (l : List UInt8) (w : World) (hl : l.length ≤ 1048576) : Calls Tryz.prog 23 #[.string (tx l)] w (ReC l w) := by
  have RT := Lib.hid (fun W => s_ReadTokens (tx l) W hl)
  rw [tx_data] at RT
  have HR : Hid (∀ v e w', e = .returned (.tuple #[v, .int .i64 (peE l)]) → OwnR w' w.heap.size 47 v (peL l) → Later w w' → ReC l w e w') := Lib.hid (fun v e w' a b c => ⟨v, a, b, c⟩)
  obtain ⟨s, hs⟩ : ∃ s, s = tx l := ⟨_, rfl⟩
  rw [← hs] at RT ⊢
  clear hs
  go_enter Tryz.func23, Tryz.ntmps23
  go_wp2_with fail
  refine (RT.out _).mono ?_
  rintro e w1 ⟨v, rfl, ho, hb⟩
  have L1 := Lib.hid hb
  obtain ⟨a, cap, rfl, hcap, hT, hab, _, _⟩ := ho.tks
  have HT := Lib.hid hT
  have HAB := Lib.hid hab
  clear hb ho hT hab
  by_cases hE : rtE l = 0
  · rw [hE]
    have HTL : Hid ((rtL l).map (·.2) = tkT l) := Lib.hid (by unfold rtL; rw [if_pos hE, tkI_tx]; rfl)
    have hlen : (rtL l).length ≤ 800 := by
      unfold rtL
      rw [if_pos hE]
      unfold rtE at hE
      split at hE
      · cases hE
      · split at hE
        · cases hE
        · split at hE
          · cases hE
          · unfold tkI; rw [List.length_map]; omega
    obtain ⟨n, hn⟩ : ∃ n, n = (rtL l).length := ⟨_, rfl⟩
    have hnT : (tkT l).length = n := by rw [← HTL.out, List.length_map, hn]
    rw [← hn] at HT hcap hlen ⊢
    have HPB := Lib.hid (pe_bad hE); have HPM := Lib.hid (@pe_more l · · · hE); have HPO := Lib.hid (@pe_ok l · hE)
    clear hn hE
    have F3 : Hid (Fr w1.heap.size [.slice a n cap, .int .i64 0, .bool false] (w1.alloc (.cells #[.slice a n cap, .int .i64 0, .bool false] 84))) := Lib.hid (fr_alloc (Later.refl _))
    have L3 := Lib.hid (L1.out.alloc (.cells #[.slice a n cap, .int .i64 0, .bool false] 84))
    have T3 := Lib.hid (HT.out.later ((Later.refl w1).alloc (.cells #[.slice a n cap, .int .i64 0, .bool false] 84)))
    obtain ⟨q0, q1, q2, _, f1, f2⟩ := F3.out.o3
    have SG : Hid (SSt n (w1.alloc (.cells #[.slice a n cap, .int .i64 0, .bool false] 84)) w1.heap.size (tkT l) false) := Lib.hid ⟨a, n, cap, rtL l, 0, q0, q1, q2, f1, f2, T3.out, Nat.zero_le _, ⟨rfl, by omega⟩, fun x e => (HAB.out x e).2, by rw [List.drop_zero]; exact HTL.out, tkT_kd l⟩
    have CE := Lib.hid ((s_parts (N := n) (4 * (tkT l).length + 3)).1 (tkT l) _ w1.heap.size SG.out (by omega) (pxR_in l))
    have HPI := Lib.hid (pxR_in l)
    have CE : Hid (Calls Tryz.prog 63 #[.pointer (some ⟨w1.heap.size, 0, none⟩)] (w1.alloc (.cells #[.slice a n cap, .int .i64 0, .bool false] 84)) (RetS n (w1.alloc (.cells #[.slice a n cap, .int .i64 0, .bool false] 84)) w1.heap.size (tkT l) (pxR l))) := Lib.hid CE.out
    have HPR := Lib.hid (fun a r h => prs_ok (4 * (tkT l).length + 3) (.chain true) (tkT l) a r trivial h)
    have HPR : Hid (∀ a r, pxR l = .ok a r → a.length + r.length ≤ (tkT l).length + accL (.chain true) ∧ One1 a ∧ ∃ p, tkT l = p ++ r) := Lib.hid HPR.out
    clear q0 q1 q2 f1 f2 T3 SG
    generalize pxR l = X at CE HPI HPR HPB HPM HPO
    go_wp2_with fail
    generalize hg : w1.alloc (.cells #[.slice a n cap, .int .i64 0, .bool false] 84) = w3 at CE L3 ⊢
    have hs3 : w1.heap.size < w3.heap.size := by rw [← hg, World.size_alloc]; omega
    have hw13 : w.heap.size ≤ w3.heap.size := L3.out.size
    clear hg F3
    refine CE.out.mono ?_
    rintro e w4 ⟨hg4, hr⟩
    have hw1 : w.heap.size ≤ w1.heap.size := L1.out.size
    have L4 : Hid (Later w w4) := Lib.hid (Below.grown L3.out hg4 L3.out.size (fun q e => by have h2 : w1.heap.size = q := Option.some.inj e; omega))
    clear hg4 CE
    cases X with
    | out => exact absurd rfl HPI.out
    | bad =>
      obtain ⟨v, L, T', rfl, ho, hL, hl, hpn⟩ := hr
      obtain ⟨c2, f2⟩ := hpn.flag
      have HE := Lib.hid (HPB.out rfl)
      have hgl : w1.heap.size < w4.heap.size := hpn.lt
      clear ho hpn
      go_wp2_with fail
      refine bodyPost_ret (v := .tuple #[.slice none 0 0, .int .i64 6]) (by simp [results, Tryz.results23, go_sem, *]) rfl (HR.out _ _ _ (by rw [HE.out.1]) (by rw [HE.out.2]; exact ownR_none _ _ _) L4.out)
    | ok aa r =>
      obtain ⟨v, rfl, ho, hpn⟩ := hr
      obtain ⟨c2, f2⟩ := hpn.flag
      have hgl : w1.heap.size < w4.heap.size := hpn.lt
      cases r with
      | cons y r =>
        obtain ⟨k, c1, hkn⟩ := hpn.at_cons
        have HE := Lib.hid (HPM.out _ _ _ rfl)
        clear ho hpn
        go_wp2_with fail
        refine bodyPost_ret (v := .tuple #[.slice none 0 0, .int .i64 6]) (by simp [results, Tryz.results23, go_sem, *]) rfl (HR.out _ _ _ (by rw [HE.out.1]) (by rw [HE.out.2]; exact ownR_none _ _ _) L4.out)
      | nil =>
        have c1 := hpn.at_nil
        have HE := Lib.hid (HPO.out _ rfl)
        obtain ⟨la, oa, _⟩ := HPR.out aa [] rfl
        simp only [accL, List.length_nil] at la
        obtain ⟨ra, rcap, rfl, hrc, hrt, _, _, _⟩ := ho.trs
        have HO4 := Lib.hid (ho.mono hw13)
        have IE := Lib.hid (s_IsExpression ra aa.length rcap aa w4 hrt (by omega))
        rw [exB_one aa oa] at IE
        obtain ⟨m, hm⟩ : ∃ m, m = aa.length := ⟨_, rfl⟩
        rw [← hm] at IE HE
        have HO4 : Hid (OwnR w4 w.heap.size 47 (.slice ra m rcap) aa) := Lib.hid (by rw [hm]; exact HO4.out)
        rw [← hm]
        clear ho hpn hrt hrc oa hm
        by_cases h40 : m ≤ 40
        · rw [decide_eq_true h40] at IE
          rw [if_neg (by omega), if_neg (by omega)] at HE
          go_wp2_with fail
          refine IE.out.mono ?_
          rintro e w5 ⟨rfl, hb⟩
          have L5 := Lib.hid (Later.trans L4.out hb)
          have HO5 := Lib.hid (HO4.out.later hb)
          clear hb
          go_wp2_with fail
          refine bodyPost_ret (v := .tuple #[.slice ra m rcap, .int .i64 0]) (by simp [results, Tryz.results23, go_sem, *]) rfl (HR.out _ _ _ (by rw [HE.out.1]) (by rw [HE.out.2]; exact HO5.out) L5.out)
        · rw [decide_eq_false h40] at IE
          rw [if_pos (by omega), if_pos (by omega)] at HE
          go_wp2_with fail
          refine IE.out.mono ?_
          rintro e w5 ⟨rfl, hb⟩
          have L5 := Lib.hid (Later.trans L4.out hb)
          clear hb
          go_wp2_with fail
          refine bodyPost_ret (v := .tuple #[.slice none 0 0, .int .i64 3]) (by simp [results, Tryz.results23, go_sem, *]) rfl (HR.out _ _ _ (by rw [HE.out.1]) (by rw [HE.out.2]; exact ownR_none _ _ _) L5.out)
  · have HE := Lib.hid (pe_read hE)
    have e1 : (rtE l != 0) = true := by simpa using hE
    obtain ⟨c, hc⟩ : ∃ c, c = rtE l := ⟨_, rfl⟩
    rw [← hc] at HE e1 ⊢
    clear hE hc HT hcap
    generalize (rtL l).length = n
    go_wp2_with fail
    refine bodyPost_ret (v := .tuple #[.slice none 0 0, .int .i64 c]) (by simp [results, Tryz.results23, go_sem, *]) rfl (HR.out _ _ _ (by rw [HE.out.1]) (by rw [HE.out.2]; exact ownR_none _ _ _) L1.out)
end Go.Proofs.YtggnhdeldmkdmaaGreatDoor
