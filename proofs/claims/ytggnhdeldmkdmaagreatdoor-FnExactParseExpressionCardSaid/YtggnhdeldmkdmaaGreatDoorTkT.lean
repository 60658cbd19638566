/- Tokens, of the model: one step of reading a text (l12Next). -/
import Derived.Test.YtggnhdeldmkdmaaGreatDoorTkS
import Derived.Test.YtggnhdeldmkdmaaGreatDoorTks
namespace Go.Proofs.YtggnhdeldmkdmaaGreatDoor
open Go.RowKit Go.Shelf
set_option maxHeartbeats 4000000
set_option maxRecDepth 100000
set_option linter.unusedVariables false
set_option linter.unusedSimpArgs false
/-- what l12Next hands back at byte k of the text l: a token or nothing, where it ends, whether it is right -/
def NxE (l : List UInt8) (k : Nat) (K : Int) (t : List UInt8) (n : Nat) (ok : Bool) : Prop :=
  k < n ∧ n ≤ l.length ∧
  ((K = 0 ∧ ok = true ∧ rd (l.drop k) k = rd (l.drop n) n) ∨
   (ok = false ∧ rd (l.drop k) k = ([], (k : Int))) ∨
   (∃ q : Nat, q ≠ 0 ∧ K = q ∧ ok = true ∧ rd (l.drop k) k = ((q, t) :: (rd (l.drop n) n).1, (rd (l.drop n) n).2))) ∧ 0 ≤ K ∧ K ≤ 3 ∧ t.length ≤ l.length
def Nxt (l : List UInt8) (k : Nat) (w : World) (e : Ending) (w' : World) : Prop :=
  ∃ K t n ok, e = .returned (.tuple #[.agg #[.int .i64 K, .string (tx t)], .int .i64 (n : Nat), .bool ok]) ∧ NxE l k K t n ok ∧ Later w w'
theorem ext_tx2 (s : ByteArray) (a b : Nat) : s.extract a b = tx ((s.data.toList.drop a).take (b - a)) := by
  apply ByteArray.ext
  apply Array.toList_inj.1
  rw [Lib.extract_data]; rfl
/-! where runs end -/
theorem cml_run (l : List UInt8) (k n : Nat) (hn : k + 1 ≤ n) (hn2 : n ≤ l.length) (h1 : ∀ j (hj : j < l.length), k + 1 ≤ j → j < n → (l[j]).toNat ≠ 10) (h2 : ∀ h : n < l.length, (l[n]).toNat = 10) : cml (l.drop (k + 1)) = n - (k + 1) := by
  refine cml_at _ (n - (k + 1)) (by rw [List.length_drop]; omega) (fun j hj => ?_) (fun h => ?_)
  · rw [List.getElem_drop]; exact h1 _ _ (by omega) (by omega)
  · rw [List.getElem_drop]
    rw [List.length_drop] at h
    have := h2 (by omega)
    have e : k + 1 + (n - (k + 1)) = n := by omega
    simp only [e]; exact this
theorem wln_run (l : List UInt8) (k n : Nat) (hn : k ≤ n) (hn2 : n ≤ l.length) (h1 : ∀ j (hj : j < l.length), k ≤ j → j < n → innB l[j] = true) (h2 : ∀ h : n < l.length, innB l[n] = false) : wln (l.drop k) = n - k := by
  refine wln_at _ (n - k) (by rw [List.length_drop]; omega) (fun j hj => ?_) (fun h => ?_)
  · rw [List.getElem_drop]; exact h1 _ _ (by omega) (by omega)
  · rw [List.getElem_drop]
    rw [List.length_drop] at h
    have := h2 (by omega)
    have e : k + (n - k) = n := by omega
    simp only [e]; exact this
theorem dln_run (l : List UInt8) (k n : Nat) (hn : k ≤ n) (hn2 : n ≤ l.length) (h1 : ∀ j (hj : j < l.length), k ≤ j → j < n → digB l[j] = true) (h2 : ∀ h : n < l.length, digB l[n] = false) : dln (l.drop k) = n - k := by
  refine dln_at _ (n - k) (by rw [List.length_drop]; omega) (fun j hj => ?_) (fun h => ?_)
  · rw [List.getElem_drop]; exact h1 _ _ (by omega) (by omega)
  · rw [List.getElem_drop]
    rw [List.length_drop] at h
    have := h2 (by omega)
    have e : k + (n - k) = n := by omega
    simp only [e]; exact this
theorem nx_tok (l : List UInt8) (k n q : Nat) (b : UInt8) (hd : l.drop k = b :: l.drop (k + 1)) (g1 : b.toNat ≠ 32) (g2 : b.toNat ≠ 10) (g3 : b.toNat ≠ 35) (hn : k < n) (hn2 : n ≤ l.length) (hp : prt (l.drop k) = (l.drop k).take (n - k)) (hq : kdB (prt (l.drop k)) = q) (q0 : q ≠ 0) (q3 : q ≤ 3) : NxE l k q ((l.drop k).take (n - k)) n true := by
  have h := rd_tok b (l.drop (k + 1)) k g1 g2 g3 (by rw [← hd, hq]; exact q0)
  rw [← hd, hq, hp] at h
  have hl : ((l.drop k).take (n - k)).length = n - k := by rw [List.length_take, List.length_drop]; omega
  rw [hl, List.drop_drop, show k + (n - k) = n by omega] at h
  exact ⟨hn, hn2, .inr (.inr ⟨q, q0, rfl, rfl, h⟩), by omega, by omega, by omega⟩
theorem nx_bad (l : List UInt8) (k n : Nat) (K : Int) (b : UInt8) (hd : l.drop k = b :: l.drop (k + 1)) (g1 : b.toNat ≠ 32) (g2 : b.toNat ≠ 10) (g3 : b.toNat ≠ 35) (hn : k < n) (hn2 : n ≤ l.length) (hq : kdB (prt (l.drop k)) = 0) (k0 : 0 ≤ K) (k3 : K ≤ 3) : NxE l k K ((l.drop k).take (n - k)) n false := by
  have h := rd_bad b (l.drop (k + 1)) k g1 g2 g3 (by rw [← hd, hq])
  rw [← hd] at h
  have hl : ((l.drop k).take (n - k)).length = n - k := by rw [List.length_take, List.length_drop]; omega
  exact ⟨hn, hn2, .inr (.inl ⟨rfl, h⟩), k0, k3, by omega⟩
theorem s_Next12 (s : ByteArray) (k : Nat) (w : World) (hs : s.size ≤ 1048576) (hk : k < s.size) : Calls Tryz.prog 135 #[.string s, .int .i64 k] w (Nxt s.data.toList k w) := by
  obtain ⟨l, hl⟩ : ∃ l, l = s.data.toList := ⟨_, rfl⟩
  have hlen : l.length = s.size := by rw [hl]; rfl
  have AT : Hid (∀ k (h : k < s.size), l[k]'(by omega) = s[k]) := Lib.hid (by
    intro k hk
    simp only [hl]; rfl)
  have EX : Hid (∀ b, s.extract k b = tx ((l.drop k).take (b - k))) := Lib.hid (fun b => by rw [ext_tx2, ← hl])
  rw [← hl]
  clear hl
  have hkl : k < l.length := by omega
  have hd : l.drop k = l[k] :: l.drop (k + 1) := List.drop_eq_getElem_cons hkl
  rw [AT.out k hk] at hd
  have HD := Lib.hid hd
  clear hd
  have hx : s[k].toNat < 256 := s[k].toNat_lt
  have LT := Lib.hid (s_Letter s[k]); have DT := Lib.hid (s_Digit s[k])
  by_cases c1 : s[k].toNat = 32 ∨ s[k].toNat = 10
  · have NX : Hid (NxE l k 0 [] (k + 1) true) := Lib.hid ⟨by omega, by omega, .inl ⟨rfl, rfl, by rw [HD.out]; exact rd_sp s[k] _ k c1⟩, by omega, by omega, by simp⟩
    rcases c1 with c1 | c1
    · have e1 : ((s[k].toNat : Int) == 32) = true := by simp; omega
      clear c1
      go_enter Tryz.func135, Tryz.ntmps135
      go_wp2_with fail
      refine bodyPost_ret (v := .tuple #[.agg #[.int .i64 0, .string (tx [])], .int .i64 ((k + 1 : Nat) : Int), .bool true]) (by simp [results, Tryz.results135, go_sem, *] <;> first | rfl | omega) rfl ⟨0, [], k + 1, true, rfl, NX.out, (by repeat (first | (with_reducible exact Later.refl _) | (with_reducible exact Hid.out (by assumption)) | (with_reducible refine Later.alloc ?_ _) | (with_reducible refine Later.setCell ?_ (by simp; omega) _) | (with_reducible refine Later.setCell ?_ (by simp) _) | (with_reducible refine Later.drewN ?_ _) | (with_reducible refine Later.drew ?_) | (with_reducible refine Later.trans ?_ (Hid.out (by assumption)))))⟩
    · have e1 : ((s[k].toNat : Int) == 32) = false := by simp; omega
      have e2 : ((s[k].toNat : Int) == 10) = true := by simp; omega
      clear c1
      go_enter Tryz.func135, Tryz.ntmps135
      go_wp2_with fail
      refine bodyPost_ret (v := .tuple #[.agg #[.int .i64 0, .string (tx [])], .int .i64 ((k + 1 : Nat) : Int), .bool true]) (by simp [results, Tryz.results135, go_sem, *] <;> first | rfl | omega) rfl ⟨0, [], k + 1, true, rfl, NX.out, (by repeat (first | (with_reducible exact Later.refl _) | (with_reducible exact Hid.out (by assumption)) | (with_reducible refine Later.alloc ?_ _) | (with_reducible refine Later.setCell ?_ (by simp; omega) _) | (with_reducible refine Later.setCell ?_ (by simp) _) | (with_reducible refine Later.drewN ?_ _) | (with_reducible refine Later.drew ?_) | (with_reducible refine Later.trans ?_ (Hid.out (by assumption)))))⟩
  · have e1 : ((s[k].toNat : Int) == 32) = false := by simp; omega
    have e2 : ((s[k].toNat : Int) == 10) = false := by simp; omega
    have g1 : s[k].toNat ≠ 32 := by omega
    have g2 : s[k].toNat ≠ 10 := by omega
    have LC0 : Hid (Later w (w.alloc (.cells #[.int .i64 0, .string ⟨#[]⟩] 125))) := Lib.hid ((Later.refl _).alloc _)
    clear c1
    by_cases c3 : s[k].toNat = 35
    · have e3 : ((s[k].toNat : Int) == 35) = true := by simp; omega
      have HC3 := Lib.hid c3
      clear c3 g1 g2
      go_enter Tryz.func135, Tryz.ntmps135
      go_wp2_with fail
      go_loopw [8] (fun i wr => wr = w.alloc (.cells #[.int .i64 0, .string ⟨#[]⟩] 125) ∧ ∃ n : Nat, i = .int .i64 n ∧ k + 1 ≤ n ∧ n ≤ s.size ∧ Hid (∀ j (hj : j < s.size), k + 1 ≤ j → j < n → s[j].toNat ≠ 10)) (fun i _ => s.size - (intOf i).toNat)
      case atStart => exact ⟨rfl, k + 1, by go_num, by omega, by omega, Lib.hid (by intro j _ h1 h2; omega)⟩
      case round =>
        obtain ⟨rfl, n, rfl, hn1, hn2, HI⟩ := hrel
        have FIN : ∀ (h2 : ∀ h : n < s.size, s[n].toNat = 10), NxE l k 0 [] n true := fun h2 => by
          have hc := cml_run l k n hn1 (by omega) (fun j hj h3 h4 => by rw [AT.out j (by omega)]; exact HI.out j (by omega) h3 h4) (fun h => by rw [AT.out n (by omega)]; exact h2 (by omega))
          have hr := rd_cm s[k] (l.drop (k + 1)) k HC3.out
          rw [← HD.out, hc, List.drop_drop, show k + 1 + (n - (k + 1)) = n by omega] at hr
          exact ⟨by omega, by omega, .inl ⟨rfl, rfl, hr⟩, by omega, by omega, by simp⟩
        have HF := Lib.hid FIN
        clear FIN
        by_cases hlt : n < s.size
        · have hy : s[n].toNat < 256 := s[n].toNat_lt
          by_cases h10 : s[n].toNat = 10
          · have e4 : ((s[n].toNat : Int) != 10) = false := by simp; omega
            have NX := Lib.hid (HF.out (fun _ => h10))
            clear h10
            go_wp2_with fail
            refine bodyPost_ret (v := .tuple #[.agg #[.int .i64 0, .string (tx [])], .int .i64 (n : Int), .bool true]) (by simp [results, Tryz.results135, go_sem, *] <;> first | rfl | omega) rfl ⟨0, [], n, true, rfl, NX.out, (by repeat (first | (with_reducible exact Later.refl _) | (with_reducible exact Hid.out (by assumption)) | (with_reducible refine Later.alloc ?_ _) | (with_reducible refine Later.setCell ?_ (by simp; omega) _) | (with_reducible refine Later.setCell ?_ (by simp) _) | (with_reducible refine Later.drewN ?_ _) | (with_reducible refine Later.drew ?_) | (with_reducible refine Later.trans ?_ (Hid.out (by assumption)))))⟩
          · have e4 : ((s[n].toNat : Int) != 10) = true := by simp; omega
            have H10 := Lib.hid h10
            clear h10
            go_wp2_with fail
            go_roundw
            case rel =>
              refine ⟨trivial, n + 1, by go_num, by omega, by omega, Lib.hid ?_⟩
              intro j hj h1 h2
              rcases Nat.lt_or_ge j n with h3 | h3
              · exact HI.out j hj h1 h3
              · have : j = n := by omega
                subst this; exact H10.out
            case measure => simp [intOf]; omega
        · have NX := Lib.hid (HF.out (fun h => absurd h hlt))
          obtain rfl : n = s.size := by omega
          go_wp2_with fail
          refine bodyPost_ret (v := .tuple #[.agg #[.int .i64 0, .string (tx [])], .int .i64 (s.size : Int), .bool true]) (by simp [results, Tryz.results135, go_sem, *] <;> first | rfl | omega) rfl ⟨0, [], s.size, true, rfl, NX.out, (by repeat (first | (with_reducible exact Later.refl _) | (with_reducible exact Hid.out (by assumption)) | (with_reducible refine Later.alloc ?_ _) | (with_reducible refine Later.setCell ?_ (by simp; omega) _) | (with_reducible refine Later.setCell ?_ (by simp) _) | (with_reducible refine Later.drewN ?_ _) | (with_reducible refine Later.drew ?_) | (with_reducible refine Later.trans ?_ (Hid.out (by assumption)))))⟩
    · have e3 : ((s[k].toNat : Int) == 35) = false := by simp; omega
      have TOK := Lib.hid (fun n q => nx_tok l k n q s[k] HD.out g1 g2 c3)
      have BAD := Lib.hid (fun n K => nx_bad l k n K s[k] HD.out g1 g2 c3)
      clear c3 g1 g2
      cases c4 : letB s[k]
      · cases c5 : digB s[k]
        · skip
          have HC5 := Lib.hid c5
          have HC4 := Lib.hid c4
          have hk1 : k + 1 ≤ s.size := by omega
          have NX : Hid (NxE l k 3 ((l.drop k).take (k + 1 - k)) (k + 1) (sgnB ((l.drop k).take (k + 1 - k)))) := Lib.hid (by
            have h1 : (l.drop k).take (k + 1 - k) = [s[k]] := by rw [HD.out, show k + 1 - k = 1 by omega]; rfl
            have hq : kdB (prt (l.drop k)) = if sgnB [s[k]] = true then 3 else 0 := by
              rw [HD.out]; exact kd_oth HC4.out HC5.out
            rw [h1]
            cases hw : sgnB [s[k]]
            · rw [hw] at hq
              have := BAD.out (k + 1) 3 (by omega) (by omega) hq (by omega) (by omega)
              rwa [h1] at this
            · rw [hw] at hq
              obtain ⟨b, hb, hi, _⟩ := sgn_head hw
              have hb' : s[k] = b := by simpa using hb
              have hp : prt (l.drop k) = [s[k]] := by rw [HD.out]; exact prt_oth (by rw [hb']; exact hi)
              have := TOK.out (k + 1) 3 (by omega) (by omega) (by rw [hp, h1]) hq (by omega) (by omega)
              rwa [h1] at this)
          rw [c5] at DT
          rw [c4] at LT
          clear c4 c5
          obtain ⟨n, hn⟩ : ∃ n, n = k + 1 := ⟨_, rfl⟩
          have hnk : IntKind.i64.wrap ((k : Int) + 1) = (n : Int) := by rw [show (k : Int) + 1 = (n : Int) by omega]; exact IntWalk.i64_in _ (by omega)
          rw [← hn] at NX
          have hkn : k ≤ n := by omega
          have hns : n ≤ s.size := by omega
          have hns2 : (n : Int) ≤ (s.size : Int) := by omega
          clear hn hk1
          obtain ⟨u, hu⟩ : ∃ u, u = (l.drop k).take (n - k) := ⟨_, rfl⟩
          have hul : u.length ≤ 1048576 := by rw [hu, List.length_take, List.length_drop]; omega
          rw [← hu] at NX
          have WD : Hid (∀ W, Calls Tryz.prog 91 #[.string (tx u)] W fun e w' => e = .returned (.bool (sgnB u)) ∧ W = w') := Lib.hid (fun W => s_Sign (tx u) W)
          have EXN := EX.out n
          rw [← hu] at EXN
          obtain ⟨ok, hok⟩ : ∃ x, x = sgnB u := ⟨_, rfl⟩
          rw [← hok] at NX WD
          have hkn1 : k ≤ n := by omega
          have hkn2 : (k : Int) ≤ (n : Nat) := by omega
          have hkn3 : ((n : Nat) : Int) ≤ (s.size : Int) := by omega
          clear hu hok
          go_enter Tryz.func135, Tryz.ntmps135
          go_wp2_with (first | (go_at_call 149; refine (LT.out _).mono ?_; rintro e w' ⟨rfl, rfl⟩) | (go_at_call 153; refine (DT.out _).mono ?_; rintro e w' ⟨rfl, rfl⟩))
          go_region_with (go_at_call 91; refine (WD.out _).mono ?_; rintro e w' ⟨rfl, rfl⟩)
          all_goals
            go_wp2
            refine bodyPost_ret (v := .tuple #[.agg #[.int .i64 3, .string (tx u)], .int .i64 ((n : Nat) : Int), .bool ok]) (by simp [results, Tryz.results135, go_sem, *] <;> first | rfl | omega) rfl ⟨3, u, n, ok, rfl, NX.out, (by repeat (first | (with_reducible exact Later.refl _) | (with_reducible exact Hid.out (by assumption)) | (with_reducible refine Later.alloc ?_ _) | (with_reducible refine Later.setCell ?_ (by simp; omega) _) | (with_reducible refine Later.setCell ?_ (by simp) _) | (with_reducible refine Later.drewN ?_ _) | (with_reducible refine Later.drew ?_) | (with_reducible refine Later.trans ?_ (Hid.out (by assumption)))))⟩
        · skip
          have HC5 := Lib.hid c5
          have HC4 := Lib.hid c4
          rw [c5] at DT
          rw [c4] at LT
          clear c4 c5
          go_enter Tryz.func135, Tryz.ntmps135
          go_wp2_with (first | (go_at_call 149; refine (LT.out _).mono ?_; rintro e w' ⟨rfl, rfl⟩) | (go_at_call 153; refine (DT.out _).mono ?_; rintro e w' ⟨rfl, rfl⟩))
          go_loopw [8] (fun i wr => wr = w.alloc (.cells #[.int .i64 0, .string ⟨#[]⟩] 125) ∧ ∃ n : Nat, i = .int .i64 n ∧ k + 1 ≤ n ∧ n ≤ s.size ∧ Hid (∀ j (hj : j < s.size), k ≤ j → j < n → digB s[j] = true)) (fun i _ => s.size - (intOf i).toNat)
          case atStart => exact ⟨rfl, k + 1, by go_num, by omega, by omega, Lib.hid (by
            intro j _ h1 h2
            obtain rfl : j = k := by omega
            exact HC5.out)⟩
          case round =>
            obtain ⟨rfl, n, rfl, hn1, hn2, HI⟩ := hrel
            have FIN : Hid (∀ (h2 : ∀ h : n < s.size, digB s[n] = false) (ok : Bool), ok = (numB ((l.drop k).take (n - k)) && (decide (n = s.size) || !(innB ((l.drop n).headD 0)))) → NxE l k 2 ((l.drop k).take (n - k)) n ok) := Lib.hid (fun h2 ok hok => by
              have hc := dln_run l k n (by omega) (by omega) (fun j hj h3 h4 => by rw [AT.out j (by omega)]; exact HI.out j (by omega) h3 h4) (fun h => by rw [AT.out n (by omega)]; exact h2 (by omega))
              have h3 := kd_dig (t := l.drop (k + 1)) HC5.out ok (by
                rw [← HD.out, hc, hok, List.drop_drop, show k + (n - k) = n by omega]
                congr 2
                rw [List.length_drop]
                exact decide_eq_decide.2 (by omega))
              rw [← HD.out, hc] at h3
              cases ok
              · exact BAD.out n 2 (by omega) (by omega) (h3.2 rfl) (by omega) (by omega)
              · exact TOK.out n 2 (by omega) (by omega) (h3.1 rfl).2 (h3.1 rfl).1 (by omega) (by omega))
            by_cases hlt : n < s.size
            · have hy : s[n].toNat < 256 := s[n].toNat_lt
              have DN := Lib.hid (s_Digit s[n])
              cases h10 : digB s[n]
              · rw [h10] at DN
                have IN := Lib.hid (s_Inner s[n])
                have hh : (l.drop n).headD 0 = s[n] := by
                  rw [List.drop_eq_getElem_cons (show n < l.length by omega), AT.out n hlt]; rfl
                have NX := Lib.hid (FIN.out (fun _ => h10) (numB ((l.drop k).take (n - k)) && !(innB s[n])) (by rw [hh, decide_eq_false (by omega), Bool.false_or]))
                obtain ⟨x, hx2⟩ : ∃ x, x = innB s[n] := ⟨_, rfl⟩
                rw [← hx2] at NX IN
                have enl : ((n : Int) == (s.size : Int)) = false := by simp; omega
                clear h10 hh hx2 FIN
                obtain ⟨u, hu⟩ : ∃ u, u = (l.drop k).take (n - k) := ⟨_, rfl⟩
                have hul : u.length ≤ 1048576 := by rw [hu, List.length_take, List.length_drop]; omega
                rw [← hu] at NX
                have ND : Hid (∀ W, Calls Tryz.prog 90 #[.string (tx u)] W fun e w' => e = .returned (.bool (numB u)) ∧ Later W w') := Lib.hid (fun W => s_Number (tx u) W (by rw [tx_size]; exact hul))
                have EXN := EX.out n
                rw [← hu] at EXN
                obtain ⟨y, hy2⟩ : ∃ x, x = numB u := ⟨_, rfl⟩
                rw [← hy2] at NX ND
                have hkn1 : k ≤ n := by omega
                have hkn2 : (k : Int) ≤ (n : Nat) := by omega
                have hkn3 : ((n : Nat) : Int) ≤ (s.size : Int) := by omega
                clear hu hy2
                cases x <;> cases y
                all_goals
                  go_wp2_with (first | (go_at_call 153; refine (DN.out _).mono ?_; rintro e w' ⟨rfl, rfl⟩) | (go_at_call 90; refine (ND.out _).mono ?_; rintro e w5 ⟨rfl, hb⟩; obtain ⟨H5, hcc, hff, hzz⟩ := later_facts hb; clear hb; (try simp at hzz); have hz0 : w.heap.size < w5.heap.size := (by omega)) | (go_at_call 148; refine (IN.out _).mono ?_; rintro e w' ⟨rfl, rfl⟩))
                  first
                    | (refine bodyPost_ret (v := .tuple #[.agg #[.int .i64 2, .string (tx u)], .int .i64 (n : Nat), .bool true]) (by simp [results, Tryz.results135, go_sem, *] <;> first | rfl | omega) rfl ⟨2, u, n, true, rfl, NX.out, (by repeat (first | (with_reducible exact Later.refl _) | (with_reducible exact Hid.out (by assumption)) | (with_reducible refine Later.alloc ?_ _) | (with_reducible refine Later.setCell ?_ (by simp; omega) _) | (with_reducible refine Later.setCell ?_ (by simp) _) | (with_reducible refine Later.drewN ?_ _) | (with_reducible refine Later.drew ?_) | (with_reducible refine Later.trans ?_ (Hid.out (by assumption)))))⟩)
                    | (refine bodyPost_ret (v := .tuple #[.agg #[.int .i64 2, .string (tx u)], .int .i64 (n : Nat), .bool false]) (by simp [results, Tryz.results135, go_sem, *] <;> first | rfl | omega) rfl ⟨2, u, n, false, rfl, NX.out, (by repeat (first | (with_reducible exact Later.refl _) | (with_reducible exact Hid.out (by assumption)) | (with_reducible refine Later.alloc ?_ _) | (with_reducible refine Later.setCell ?_ (by simp; omega) _) | (with_reducible refine Later.setCell ?_ (by simp) _) | (with_reducible refine Later.drewN ?_ _) | (with_reducible refine Later.drew ?_) | (with_reducible refine Later.trans ?_ (Hid.out (by assumption)))))⟩)
              · rw [h10] at DN
                have H10 := Lib.hid h10
                clear h10
                go_wp2_with (go_at_call 153; refine (DN.out _).mono ?_; rintro e w' ⟨rfl, rfl⟩)
                go_roundw
                case rel =>
                  refine ⟨trivial, n + 1, by go_num, by omega, by omega, Lib.hid ?_⟩
                  intro j hj h1 h2
                  rcases Nat.lt_or_ge j n with h3 | h3
                  · exact HI.out j hj h1 h3
                  · have : j = n := by omega
                    subst this; exact H10.out
                case measure => simp [intOf]; omega
            · have NX := Lib.hid (FIN.out (fun h => absurd h hlt) (numB ((l.drop k).take (n - k))) (by rw [decide_eq_true (show n = s.size by omega), Bool.true_or, Bool.and_true]))
              obtain rfl : n = s.size := by omega
              clear FIN
              obtain ⟨u, hu⟩ : ∃ u, u = (l.drop k).take (s.size - k) := ⟨_, rfl⟩
              have hul : u.length ≤ 1048576 := by rw [hu, List.length_take, List.length_drop]; omega
              rw [← hu] at NX
              have ND : Hid (∀ W, Calls Tryz.prog 90 #[.string (tx u)] W fun e w' => e = .returned (.bool (numB u)) ∧ Later W w') := Lib.hid (fun W => s_Number (tx u) W (by rw [tx_size]; exact hul))
              have EXN := EX.out s.size
              rw [← hu] at EXN
              obtain ⟨y, hy2⟩ : ∃ x, x = numB u := ⟨_, rfl⟩
              rw [← hy2] at NX ND
              have hkn1 : k ≤ s.size := by omega
              have hkn2 : (k : Int) ≤ (s.size : Nat) := by omega
              clear hu hy2
              cases y
              all_goals
                go_wp2_with (go_at_call 90; refine (ND.out _).mono ?_; rintro e w5 ⟨rfl, hb⟩; obtain ⟨H5, hcc, hff, hzz⟩ := later_facts hb; clear hb; (try simp at hzz); have hz0 : w.heap.size < w5.heap.size := (by omega))
                first
                  | (refine bodyPost_ret (v := .tuple #[.agg #[.int .i64 2, .string (tx u)], .int .i64 (s.size : Nat), .bool true]) (by simp [results, Tryz.results135, go_sem, *] <;> first | rfl | omega) rfl ⟨2, u, s.size, true, rfl, NX.out, (by repeat (first | (with_reducible exact Later.refl _) | (with_reducible exact Hid.out (by assumption)) | (with_reducible refine Later.alloc ?_ _) | (with_reducible refine Later.setCell ?_ (by simp; omega) _) | (with_reducible refine Later.setCell ?_ (by simp) _) | (with_reducible refine Later.drewN ?_ _) | (with_reducible refine Later.drew ?_) | (with_reducible refine Later.trans ?_ (Hid.out (by assumption)))))⟩)
                  | (refine bodyPost_ret (v := .tuple #[.agg #[.int .i64 2, .string (tx u)], .int .i64 (s.size : Nat), .bool false]) (by simp [results, Tryz.results135, go_sem, *] <;> first | rfl | omega) rfl ⟨2, u, s.size, false, rfl, NX.out, (by repeat (first | (with_reducible exact Later.refl _) | (with_reducible exact Hid.out (by assumption)) | (with_reducible refine Later.alloc ?_ _) | (with_reducible refine Later.setCell ?_ (by simp; omega) _) | (with_reducible refine Later.setCell ?_ (by simp) _) | (with_reducible refine Later.drewN ?_ _) | (with_reducible refine Later.drew ?_) | (with_reducible refine Later.trans ?_ (Hid.out (by assumption)))))⟩)
      · skip
        have HC4 := Lib.hid c4
        rw [c4] at LT
        clear c4
        go_enter Tryz.func135, Tryz.ntmps135
        go_wp2_with (go_at_call 149; refine (LT.out _).mono ?_; rintro e w' ⟨rfl, rfl⟩)
        go_loopw [8] (fun i wr => wr = w.alloc (.cells #[.int .i64 0, .string ⟨#[]⟩] 125) ∧ ∃ n : Nat, i = .int .i64 n ∧ k + 1 ≤ n ∧ n ≤ s.size ∧ Hid (∀ j (hj : j < s.size), k ≤ j → j < n → innB s[j] = true)) (fun i _ => s.size - (intOf i).toNat)
        case atStart => exact ⟨rfl, k + 1, by go_num, by omega, by omega, Lib.hid (by
          intro j _ h1 h2
          obtain rfl : j = k := by omega
          exact let_inn _ HC4.out)⟩
        case round =>
          obtain ⟨rfl, n, rfl, hn1, hn2, HI⟩ := hrel
          have FIN : Hid (∀ (h2 : ∀ h : n < s.size, innB s[n] = false), NxE l k 1 ((l.drop k).take (n - k)) n (wrdB ((l.drop k).take (n - k)))) := Lib.hid (fun h2 => by
            have hc := wln_run l k n (by omega) (by omega) (fun j hj h3 h4 => by rw [AT.out j (by omega)]; exact HI.out j (by omega) h3 h4) (fun h => by rw [AT.out n (by omega)]; exact h2 (by omega))
            have hp : prt (l.drop k) = (l.drop k).take (n - k) := by
              rw [HD.out, prt_let (let_inn _ HC4.out), ← HD.out, hc]
            have hq : kdB (prt (l.drop k)) = if wrdB (prt (l.drop k)) = true then 1 else 0 := by
              rw [HD.out]; exact kd_let HC4.out
            rw [hp] at hq
            cases hw : wrdB ((l.drop k).take (n - k))
            · rw [hw] at hq
              exact BAD.out n 1 (by omega) (by omega) (by rw [hp]; exact hq) (by omega) (by omega)
            · rw [hw] at hq
              exact TOK.out n 1 (by omega) (by omega) hp (by rw [hp]; exact hq) (by omega) (by omega))
          by_cases hlt : n < s.size
          · have hy : s[n].toNat < 256 := s[n].toNat_lt
            have IN := Lib.hid (s_Inner s[n])
            cases h10 : innB s[n]
            · rw [h10] at IN
              have NX := Lib.hid (FIN.out (fun _ => h10))
              clear h10
              obtain ⟨u, hu⟩ : ∃ u, u = (l.drop k).take (n - k) := ⟨_, rfl⟩
              have hul : u.length ≤ 1048576 := by rw [hu, List.length_take, List.length_drop]; omega
              rw [← hu] at NX
              have WD : Hid (∀ W, Calls Tryz.prog 126 #[.string (tx u)] W fun e w' => e = .returned (.bool (wrdB u)) ∧ W = w') := Lib.hid (fun W => s_Word (tx u) W (by rw [tx_size]; exact hul))
              have EXN := EX.out n
              rw [← hu] at EXN
              obtain ⟨ok, hok⟩ : ∃ x, x = wrdB u := ⟨_, rfl⟩
              rw [← hok] at NX WD
              have hkn1 : k ≤ n := by omega
              have hkn2 : (k : Int) ≤ (n : Nat) := by omega
              have hkn3 : ((n : Nat) : Int) ≤ (s.size : Int) := by omega
              clear hu hok
              go_wp2_with (go_at_call 148; refine (IN.out _).mono ?_; rintro e w' ⟨rfl, rfl⟩)
              go_region_with (go_at_call 126; refine (WD.out _).mono ?_; rintro e w' ⟨rfl, rfl⟩)
              all_goals
                go_wp2
                refine bodyPost_ret (v := .tuple #[.agg #[.int .i64 1, .string (tx u)], .int .i64 ((n : Nat) : Int), .bool ok]) (by simp [results, Tryz.results135, go_sem, *] <;> first | rfl | omega) rfl ⟨1, u, n, ok, rfl, NX.out, (by repeat (first | (with_reducible exact Later.refl _) | (with_reducible exact Hid.out (by assumption)) | (with_reducible refine Later.alloc ?_ _) | (with_reducible refine Later.setCell ?_ (by simp; omega) _) | (with_reducible refine Later.setCell ?_ (by simp) _) | (with_reducible refine Later.drewN ?_ _) | (with_reducible refine Later.drew ?_) | (with_reducible refine Later.trans ?_ (Hid.out (by assumption)))))⟩
            · rw [h10] at IN
              have H10 := Lib.hid h10
              clear h10
              go_wp2_with (go_at_call 148; refine (IN.out _).mono ?_; rintro e w' ⟨rfl, rfl⟩)
              go_roundw
              case rel =>
                refine ⟨trivial, n + 1, by go_num, by omega, by omega, Lib.hid ?_⟩
                intro j hj h1 h2
                rcases Nat.lt_or_ge j n with h3 | h3
                · exact HI.out j hj h1 h3
                · have : j = n := by omega
                  subst this; exact H10.out
              case measure => simp [intOf]; omega
          · have NX := Lib.hid (FIN.out (fun h => absurd h hlt))
            obtain rfl : n = s.size := by omega
            obtain ⟨u, hu⟩ : ∃ u, u = (l.drop k).take (s.size - k) := ⟨_, rfl⟩
            have hul : u.length ≤ 1048576 := by rw [hu, List.length_take, List.length_drop]; omega
            rw [← hu] at NX
            have WD : Hid (∀ W, Calls Tryz.prog 126 #[.string (tx u)] W fun e w' => e = .returned (.bool (wrdB u)) ∧ W = w') := Lib.hid (fun W => s_Word (tx u) W (by rw [tx_size]; exact hul))
            have EXN := EX.out s.size
            rw [← hu] at EXN
            obtain ⟨ok, hok⟩ : ∃ x, x = wrdB u := ⟨_, rfl⟩
            rw [← hok] at NX WD
            have hkn1 : k ≤ s.size := by omega
            have hkn2 : (k : Int) ≤ (s.size : Nat) := by omega
            have hkn3 : ((s.size : Nat) : Int) ≤ (s.size : Int) := by omega
            clear hu hok
            go_wp2_with fail
            go_region_with (go_at_call 126; refine (WD.out _).mono ?_; rintro e w' ⟨rfl, rfl⟩)
            all_goals
              go_wp2
              refine bodyPost_ret (v := .tuple #[.agg #[.int .i64 1, .string (tx u)], .int .i64 ((s.size : Nat) : Int), .bool ok]) (by simp [results, Tryz.results135, go_sem, *] <;> first | rfl | omega) rfl ⟨1, u, s.size, ok, rfl, NX.out, (by repeat (first | (with_reducible exact Later.refl _) | (with_reducible exact Hid.out (by assumption)) | (with_reducible refine Later.alloc ?_ _) | (with_reducible refine Later.setCell ?_ (by simp; omega) _) | (with_reducible refine Later.setCell ?_ (by simp) _) | (with_reducible refine Later.drewN ?_ _) | (with_reducible refine Later.drew ?_) | (with_reducible refine Later.trans ?_ (Hid.out (by assumption)))))⟩
end Go.Proofs.YtggnhdeldmkdmaaGreatDoor
