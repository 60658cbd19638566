/- Tokens drawn: lists; the walk of the law on tokens. -/
import Derived.Test.YtpeebgkgccacbaaDoorTkH
import Derived.Test.YtpeebgkgccacbaaDoorTkX
namespace Go.Proofs.YtpeebgkgccacbaaDoor
open Go.RowKit Go.Shelf
set_option maxHeartbeats 4000000
set_option maxRecDepth 100000
set_option linter.unusedVariables false
set_option linter.unusedSimpArgs false
/-- how long a slice is -/
def lnOf : Value → Nat
  | .slice _ n _ => n
  | _ => 0
def T13 (L : List Tkn) : Prop := ∀ x ∈ L, x.2.length ≤ 13
theorem T13.app {L : List Tkn} (h : T13 L) {k : Int} {t : List UInt8} (ht : t.length ≤ 13) : T13 (L ++ [(k, t)]) := by
  intro x hx
  rcases List.mem_append.1 hx with hx | hx
  · exact h x hx
  · simp at hx; rw [hx]; exact ht
/-- a list drawn -/
def DrLs (B : Nat) (a : Option Addr) (len cap : Nat) (w : World) (e : Ending) (w' : World) : Prop :=
  ∃ (v : Value) (L : List Tkn), e = .returned v ∧ OwnK w' w.heap.size 33 v L ∧ L.length ≤ 801 ∧ T13 L ∧ Src w' B a len cap ∧ w.grownBy w' (some B)
theorem s_DrawList12 (B : Nat) (a : Option Addr) (len cap : Nat) (w : World) (hs : Src w B a len cap) (hab : 0 < len → ∀ x, a = some x → x.block < B) : Calls Tryd.prog 39 #[.pointer (some ⟨B, 0, none⟩)] w (DrLs B a len cap w) := by
  have HS := Lib.hid hs
  have HAB := Lib.hid hab
  have hB := hs.lt
  clear hs hab
  have O0 := Lib.hid (ownK_new w w.heap.size 33 (Nat.le_refl _))
  go_enter Tryd.func39, Tryd.ntmps39
  go_wp2_with fail
  refine (s_Next B a len cap 12 _ (HS.out.alloc _) (by omega) (by omega)).mono ?_
  rintro e w1 ⟨q, rfl, q0, q1, q2, src, gr⟩
  have S1 := Lib.hid src
  have G1 := Lib.hid (grown_trans (World.grownBy_alloc w _ (some B)) gr)
  have O1 := Lib.hid (O0.out.kept gr (fun k hk e => by have h1 := (O0.out.lt k hk).1; have := Option.some.inj e; omega))
  have hq := q1 (by omega)
  obtain ⟨qn, rfl⟩ := Int.eq_ofNat_of_zero_le q0
  clear src gr q1 q2
  go_wp2_with fail
  go_loopw [3, 4] (fun v i wr => ∃ (L : List Tkn) (k : Nat), i = .int .i64 k ∧ k ≤ 11 ∧ L.length ≤ 11 - k ∧ T13 L ∧ OwnK wr w.heap.size 33 v L ∧ Src wr B a len cap ∧ w.grownBy wr (some B)) (fun _ i _ => (intOf i).toNat)
  case atStart => exact ⟨[], qn, rfl, by omega, by simp, fun x hx => by simp at hx, O1.out, S1.out, G1.out⟩
  case round =>
    obtain ⟨L, k, rfl, hk, hL, hT, ho, src, gr⟩ := hrel
    have S3 := Lib.hid src; have G3 := Lib.hid gr; have O3 := Lib.hid ho; have HT := Lib.hid hT
    have hz := gr.size
    clear S1 G1 O1 O0 hT
    by_cases hk0 : k = 0
    · have e0 : decide ((0 : Int) < (k : Int)) = false := by simp; omega
      have e1 : ¬ (0 : Int) < (k : Int) := by omega
      have e2 : ¬ 0 < k := by omega
      have e3 : decide (0 < k) = false := by simpa using e2
      have hL11 : L.length ≤ 11 := by omega
      clear hk0 src gr ho
      go_wp2_with fail
      refine (s_Next B a len cap 60 _ S3.out (by omega) (by omega)).mono ?_
      rintro e w4 ⟨q, rfl, q0, q1, q2, src, gr⟩
      have S4 := Lib.hid src; have G4 := Lib.hid (grown_trans G3.out gr)
      have O4 := Lib.hid (O3.out.kept gr (fun k hk e => by have h1 := (O3.out.lt k hk).1; have := Option.some.inj e; omega))
      have hz4 := G4.out.size
      clear src gr q1 q2
      by_cases hq0 : q = 0
      · subst hq0
        go_wp2_with fail
        go_loopw [3] (fun v wr => ∃ L : List Tkn, L.length ≤ 801 ∧ T13 L ∧ OwnK wr w.heap.size 33 v L ∧ Src wr B a len cap ∧ w.grownBy wr (some B)) (fun v _ => 802 - lnOf v)
        case atStart => exact ⟨L, by omega, HT.out, O4.out, S4.out, G4.out⟩
        case round =>
          obtain ⟨M, hM, hT2, ho, src, gr⟩ := hrel
          obtain ⟨am, cm, rfl, _, _, _, _, hmx⟩ := ho.tks
          have S5 := Lib.hid src; have G5 := Lib.hid gr; have O5 := Lib.hid ho; have HT2 := Lib.hid hT2
          clear src gr ho hT2
          go_wp2_with fail
          refine (s_Next B a len cap 2 _ S5.out (by omega) (by omega)).mono ?_
          rintro e w6 ⟨r, rfl, r0, r1, r2, src, gr⟩
          have hr2 := r1 (by omega)
          have S6 := Lib.hid src; have G6 := Lib.hid (grown_trans G5.out gr)
          have O6 := Lib.hid (O5.out.kept gr (fun k hk e => by have h1 := (O5.out.lt k hk).1; have := Option.some.inj e; omega))
          have hz6 := G6.out.size
          clear src gr r1 r2
          by_cases hlt : (M.length : Int) < 800 + r
          · have hd : decide ((M.length : Int) < 800 + r) = true := by simpa using hlt
            go_wp2_with (at_builtin; go_must (refine appK rfl _ _ 33 24 _ 24 info_tkn Tryd.underlying24 rfl (by omega) rfl w.heap.size _ _ _ M 3 [59] O6.out rfl rfl ⟨⟨by decide, by decide⟩, by decide⟩ (by omega) hz6 ?_; intro v' w7 ho hgr))
            have S7 := Lib.hid (S6.out.kept2 HAB.out hgr (fun k hk => by have h1 := (O6.out.lt k hk).1; omega))
            have G7 := Lib.hid (grownA_then G6.out hgr (fun k hk => (O6.out.lt k hk).1))
            have O7 := Lib.hid ho
            obtain ⟨a7, c7, rfl, _, _, _, _, _⟩ := ho.tks
            clear ho hgr
            go_wp2_with fail
            go_roundw
            case rel => exact ⟨M ++ [(3, [59])], by simp; omega, HT2.out.app (by decide), O7.out, S7.out, G7.out⟩
            case measure => simp [lnOf]; omega
          · have hd : decide ((M.length : Int) < 800 + r) = false := by simpa using hlt
            go_wp2_with fail
            go_ret
            exact ⟨_, M, rfl, O6.out, by omega, HT2.out, S6.out, G6.out⟩
      · have hq' : (q == 0) = false := by simpa using hq0
        clear hq0
        go_wp2_with fail
        go_ret
        exact ⟨_, L, rfl, O4.out, by omega, HT.out, S4.out, G4.out⟩
    · have e0 : decide ((0 : Int) < (k : Int)) = true := by simp; omega
      have e1 : (0 : Int) < (k : Int) := by omega
      have e2 : 0 < k := by omega
      have e3 : decide (0 < k) = true := by simpa using e2
      have ekw : IntKind.i64.wrap ((k : Int) - 1) = ((k - 1 : Nat) : Int) := by rw [show (k : Int) - 1 = ((k - 1 : Nat) : Int) by omega]; exact IntWalk.i64_in _ (by omega)
      clear hk0 src gr ho
      go_wp2_with fail
      refine (s_DrawToken12 B a len cap _ S3.out HAB.out).mono ?_
      rintro e w4 ⟨kk, t, rfl, hkk, ht, src, gr⟩
      have S4 := Lib.hid src; have G4 := Lib.hid (grown_trans G3.out gr)
      have O4 := Lib.hid (O3.out.kept gr (fun k hk e => by have h1 := (O3.out.lt k hk).1; have := Option.some.inj e; omega))
      have hz4 := G4.out.size
      have HK : Hid (TkR (kk, t)) := Lib.hid ⟨hkk, by show t.length ≤ 1048576; omega⟩
      clear src gr
      go_wp2_with (at_builtin; go_must (refine appK rfl _ _ 33 24 _ 24 info_tkn Tryd.underlying24 rfl (by omega) rfl w.heap.size _ _ _ L kk t O4.out rfl rfl HK.out (by omega) hz4 ?_; intro v' w7 ho hgr))
      have S7 := Lib.hid (S4.out.kept2 HAB.out hgr (fun k hk => by have h1 := (O4.out.lt k hk).1; omega))
      have G7 := Lib.hid (grownA_then G4.out hgr (fun k hk => (O4.out.lt k hk).1))
      have O7 := Lib.hid ho
      clear ho hgr
      go_wp2_with fail
      go_roundw
      case rel => exact ⟨L ++ [(kk, t)], k - 1, rfl, by omega, by simp; omega, HT.out.app ht, O7.out, S7.out, G7.out⟩
      case measure => simp [intOf]; omega
/-- a list drawn from a code -/
def DrLc (w : World) (v : Value) (w' : World) : Prop := ∃ L : List Tkn, OwnK w' w.heap.size 33 v L ∧ L.length ≤ 801 ∧ T13 L ∧ Later w w'
theorem s_DrawStandardText (a : Option Addr) (len cap : Nat) (w : World) (hs : Bytes w a len) : Calls Tryd.prog 12 #[.slice a len cap] w (fun e w' => ∃ v, e = .returned v ∧ DrLc w v w') := by
  have HS := Lib.hid hs
  have HAB := Lib.hid hs.low
  clear hs
  go_enter Tryd.func12, Tryd.ntmps12
  go_wp2_with fail
  refine (s_From a len cap w HS.out).mono ?_
  rintro e w1 ⟨rfl, src, lt, bel⟩
  have S1 := Lib.hid src; have B1 := Lib.hid bel
  clear src bel
  go_wp2_with fail
  refine (s_DrawList12 w.heap.size a len cap _ S1.out HAB.out).mono ?_
  rintro e w2 ⟨v, L, rfl, ho, hL, hT, src, gr⟩
  have B2 : Hid (Later w w2) := Lib.hid (B1.out.trans (grown_below gr (Nat.le_refl _) (Nat.le_of_lt lt)))
  have O2 := Lib.hid (ho.mono (Nat.le_of_lt lt))
  have HT := Lib.hid hT
  clear src gr ho hT
  go_wp2_with fail
  go_ret
  exact ⟨v, rfl, L, O2.out, hL, HT.out, B2.out⟩
theorem s_DrawCountWords (a : Option Addr) (len cap : Nat) (w : World) (hs : Bytes w a len) : Calls Tryd.prog 15 #[.slice a len cap] w (fun e w' => ∃ v u, e = .returned (.tuple #[v, .string (tx u)]) ∧ u.length ≤ 13 ∧ DrLc w v w') := by
  have HS := Lib.hid hs
  have HAB := Lib.hid hs.low
  clear hs
  go_enter Tryd.func15, Tryd.ntmps15
  go_wp2_with fail
  refine (s_From a len cap w HS.out).mono ?_
  rintro e w1 ⟨rfl, src, lt, bel⟩
  have S1 := Lib.hid src; have B1 := Lib.hid bel
  clear src bel
  go_wp2_with fail
  refine (s_DrawList12 w.heap.size a len cap _ S1.out HAB.out).mono ?_
  rintro e w2 ⟨v, L, rfl, ho, hL, hT, src, gr⟩
  have S2 := Lib.hid src
  have B2 : Hid (Later w w2) := Lib.hid (B1.out.trans (grown_below gr (Nat.le_refl _) (Nat.le_of_lt lt)))
  have O2 := Lib.hid (ho.mono (Nat.le_of_lt lt))
  have HT := Lib.hid hT
  have NB : Hid (∀ k, v.ownBlock = some k → some w.heap.size ≠ some k) := Lib.hid (fun k hk e => by have h1 := (ho.lt k hk).1; have := Option.some.inj e; omega)
  obtain ⟨av, cv, rfl, _, _, _, _, _⟩ := ho.tks
  clear src gr ho hT
  go_wp2_with fail
  refine (s_Next w.heap.size a len cap 12 _ S2.out (by omega) (by omega)).mono ?_
  rintro e w3 ⟨q, rfl, q0, q1, q2, src, gr⟩
  have S3 := Lib.hid src
  have B3 : Hid (Later w w3) := Lib.hid (B2.out.trans' gr (Nat.le_refl _))
  have O3 := Lib.hid (O2.out.kept gr NB.out)
  clear src gr q1 q2
  by_cases hq0 : q = 0
  · subst hq0
    go_wp2_with fail
    go_ret2
    exact ⟨_, [66, 97, 100], rfl, by decide, L, O3.out, hL, HT.out, B3.out⟩
  · have hq' : (q == 0) = false := by simpa using hq0
    clear hq0
    go_wp2_with fail
    refine (s_DrawWord12 w.heap.size a len cap _ S3.out).mono ?_
    rintro e w4 ⟨u, rfl, hu, src, gr⟩
    have B4 : Hid (Later w w4) := Lib.hid (B3.out.trans' gr (Nat.le_refl _))
    have O4 := Lib.hid (O3.out.kept gr NB.out)
    clear src gr
    go_wp2_with fail
    go_ret2
    exact ⟨_, u, rfl, hu, L, O4.out, hL, HT.out, B4.out⟩
theorem s_DrawIsToken (a : Option Addr) (len cap : Nat) (w : World) (hs : Bytes w a len) : Calls Tryd.prog 18 #[.slice a len cap] w (fun e w' => ∃ (k : Int) (t : List UInt8), e = .returned (.agg #[.int .i64 k, .string (tx t)]) ∧ InR k ∧ t.length ≤ 13 ∧ Later w w') := by
  have HS := Lib.hid hs
  have HAB := Lib.hid hs.low
  clear hs
  have X0 : Hid (Bz (w.alloc (.cells #[.int .i64 0, .string ⟨#[]⟩] 33)) w.heap.size) := Lib.hid (heap_alloc_new w _)
  go_enter Tryd.func18, Tryd.ntmps18
  go_wp2_with fail
  refine (s_From a len cap _ (HS.out.later ((Below.refl _ _).alloc (Nat.le_refl _) _))).mono ?_
  rintro e w1 ⟨rfl, src, lt, bel⟩
  rw [World.size_alloc] at src lt bel ⊢
  have S1 := Lib.hid src
  have B1 : Hid (Later w w1) := Lib.hid (((Below.refl _ _).alloc (Nat.le_refl _) _).trans (bel.mono (Nat.le_succ _)))
  have X1 : Hid (Bz w1 w.heap.size) := Lib.hid ((bel.block w.heap.size (Nat.lt_succ_self _)).trans (heap_alloc_new w _))
  clear src bel
  go_wp2_with fail
  refine (s_DrawToken12 (w.heap.size + 1) a len cap _ S1.out (fun h x e => Nat.lt_succ_of_lt (HAB.out h x e))).mono ?_
  rintro e w2 ⟨k, t, rfl, hk, ht, src, gr⟩
  have B2 : Hid (Later w w2) := Lib.hid (B1.out.trans' gr (Nat.le_succ _))
  have X2 := Lib.hid (X1.out.kept gr (fun e => by have := Option.some.inj e; omega))
  have x0 := X2.out.c0; have x1 := X2.out.c1; have f0 := X2.out.fr 0; have f1 := X2.out.fr 1
  clear src gr
  go_wp2_with fail
  refine bodyPost_ret (v := .agg #[.int .i64 k, .string (tx t)]) (by simp [results, Tryd.results18, go_sem, *] <;> first | rfl | omega) rfl ⟨k, t, rfl, hk, ht, (by repeat (first | exact B2.out | refine Later.setCell ?_ (Nat.le_refl _) _))⟩
end Go.Proofs.YtpeebgkgccacbaaDoor
