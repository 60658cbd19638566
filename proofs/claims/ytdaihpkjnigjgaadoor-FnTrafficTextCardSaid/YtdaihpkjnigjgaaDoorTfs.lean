/- Plain words on readings of a traffic's text. -/
import Derived.Test.YtdaihpkjnigjgaaDoorTfa
import Derived.Test.YtdaihpkjnigjgaaDoorTfr
import Derived.Test.YtdaihpkjnigjgaaDoorRdM
namespace Go.Proofs.YtdaihpkjnigjgaaDoor
open Go
set_option linter.unusedSimpArgs false
set_option linter.unusedVariables false
theorem wdP_ge (p : Int) : ∀ b ∈ wdP p, 45 ≤ b.toNat := by
  intro b hb
  unfold wdP at hb
  rcases List.mem_append.1 hb with hb | hb
  · exact itoa_ge _ b hb
  · simp at hb; subst hb; unfold chP; repeat' split
    all_goals decide
theorem spl_joined (c : UInt8) : ∀ (ws : List (List UInt8)) (w0 : List UInt8), (∀ b ∈ w0, b ≠ c) → (∀ w ∈ ws, ∀ b ∈ w, b ≠ c) → spl c (w0 ++ Lib.joinTail [c] ws) = w0 :: ws
  | [], w0, h0, _ => by simp [Lib.joinTail]; exact spl_none c w0 h0
  | y :: t, w0, h0, h => by
    have e : w0 ++ Lib.joinTail [c] (y :: t) = w0 ++ c :: (y ++ Lib.joinTail [c] t) := by simp [Lib.joinTail]
    rw [e, spl_hit c w0 _ h0, spl_joined c t y (h y (by simp)) (fun w hw => h w (by simp [hw]))]
theorem spl_txK (B : Int) (l : List Int) (k : Nat) : spl 32 (txK B l k) = wdsT B l k := by
  unfold txK wdsT
  rw [Lib.join_cons]
  refine spl_joined 32 _ _ (ne_of_ge (itoa_ge _) 32 (by decide)) ?_
  intro w hw
  obtain ⟨p, _, rfl⟩ := List.mem_map.1 hw
  exact ne_of_ge (wdP_ge p) 32 (by decide)
theorem txK_of_spl {s : List UInt8} {B : Int} {l : List Int} {k : Nat} (h : spl 32 s = wdsT B l k) : s = txK B l k := by
  have := spl_join 32 s _ _ h
  rw [this]; unfold txK wdsT; rw [Lib.join_cons]
theorem itoa_inj0 {a b : Int} (ha : 0 ≤ a) (hb : 0 ≤ b) (h : Lib.itoa a = Lib.itoa b) : a = b := by
  rw [itoa_nn a ha, itoa_nn b hb] at h
  have := dec_inj h
  omega
theorem wdP_inj {p q : Int} (hp : 0 ≤ p) (hq : 0 ≤ q) (h : wdP p = wdP q) : p = q := by
  unfold wdP at h
  obtain ⟨h1, h2⟩ := List.append_inj' h rfl
  have h3 := itoa_inj0 (by omega) (by omega) h1
  have h4 : chP (p % 3) = chP (q % 3) := by simpa using h2
  have a : p % 3 = 0 ∨ p % 3 = 1 ∨ p % 3 = 2 := by omega
  have b : q % 3 = 0 ∨ q % 3 = 1 ∨ q % 3 = 2 := by omega
  rcases a with a | a | a <;> rcases b with b | b | b <;> rw [a, b] at h4 <;> first | omega | (exact absurd h4 (by decide))
theorem map_wdP_inj : ∀ (L M : List Int), (∀ p ∈ L, 0 ≤ p) → (∀ p ∈ M, 0 ≤ p) → L.map wdP = M.map wdP → L = M
  | [], [], _, _, _ => rfl
  | [], y :: M, _, _, h => by simp at h
  | x :: L, [], _, _, h => by simp at h
  | x :: L, y :: M, hL, hM, h => by
    simp at h
    rw [wdP_inj (hL x (by simp)) (hM y (by simp)) h.1, map_wdP_inj L M (fun p hp => hL p (by simp [hp])) (fun p hp => hM p (by simp [hp])) h.2]
/-- 's is the text of the valid traffic (B, L)' -/
def IsTx (s : List UInt8) (B : Int) (L : List Int) : Prop := tfB B L = true ∧ s = txK B L L.length
theorem isTx_tf {s : List UInt8} {B : Int} {L : List Int} (h : IsTx s B L) : s = tfTx B L := by unfold tfTx; rw [h.1]; exact h.2
theorem tf_isTx {B : Int} {L : List Int} (h : tfB B L = true) : IsTx (tfTx B L) B L := ⟨h, by unfold tfTx; rw [h]; rfl⟩
theorem isTx_pos {s : List UInt8} {B : Int} {L : List Int} (h : IsTx s B L) : ∀ p ∈ L, 0 ≤ p ∧ p < 24 := by
  obtain ⟨_, b2, _, _, hp⟩ := (tfB_iff B L).1 h.1
  intro p hm
  have := (plB_iff B L).1 hp p hm
  omega
theorem isTx_spl {s : List UInt8} {B : Int} {L : List Int} (h : IsTx s B L) : spl 32 s = Lib.itoa B :: L.map wdP := by
  rw [h.2, spl_txK]; unfold wdsT; rw [List.take_length]
theorem isTx_inj {s : List UInt8} {B B' : Int} {L L' : List Int} (h : IsTx s B L) (h' : IsTx s B' L') : B = B' ∧ L = L' := by
  have e := isTx_spl h
  rw [isTx_spl h'] at e
  obtain ⟨b1, _⟩ := (tfB_iff B L).1 h.1
  obtain ⟨b1', _⟩ := (tfB_iff B' L').1 h'.1
  simp at e
  exact ⟨itoa_inj0 (by omega) (by omega) e.1.symm, map_wdP_inj _ _ (fun p hp => (isTx_pos h p hp).1) (fun p hp => (isTx_pos h' p hp).1) e.2.symm⟩
theorem isTx_cut {s : List UInt8} {B : Int} {L : List Int} (h : IsTx s B L) (k : Nat) (hk : k = min 6 (s.length + 1) - 1) : Lib.splitK [32] 0 k s = Lib.itoa B :: L.map wdP := by
  have h1 := isTx_spl h
  have h2 := spl_count 32 s
  obtain ⟨_, _, _, b4, _⟩ := (tfB_iff B L).1 h.1
  have h3 : (spl 32 s).length = L.length + 1 := by rw [h1]; simp
  rw [splitK_spl 32 s k (by omega), h1]
/-- what a word is read as, loosely -/
def RcW (u : List UInt8) (n : Int) (b : Bool) : Prop := (-2147483648 ≤ n ∧ n ≤ 2147483647) ∧ ∀ q : Int, 0 ≤ q → q ≤ 8 → u = Lib.itoa q → n = q ∧ b = true
def RpW (u : List UInt8) (p : Int) (b : Bool) : Prop := InR p ∧ ∀ q : Int, 0 ≤ q → q < 24 → u = wdP q → p = q ∧ b = true
theorem parse32_dig (m : Nat) (h : m ≤ 8) : Lib.parseIntB 32 (Lib.itoa (m : Int)) = .ok (m : Int) := by
  rw [itoa_nat, dec_one m (by omega)]
  have h9 : m = 0 ∨ m = 1 ∨ m = 2 ∨ m = 3 ∨ m = 4 ∨ m = 5 ∨ m = 6 ∨ m = 7 ∨ m = 8 := by omega
  rcases h9 with rfl | rfl | rfl | rfl | rfl | rfl | rfl | rfl | rfl <;> rfl
theorem parse_in32 (l : List UInt8) (v : Int) (h : Lib.parseIntB 32 l = .ok v) : -2147483648 ≤ v ∧ v ≤ 2147483647 := by
  unfold Lib.parseIntB at h
  cases l with
  | nil => simp at h
  | cons c r =>
    simp only [] at h
    split at h
    · simp at h
    · simp at h
    · rename_i u hu
      split at h
      · simp at h
      · split at h
        · simp at h
        · simp at h
          split at h <;> omega
theorem rc_of (u : List UInt8) : RcW u (rcV u) (rcB u) := by
  refine ⟨?_, fun q h0 h8 hu => ?_⟩
  · unfold rcV
    generalize hq : Lib.parseIntB 32 u = q
    cases q with
    | ok v => exact parse_in32 u v hq
    | _ => simp
  · subst hu
    obtain ⟨m, rfl⟩ := Int.eq_ofNat_of_zero_le h0
    have := parse32_dig m (by omega)
    unfold rcV rcB
    rw [this]
    exact ⟨rfl, rfl⟩
/-- the first k places are read as P -/
def PlTo (s : List UInt8) (k : Nat) (P : List Int) : Prop := P.length = k ∧ ∀ B L, IsTx s B L → P = L.take k
def WdT (s : List UInt8) (W : List (List UInt8)) : Prop := ∀ B L, IsTx s B L → W = Lib.itoa B :: L.map wdP
theorem wdT_at {s : List UInt8} {W : List (List UInt8)} (h : WdT s W) {k : Nat} (hk : k + 1 < W.length) {B : Int} {L : List Int} (hx : IsTx s B L) : k < L.length ∧ W.getD (k + 1) [] = wdP (gx L k) := by
  have hW := h B L hx
  have hkL : k < L.length := by rw [hW] at hk; simp at hk; exact hk
  refine ⟨hkL, ?_⟩
  rw [hW, List.getD_eq_getElem?_getD, List.getElem?_cons_succ, List.getElem?_map, List.getElem?_eq_getElem hkL, gx_of L k hkL]; rfl
theorem plTo_snoc {s : List UInt8} {W : List (List UInt8)} {k : Nat} {P : List Int} {p : Int} {b : Bool} (h : WdT s W) (hr : PlTo s k P) (hk : k + 1 < W.length) (hy : RpW (W.getD (k + 1) []) p b) : PlTo s (k + 1) (P ++ [p]) := by
  refine ⟨by rw [List.length_append, hr.1]; rfl, fun B L hx => ?_⟩
  obtain ⟨h1, h2⟩ := wdT_at h hk hx
  have h3 := isTx_pos hx _ (gx_mem L k h1)
  rw [hr.2 B L hx, (hy.2 _ h3.1 h3.2 h2).1, List.take_succ_eq_append_getElem h1, gx_of L k h1]
theorem pl_bad {s : List UInt8} {W : List (List UInt8)} {k : Nat} {p : Int} (h : WdT s W) (hk : k + 1 < W.length) (hy : RpW (W.getD (k + 1) []) p false) : ∀ B L, ¬ IsTx s B L := by
  intro B L hx
  obtain ⟨h1, h2⟩ := wdT_at h hk hx
  have h3 := isTx_pos hx _ (gx_mem L k h1)
  exact absurd (hy.2 _ h3.1 h3.2 h2).2 (by decide)
theorem pl_cnt {s : List UInt8} {W : List (List UInt8)} {n : Int} {b : Bool} (h : WdT s W) (hy : RcW (W.getD 0 []) n b) : ∀ B L, IsTx s B L → n = B ∧ b = true := by
  intro B L hx
  obtain ⟨b1, b2, _⟩ := (tfB_iff B L).1 hx.1
  refine hy.2 B (by omega) (by omega) ?_
  rw [h B L hx]; rfl
theorem pl_end {s : List UInt8} {W : List (List UInt8)} {k : Nat} {P : List Int} (h : WdT s W) (hr : PlTo s k P) (hk : W.length = k + 1) : ∀ B L, IsTx s B L → P = L := by
  intro B L hx
  have hW := congrArg List.length (h B L hx)
  rw [hk] at hW
  simp at hW
  rw [hr.2 B L hx, hW, List.take_length]
/-- 'what the text s is read as' -/
def ReadsF (w : World) (s : List UInt8) (e : Ending) (w' : World) : Prop :=
  Later w w' ∧ ((∃ B L v, IsTx s B L ∧ e = .returned (.tuple #[.agg #[.int .i64 B, v], .bool true]) ∧ Own w' w.heap.size v L) ∨ ((∀ B L, ¬ IsTx s B L) ∧ e = .returned (.tuple #[.agg #[.int .i64 0, .slice none 0 0], .bool false])))
/-- the model's words -/
def MsTo (W : List (List UInt8)) (k : Nat) (P : List Int) : Prop := (W.drop 1).take k = P.map wdP ∧ ∀ p ∈ P, 0 ≤ p
theorem msTo_snoc {W : List (List UInt8)} {k : Nat} {P : List Int} {p : Int} (h : MsTo W k P) (hk : k + 1 < W.length) (h0 : 0 ≤ p) (hp : W.getD (k + 1) [] = wdP p) : MsTo W (k + 1) (P ++ [p]) := by
  have e : (W.drop 1)[k]'(by simp; omega) = wdP p := by
    rw [List.getElem_drop]
    rw [List.getD_eq_getElem?_getD, List.getElem?_eq_getElem hk] at hp
    simpa [Nat.add_comm] using hp
  refine ⟨?_, fun x hx => ?_⟩
  · rw [List.take_succ_eq_append_getElem (by simp; omega), h.1, e]; simp
  · rcases List.mem_append.1 hx with hx | hx
    · exact h.2 x hx
    · simp at hx; omega
theorem ms_end {s : List UInt8} {W : List (List UInt8)} {k m : Nat} {P : List Int} (hW : W = spl 32 s) (h : MsTo W k P) (hk : W.length = k + 1) (h0 : Lib.decDigits m = W.getD 0 []) : spl 32 s = Lib.itoa (m : Int) :: P.map wdP := by
  rw [← hW]
  cases W with
  | nil => simp at hk
  | cons a t =>
    have h1 := h.1
    simp at h1 hk h0
    rw [← hk, List.take_length] at h1
    rw [itoa_nat, h0, h1]
theorem ms_ok {s : List UInt8} {m : Nat} {P : List Int} (h : spl 32 s = Lib.itoa (m : Int) :: P.map wdP) (hv : tfB (m : Int) P = true) : IsTx s (m : Int) P := by
  refine ⟨hv, txK_of_spl ?_⟩
  rw [h]; unfold wdsT; rw [List.take_length]
theorem ms_no {s : List UInt8} {m : Nat} {P : List Int} (h : spl 32 s = Lib.itoa (m : Int) :: P.map wdP) (hp : ∀ p ∈ P, 0 ≤ p) (hv : tfB (m : Int) P = false) : ∀ B L, ¬ IsTx s B L := by
  intro B L hx
  have e := isTx_spl hx
  rw [h] at e
  simp at e
  obtain ⟨b1, _⟩ := (tfB_iff B L).1 hx.1
  have e1 := itoa_inj0 (by omega) (by omega) e.1
  have e2 := map_wdP_inj _ _ hp (fun p hp => (isTx_pos hx p hp).1) e.2
  rw [e1, e2, hx.1] at hv
  cases hv
theorem wdT_spl (s : List UInt8) : WdT s (spl 32 s) := fun B L h => isTx_spl h
end Go.Proofs.YtdaihpkjnigjgaaDoor
