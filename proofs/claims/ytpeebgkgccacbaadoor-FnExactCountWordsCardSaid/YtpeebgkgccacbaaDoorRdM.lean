/- Plain words on the program's loose reading of a layout's text: pieces cut at most k times, and numbers read back. -/
import Derived.Test.YtpeebgkgccacbaaDoorSpT
import Derived.Lib.Split
import Derived.Lib.ParseIntB
namespace Go.Proofs.YtpeebgkgccacbaaDoor
set_option linter.unusedVariables false
set_option linter.unusedSimpArgs false
theorem index_nil1 (c : UInt8) : Lib.index [] [c] = -1 := rfl
theorem index_hit1 (c : UInt8) (r : List UInt8) : Lib.index (c :: r) [c] = 0 := by
  unfold Lib.index; rw [if_pos (by simp)]
theorem index_past1 (c x : UInt8) (r : List UInt8) (h : x ≠ c) : Lib.index (x :: r) [c] = if Lib.index r [c] == -1 then -1 else Lib.index r [c] + 1 := by
  have e : [c].isPrefixOf (x :: r) = false := by simp [List.isPrefixOf]; exact fun h' => h h'.symm
  rw [Lib.index.eq_2, if_neg (by rw [e]; simp)]
theorem splitK_nil (c : UInt8) (k : Nat) : Lib.splitK [c] 0 k [] = [[]] := by
  cases k with
  | zero => rfl
  | succ k => unfold Lib.splitK; rw [if_pos (by rw [index_nil1]; rfl)]
theorem splitK_hit (c : UInt8) (k : Nat) (r : List UInt8) : Lib.splitK [c] 0 (k + 1) (c :: r) = [] :: Lib.splitK [c] 0 k r := by
  rw [Lib.splitK.eq_2, if_neg (by rw [index_hit1]; decide), index_hit1]
  rfl
theorem splitK_past (c x : UInt8) (k : Nat) (r : List UInt8) (h : x ≠ c) : Lib.splitK [c] 0 (k + 1) (x :: r) = (x :: (Lib.splitK [c] 0 (k + 1) r).headD []) :: (Lib.splitK [c] 0 (k + 1) r).tail := by
  have hi := index_past1 c x r h
  have hg := Lib.index_ge r [c]
  rw [Lib.splitK.eq_2, Lib.splitK.eq_2 [c] 0 r k, hi]
  by_cases hm : Lib.index r [c] = -1
  · rw [if_pos (by rw [hm]; rfl), if_pos (by rw [hm]; rfl)]; rfl
  · have e1 : (Lib.index r [c] == -1) = false := by simpa using hm
    have e2 : ((Lib.index r [c] + 1) == -1) = false := by simp; omega
    rw [e1]
    simp only [Bool.false_eq_true, if_false, e2, List.headD_cons, List.tail_cons]
    have e3 : (Lib.index r [c] + 1).toNat = (Lib.index r [c]).toNat + 1 := by omega
    rw [e3]
    simp
/-- where the cuts suffice, all instances are cut -/
theorem splitK_spl (c : UInt8) : ∀ (l : List UInt8) (k : Nat), (spl c l).length ≤ k + 1 → Lib.splitK [c] 0 k l = spl c l
  | [], k, _ => by rw [splitK_nil]; rfl
  | x :: r, 0, h => by
    show [x :: r] = _
    have hne := spl_ne c (x :: r)
    cases hs : spl c (x :: r) with
    | nil => exact absurd hs hne
    | cons a t =>
      rw [hs] at h
      have ht : t = [] := by cases t with | nil => rfl | cons y t => simp at h
      subst ht
      have := spl_join c (x :: r) a [] hs
      rw [this]; simp [Lib.joinTail]
  | x :: r, k + 1, h => by
    rw [spl_cons] at h ⊢
    by_cases hx : x = c
    · subst hx
      rw [if_pos rfl] at h ⊢
      rw [splitK_hit, splitK_spl x r k (by simpa using h)]
    · rw [if_neg hx] at h ⊢
      have h' : (spl c r).length ≤ k + 1 + 1 := by
        have := spl_ne c r
        cases hs : spl c r with
        | nil => exact absurd hs this
        | cons a t => rw [hs] at h; simpa using h
      rw [splitK_past c x k r hx, splitK_spl c r (k + 1) h']
theorem splitK_len (c : UInt8) : ∀ (k : Nat) (l : List UInt8), 1 ≤ (Lib.splitK [c] 0 k l).length ∧ (Lib.splitK [c] 0 k l).length ≤ k + 1
  | 0, l => by simp [Lib.splitK]
  | k + 1, l => by
    unfold Lib.splitK
    split
    · simp
    · have := splitK_len c k (l.drop ((Lib.index l [c]).toNat + [c].length))
      simp at this ⊢; omega
theorem splitK_le (c : UInt8) : ∀ (k : Nat) (l : List UInt8), ∀ y ∈ Lib.splitK [c] 0 k l, y.length ≤ l.length
  | 0, l => by simp [Lib.splitK]
  | k + 1, l => by
    unfold Lib.splitK
    split
    · simp
    · intro y hy
      rcases List.mem_cons.1 hy with rfl | hy
      · simp; omega
      · have := splitK_le c k _ y hy
        simp at this; omega
/-- the pieces of strings.SplitN as lists -/
theorem splitB_lists (c : UInt8) (s : ByteArray) (k : Nat) (sep : ByteArray) (hc : sep.data.toList = [c]) : (Lib.splitB sep 0 k s).map (·.data.toList) = Lib.splitK [c] 0 k s.data.toList := by
  rw [Lib.splitB_data, hc]
theorem spl_linTx_len (L : List Sg) : (spl 10 (linTx L)).length = L.length + 1 := by rw [spl_linTx]; simp
theorem linTx_ge (L : List Sg) : L.length ≤ (linTx L).length := by
  induction L with
  | nil => simp [linTx]
  | cons x L ih => rw [linTx_cons]; simp; omega
/-- a layout's text is cut into its lines by 24 cuts -/
theorem lines_cut {l : List UInt8} {L : List Sg} (h : l = linTx L) (hL : L.length ≤ 24) (k : Nat) (hk : k = min 25 (l.length + 1) - 1) : Lib.splitK [10] 0 k l = L.map segTx ++ [[]] := by
  have h1 := linTx_ge L
  rw [← h] at h1
  rw [splitK_spl 10 l k (by rw [h, spl_linTx_len]; omega), h, spl_linTx]
theorem words_cut {l : List UInt8} {x : Sg} (h : l = segTx x) (k : Nat) (hk : k = min 8 (l.length + 1) - 1) : Lib.splitK [32] 0 k l = wds x := by
  have h1 : 6 ≤ l.length := by rw [h, segTx_eq]; simp; omega
  rw [splitK_spl 32 l k (by rw [h, spl_segTx]; simp [wds]; omega), h, spl_segTx]
theorem parse_dec (m : Nat) (h : m ≤ 1000000000000) : Lib.parseUintB 64 (Lib.decDigits m) = .ok m := by
  obtain ⟨h1, h2, h3⟩ := dec_read (m + 1) m (by omega)
  unfold Lib.parseUintB
  rw [if_neg h3]
  have := parse_digs (Lib.decDigits m) 0 h2 (by rw [h1]; omega)
  rw [this, h1]
/-- a number's text reads as the number -/
theorem parse_itoa (n : Int) (h : -1000000000000 ≤ n ∧ n ≤ 1000000000000) : Lib.parseIntB 64 (Lib.itoa n) = .ok n := by
  unfold Lib.itoa
  by_cases hn : n < 0
  · rw [if_pos hn]
    unfold Lib.parseIntB
    simp only []
    rw [if_pos (show UInt8.toNat 45 = 43 ∨ UInt8.toNat 45 = 45 from Or.inr rfl), parse_dec n.natAbs (by omega)]
    simp only []
    rw [if_neg (by simp), if_neg (by omega), if_pos (show UInt8.toNat 45 = 45 from rfl)]
    congr 1; omega
  · rw [if_neg hn]
    obtain ⟨h1, h2, h3⟩ := dec_read (n.toNat + 1) n.toNat (by omega)
    have hm := parse_dec n.toNat (by omega)
    cases hl : Lib.decDigits n.toNat with
    | nil => exact absurd hl h3
    | cons c r =>
      have hc := h2 c (by rw [hl]; simp)
      rw [hl] at hm
      unfold Lib.parseIntB
      simp only []
      rw [if_neg (by omega), hm]
      simp only []
      rw [if_neg (by omega), if_neg (by omega), if_neg (by omega)]
      congr 1; omega
/-- what ParseInt reads is an int64 -/
theorem parse_in (l : List UInt8) (v : Int) (h : Lib.parseIntB 64 l = .ok v) : -9223372036854775808 ≤ v ∧ v ≤ 9223372036854775807 := by
  unfold Lib.parseIntB at h
  cases l with
  | nil => simp at h
  | cons c r =>
    simp only [] at h
    split at h
    · simp at h
    · simp at h
    · rename_i u hu
      split at h
      · simp at h
      · split at h
        · simp at h
        · simp at h
          split at h <;> omega
/-- what the loose reading of a line tells: a segment's text is read as the segment -/
def RSg (l : List UInt8) (y : Sg) (b : Bool) : Prop := y.In ∧ ∀ x, sgB x = true → l = segTx x → y = x ∧ b = true
end Go.Proofs.YtpeebgkgccacbaaDoor
