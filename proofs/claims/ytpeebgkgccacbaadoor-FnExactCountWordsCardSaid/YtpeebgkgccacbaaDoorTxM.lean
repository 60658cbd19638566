/- Texts of segments and layouts as lists of bytes. No program in sight. -/
import Derived.Test.YtpeebgkgccacbaaDoorSgM
import Derived.Test.YtpeebgkgccacbaaDoorMathM
import Derived.Lib.Join
namespace Go.Proofs.YtpeebgkgccacbaaDoor
open Go
set_option linter.unusedSimpArgs false
set_option linter.unusedVariables false
/-- the name of a kind -/
def kNm (k : Int) : List UInt8 := if k = 0 then [112, 108, 97, 105, 110] else if k = 1 then [108, 105, 102, 116] else if k = 2 then [108, 97, 117, 110, 99, 104] else if k = 3 then [98, 114, 97, 107, 101] else [115, 116, 97, 116, 105, 111, 110]
theorem kNm_len (k : Int) : (kNm k).length ≤ 7 := by
  unfold kNm; repeat' split
  all_goals simp
/-- number j of a segment's text -/
def fld (x : Sg) (j : Nat) : Int := x.at (j + 1)
/-- the words of a segment -/
def wds (x : Sg) : List (List UInt8) := [kNm x.k, Lib.itoa x.l, Lib.itoa x.r, Lib.itoa x.a, Lib.itoa x.b, Lib.itoa x.c, Lib.itoa x.d]
def segTx (x : Sg) : List UInt8 := Lib.join (wds x) [32]
theorem segTx_eq (x : Sg) : segTx x = kNm x.k ++ (32 :: Lib.itoa x.l) ++ (32 :: Lib.itoa x.r) ++ (32 :: Lib.itoa x.a) ++ (32 :: Lib.itoa x.b) ++ (32 :: Lib.itoa x.c) ++ (32 :: Lib.itoa x.d) := by
  unfold segTx wds
  rw [Lib.join_cons]
  simp [Lib.joinTail]
theorem itoa_len (n : Int) (h0 : -9223372036854775808 ≤ n) (h1 : n ≤ 9223372036854775807) : (Lib.itoa n).length ≤ 22 := by
  unfold Lib.itoa
  split
  · have := dec_len 19 n.natAbs (by omega)
    simp; omega
  · have := dec_len 19 n.toNat (by omega)
    omega
theorem segTx_len (x : Sg) (h : x.In) : (segTx x).length ≤ 200 := by
  rw [segTx_eq]
  have h1 := itoa_len x.l (h 1).1 (h 1).2
  have h2 := itoa_len x.r (h 2).1 (h 2).2
  have h3 := itoa_len x.a (h 3).1 (h 3).2
  have h4 := itoa_len x.b (h 4).1 (h 4).2
  have h5 := itoa_len x.c (h 5).1 (h 5).2
  have h6 := itoa_len x.d (h 6).1 (h 6).2
  have h7 := kNm_len x.k
  simp; omega
/-- the text of the first segments, whether valid or not -/
def linTx (L : List Sg) : List UInt8 := (L.map (fun x => segTx x ++ [10])).flatten
theorem linTx_nil : linTx [] = [] := rfl
theorem linTx_cons (x : Sg) (L : List Sg) : linTx (x :: L) = segTx x ++ [10] ++ linTx L := by simp [linTx]
theorem linTx_succ (L : List Sg) (k : Nat) (h : k < L.length) : linTx (L.take (k + 1)) = linTx (L.take k) ++ (segTx (sx L k) ++ [10]) := by
  unfold linTx; rw [List.take_succ_eq_append_getElem h, List.map_append, List.flatten_append, sx_of L k h]; simp
theorem linTx_len (L : List Sg) (h : ∀ x ∈ L, x.In) : (linTx L).length ≤ 201 * L.length := by
  induction L with
  | nil => simp [linTx]
  | cons x L ih =>
    have h1 := segTx_len x (h x (by simp))
    have h2 := ih (fun y hy => h y (by simp [hy]))
    rw [linTx_cons]; simp; omega
/-- the text of a layout -/
def layTx (L : List Sg) : List UInt8 := if layB L = true then linTx L else []
end Go.Proofs.YtpeebgkgccacbaaDoor
