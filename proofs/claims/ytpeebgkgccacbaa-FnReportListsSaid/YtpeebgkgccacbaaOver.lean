/- Three facts of the program that every row of a plain seat wants, once for all; the program's head is taken apart by laws, its rest unread. -/
import Derived.Test.YtpeebgkgccacbaaProg
import Derived.WalkKit
import Derived.ProofKit
namespace Go.Proofs.Ytpeebgkgccacbaa
set_option maxRecDepth 100000
def ovA : List Char := [104, 97, 114, 110, 101, 115, 115].map Char.ofNat
def ovB : List Char := [57, 52, 48, 48, 56, 51, 55, 48, 56, 102, 50, 98, 49, 97, 101, 100, 55, 52, 98, 97, 49, 97, 56, 101, 54, 54, 53, 102, 100, 98, 53, 50, 57, 55, 57, 55, 98, 97, 56, 50, 54, 57, 55, 49, 55, 50, 98, 101, 98, 98, 49, 51, 54, 99, 101, 97, 50, 52, 57, 55, 55, 100, 102, 100].map Char.ofNat
def ovC : List Char := [99, 117, 116].map Char.ofNat
def ovD : List Char := [97, 116, 32, 108, 111, 111, 112, 46, 101, 120, 97, 109, 112, 108, 101, 47, 103, 48, 48, 57, 49, 54, 47, 108, 97, 119, 115, 46, 70, 110, 82, 101, 112, 111, 114, 116, 76, 105, 115, 116, 115, 32, 108, 111, 111, 112, 46, 101, 120, 97, 109, 112, 108, 101, 47, 103, 48, 48, 57, 49, 54, 47, 108, 97, 119, 115, 46, 70, 110, 69, 120, 97, 99, 116, 73, 115, 75, 101, 121, 119, 111, 114, 100].map Char.ofNat
theorem ov_head : Try.prog.initOrder = String.ofList (ovA ++ Char.ofNat 32 :: (ovB ++ Char.ofNat 32 :: (ovC ++ Char.ofNat 32 :: ovD))) := by kernel_rfl
theorem ov_ne (r : List Char) : wordsSigns r ≠ [] := by
  induction r with
  | nil => simp [wordsSigns]
  | cons c r ih =>
    unfold wordsSigns
    split
    · simp_all
    · simp
    · split <;> simp
theorem ov_cons (c : Char) (r : List Char) (h : c ≠ Char.ofNat 32) (w : List Char) (ws : List (List Char)) (e : wordsSigns r = w :: ws) : wordsSigns (c :: r) = (c :: w) :: ws := by
  rw [wordsSigns, e]
  exact fun hc => h hc
theorem ov_app (r : List Char) : ∀ a : List Char, (a.all fun c => c != Char.ofNat 32) = true → wordsSigns (a ++ Char.ofNat 32 :: r) = a :: wordsSigns r
  | [], _ => rfl
  | c :: a, h => by
    rw [List.all_cons, Bool.and_eq_true] at h
    exact ov_cons c _ (by simpa using h.1) _ _ (ov_app r a h.2)
theorem ov_words : wordsSigns Try.prog.initOrder.toList = ovA :: ovB :: ovC :: wordsSigns ovD := by
  have e := (congrArg String.toList ov_head).trans String.toList_ofList
  rw [e, ov_app _ ovA (by kernel_rfl), ov_app _ ovB (by kernel_rfl), ov_app _ ovC (by kernel_rfl)]
theorem st_finals : "finals".toList = [102, 105, 110, 97, 108, 115].map Char.ofNat := (congrArg String.toList (by kernel_rfl : "finals" = String.ofList ([102, 105, 110, 97, 108, 115].map Char.ofNat))).trans String.toList_ofList
theorem st_reflectrows : "reflectrows".toList = [114, 101, 102, 108, 101, 99, 116, 114, 111, 119, 115].map Char.ofNat := (congrArg String.toList (by kernel_rfl : "reflectrows" = String.ofList ([114, 101, 102, 108, 101, 99, 116, 114, 111, 119, 115].map Char.ofNat))).trans String.toList_ofList
theorem st_leanrows : "leanrows".toList = [108, 101, 97, 110, 114, 111, 119, 115].map Char.ofNat := (congrArg String.toList (by kernel_rfl : "leanrows" = String.ofList ([108, 101, 97, 110, 114, 111, 119, 115].map Char.ofNat))).trans String.toList_ofList
theorem st_onebuild : "onebuild".toList = [111, 110, 101, 98, 117, 105, 108, 100].map Char.ofNat := (congrArg String.toList (by kernel_rfl : "onebuild" = String.ofList ([111, 110, 101, 98, 117, 105, 108, 100].map Char.ofNat))).trans String.toList_ofList
theorem st_publicsums : "publicsums".toList = [112, 117, 98, 108, 105, 99, 115, 117, 109, 115].map Char.ofNat := (congrArg String.toList (by kernel_rfl : "publicsums" = String.ofList ([112, 117, 98, 108, 105, 99, 115, 117, 109, 115].map Char.ofNat))).trans String.toList_ofList
theorem st_eqguard : "eqguard".toList = [101, 113, 103, 117, 97, 114, 100].map Char.ofNat := (congrArg String.toList (by kernel_rfl : "eqguard" = String.ofList ([101, 113, 103, 117, 97, 114, 100].map Char.ofNat))).trans String.toList_ofList
theorem st_ownunsafe : "ownunsafe".toList = [111, 119, 110, 117, 110, 115, 97, 102, 101].map Char.ofNat := (congrArg String.toList (by kernel_rfl : "ownunsafe" = String.ofList ([111, 119, 110, 117, 110, 115, 97, 102, 101].map Char.ofNat))).trans String.toList_ofList
theorem st_libbeside : "libbeside".toList = [108, 105, 98, 98, 101, 115, 105, 100, 101].map Char.ofNat := (congrArg String.toList (by kernel_rfl : "libbeside" = String.ofList ([108, 105, 98, 98, 101, 115, 105, 100, 101].map Char.ofNat))).trans String.toList_ofList
theorem st_ownbeside : "ownbeside".toList = [111, 119, 110, 98, 101, 115, 105, 100, 101].map Char.ofNat := (congrArg String.toList (by kernel_rfl : "ownbeside" = String.ofList ([111, 119, 110, 98, 101, 115, 105, 100, 101].map Char.ofNat))).trans String.toList_ofList
theorem st_reflbeside : "reflbeside".toList = [114, 101, 102, 108, 98, 101, 115, 105, 100, 101].map Char.ofNat := (congrArg String.toList (by kernel_rfl : "reflbeside" = String.ofList ([114, 101, 102, 108, 98, 101, 115, 105, 100, 101].map Char.ofNat))).trans String.toList_ofList
theorem st_aliases : "aliases".toList = [97, 108, 105, 97, 115, 101, 115].map Char.ofNat := (congrArg String.toList (by kernel_rfl : "aliases" = String.ofList ([97, 108, 105, 97, 115, 101, 115].map Char.ofNat))).trans String.toList_ofList
theorem st_afterinit : "afterinit".toList = [97, 102, 116, 101, 114, 105, 110, 105, 116].map Char.ofNat := (congrArg String.toList (by kernel_rfl : "afterinit" = String.ofList ([97, 102, 116, 101, 114, 105, 110, 105, 116].map Char.ofNat))).trans String.toList_ofList
theorem st_crcplain : "crcplain".toList = [99, 114, 99, 112, 108, 97, 105, 110].map Char.ofNat := (congrArg String.toList (by kernel_rfl : "crcplain" = String.ofList ([99, 114, 99, 112, 108, 97, 105, 110].map Char.ofNat))).trans String.toList_ofList
theorem st_roadunsafe : "roadunsafe".toList = [114, 111, 97, 100, 117, 110, 115, 97, 102, 101].map Char.ofNat := (congrArg String.toList (by kernel_rfl : "roadunsafe" = String.ofList ([114, 111, 97, 100, 117, 110, 115, 97, 102, 101].map Char.ofNat))).trans String.toList_ofList
theorem st_fmthandon : "fmthandon".toList = [102, 109, 116, 104, 97, 110, 100, 111, 110].map Char.ofNat := (congrArg String.toList (by kernel_rfl : "fmthandon" = String.ofList ([102, 109, 116, 104, 97, 110, 100, 111, 110].map Char.ofNat))).trans String.toList_ofList
theorem st_harness : "harness".toList = [104, 97, 114, 110, 101, 115, 115].map Char.ofNat := (congrArg String.toList (by kernel_rfl : "harness" = String.ofList ([104, 97, 114, 110, 101, 115, 115].map Char.ofNat))).trans String.toList_ofList
theorem st_ownmain : "ownmain".toList = [111, 119, 110, 109, 97, 105, 110].map Char.ofNat := (congrArg String.toList (by kernel_rfl : "ownmain" = String.ofList ([111, 119, 110, 109, 97, 105, 110].map Char.ofNat))).trans String.toList_ofList
theorem st_gc : "gc".toList = [103, 99].map Char.ofNat := (congrArg String.toList (by kernel_rfl : "gc" = String.ofList ([103, 99].map Char.ofNat))).trans String.toList_ofList
theorem st_spec : "spec".toList = [115, 112, 101, 99].map Char.ofNat := (congrArg String.toList (by kernel_rfl : "spec" = String.ofList ([115, 112, 101, 99].map Char.ofNat))).trans String.toList_ofList
theorem st_carried : "carried".toList = [99, 97, 114, 114, 105, 101, 100].map Char.ofNat := (congrArg String.toList (by kernel_rfl : "carried" = String.ofList ([99, 97, 114, 114, 105, 101, 100].map Char.ofNat))).trans String.toList_ofList
theorem st_cut : "cut".toList = [99, 117, 116].map Char.ofNat := (congrArg String.toList (by kernel_rfl : "cut" = String.ofList ([99, 117, 116].map Char.ofNat))).trans String.toList_ofList
theorem st_stop : "stop".toList = [115, 116, 111, 112].map Char.ofNat := (congrArg String.toList (by kernel_rfl : "stop" = String.ofList ([115, 116, 111, 112].map Char.ofNat))).trans String.toList_ofList
theorem ov_behind : behindMainWord (wordsSigns Try.prog.initOrder.toList) = ovC :: wordsSigns ovD := by
  rw [ov_words]
  generalize wordsSigns ovD = z
  show (if ((ovA == "harness".toList || ovA == "ownmain".toList) && isSumSigns ovB) = true then ovC :: z else ovA :: ovB :: ovC :: z) = ovC :: z
  rw [st_harness, st_ownmain, if_pos (by kernel_rfl)]
theorem ov_step (o : String) (os : List String) (w : List Char) (ws : List (List Char)) (h : (w == o.toList) = false) : stripLifts (o :: os) (w :: ws) = stripLifts os (w :: ws) := by
  rw [stripLifts, h]; rfl
theorem ov_strip (z : List (List Char)) : stripLifts liftWords (ovC :: z) = ([], ovC :: z) := by
  unfold liftWords
  rw [ov_step _ _ _ _ (by rw [st_finals]; kernel_rfl)]
  rw [ov_step _ _ _ _ (by rw [st_reflectrows]; kernel_rfl)]
  rw [ov_step _ _ _ _ (by rw [st_leanrows]; kernel_rfl)]
  rw [ov_step _ _ _ _ (by rw [st_onebuild]; kernel_rfl)]
  rw [ov_step _ _ _ _ (by rw [st_publicsums]; kernel_rfl)]
  rw [ov_step _ _ _ _ (by rw [st_eqguard]; kernel_rfl)]
  rw [ov_step _ _ _ _ (by rw [st_ownunsafe]; kernel_rfl)]
  rw [ov_step _ _ _ _ (by rw [st_libbeside]; kernel_rfl)]
  rw [ov_step _ _ _ _ (by rw [st_ownbeside]; kernel_rfl)]
  rw [ov_step _ _ _ _ (by rw [st_reflbeside]; kernel_rfl)]
  rw [ov_step _ _ _ _ (by rw [st_aliases]; kernel_rfl)]
  rw [ov_step _ _ _ _ (by rw [st_afterinit]; kernel_rfl)]
  rw [ov_step _ _ _ _ (by rw [st_crcplain]; kernel_rfl)]
  rw [ov_step _ _ _ _ (by rw [st_roadunsafe]; kernel_rfl)]
  rw [ov_step _ _ _ _ (by rw [st_fmthandon]; kernel_rfl)]
  rfl
theorem ov_e1 : (ovC == "gc".toList) = false := by rw [st_gc]; kernel_rfl
theorem ov_e2 : (ovC == "spec".toList) = false := by rw [st_spec]; kernel_rfl
theorem ov_e3 : (ovC == "carried".toList) = false := by rw [st_carried]; kernel_rfl
theorem ov_e4 : (ovC == "cut".toList) = true := by rw [st_cut]; kernel_rfl
theorem ov_e4' : (some ovC == some "cut".toList) = true := by rw [st_cut]; kernel_rfl
theorem ov_e3' : (some ovC == some "carried".toList) = false := by rw [st_carried]; kernel_rfl
theorem ov_may_of (P : Program) (z : List (List Char)) (h : behindMainWord (wordsSigns P.initOrder.toList) = ovC :: z) (e5 : P.laysLater = false) (e6 : P.bearsReflect = false) (e7 : P.doorFits [] = true) : P.mayEnter = true := by
  unfold Program.mayEnter
  rw [h]
  show ((ovC == "gc".toList || ovC == "spec".toList) && (z.isEmpty || z.head? == some "stop".toList) ||
    ovC == "carried".toList && z.take 2 == ["gc".toList, "cut".toList] && !P.laysLater && !P.bearsReflect ||
    ((stripLifts liftWords (ovC :: z)).2.head? == some "cut".toList &&
      ((stripLifts liftWords (ovC :: z)).1.contains "finals" || !P.laysLater) && ((stripLifts liftWords (ovC :: z)).1.contains "reflectrows" || !P.bearsReflect) &&
      ((stripLifts liftWords (ovC :: z)).1.contains "reflectrows" || !(stripLifts liftWords (ovC :: z)).1.contains "leanrows") &&
      P.doorFits (stripLifts liftWords (ovC :: z)).1)) = true
  rw [ov_strip]
  show ((ovC == "gc".toList || ovC == "spec".toList) && (z.isEmpty || z.head? == some "stop".toList) ||
    ovC == "carried".toList && z.take 2 == ["gc".toList, "cut".toList] && !P.laysLater && !P.bearsReflect ||
    (some ovC == some "cut".toList && (false || !P.laysLater) && (false || !P.bearsReflect) && (false || !false) && P.doorFits [])) = true
  rw [ov_e1, ov_e2, ov_e3, ov_e4', e5, e6, e7]
  rfl
theorem ov_lift_of (P : Program) (z : List (List Char)) (h : behindMainWord (wordsSigns P.initOrder.toList) = ovC :: z) : P.liftsFinal = false := by
  unfold Program.liftsFinal Program.headLifts
  rw [h]
  show ((some ovC == some "carried".toList && (ovC :: z).take 3 != ["carried".toList, "gc".toList, "cut".toList]) || (if ((stripLifts liftWords (ovC :: z)).2.head? == some "cut".toList) = true then (stripLifts liftWords (ovC :: z)).1 else []).contains "finals") = false
  rw [ov_strip, ov_e3']
  show (false || (if (some ovC == some "cut".toList) = true then ([] : List String) else []).contains "finals") = false
  rw [if_pos ov_e4']
  rfl
theorem ov_make_of (P : Program) (z : List (List Char)) (h : behindMainWord (wordsSigns P.initOrder.toList) = ovC :: z) : P.make = some .cut := by
  unfold Program.make
  rw [h]
  dsimp only
  rw [ov_e1, ov_e2, ov_e4]
  rfl
theorem ov_may : Try.prog.mayEnter = true := ov_may_of _ _ ov_behind (by kernel_rfl) (by kernel_rfl) (by kernel_rfl)
theorem ov_lift : Try.prog.liftsFinal = false := ov_lift_of _ _ ov_behind
theorem ov_make : Try.prog.make = some .cut := ov_make_of _ _ ov_behind
end Go.Proofs.Ytpeebgkgccacbaa
