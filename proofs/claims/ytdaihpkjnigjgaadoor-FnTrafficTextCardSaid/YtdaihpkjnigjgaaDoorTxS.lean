/- The pieces of a text, of the model. -/
import Derived.Test.YtdaihpkjnigjgaaDoorSpM
import Derived.Test.YtdaihpkjnigjgaaDoorOwnT
namespace Go.Proofs.YtdaihpkjnigjgaaDoor
open Go.RowKit Go.Shelf
set_option maxHeartbeats 4000000
set_option linter.unusedVariables false
set_option linter.unusedSimpArgs false
theorem ownT_none (w : World) (base : Nat) (h : base ≤ w.heap.size) : OwnT (w.alloc (.cells #[] 9)) base (.slice (some ⟨w.heap.size, 0, none⟩) 0 0) [] :=
  ⟨rfl, .inr ⟨w.heap.size, 0, #[], rfl, h, heap_alloc_new w _, Nat.le_refl _, by unfold maxLen; omega, rfl, rfl⟩⟩
theorem extract_pce (s : ByteArray) (f k : Nat) : s.extract f k = tx (pce s.data.toList f k) := by
  apply ByteArray.ext
  apply Array.toList_inj.1
  rw [Lib.extract_data]
  simp [tx, pce]
theorem s_Split (s : ByteArray) (c : UInt8) (w : World) (hs : s.size ≤ 1048576) :
    Calls Tryd.prog 30 #[.string s, .int .u8 c.toNat] w fun e w' => ∃ v, e = .returned v ∧ OwnT w' w.heap.size v (spl c s.data.toList) ∧ Later w w' := by
  obtain ⟨l, hl⟩ : ∃ l, l = s.data.toList := ⟨_, rfl⟩
  have hlen : l.length = s.size := by rw [hl]; rfl
  rw [← hl]
  have HL := Lib.hid hl
  have HLEN := Lib.hid hlen
  have at_ : ∀ k (h : k < s.size), l[k]? = some s[k] := by
    intro k hk
    have hk' : k < s.data.toList.length := hk
    rw [hl, List.getElem?_eq_getElem hk']; rfl
  have AT := Lib.hid at_
  clear hl hlen at_
  go_enter Tryd.func30, Tryd.ntmps30
  go_wp2_with fail
  have O0 := Lib.hid (ownT_none w w.heap.size (Nat.le_refl _))
  go_loopw [5, 6, 7] (fun v f i wr => ∃ (O : List (List UInt8)) (f' k : Nat), f = .int .i64 f' ∧ i = .int .i64 k ∧ k ≤ s.size + 1 ∧ f' ≤ k ∧ Hid (Cut c l O f' k) ∧ OwnT wr w.heap.size v O ∧ Later w wr) (fun _ _ i _ => s.size + 1 - (intOf i).toNat)
  case atStart => exact ⟨[], 0, 0, rfl, rfl, by omega, by omega, Lib.hid (cut_start c l), O0.out, (Later.refl _).alloc _⟩
  case round =>
    obtain ⟨O, f, k, rfl, rfl, hk, hfk, HC, ho, hb⟩ := hrel
    have O3 := Lib.hid ho; have B3 := Lib.hid hb
    have hsz : w.heap.size ≤ wr.heap.size := hb.size
    have hOl : O.length ≤ 1000000000 := by have := HC.out.2.1; omega
    clear ho hb O0
    by_cases hkl : k ≤ s.size
    · by_cases hke : k = s.size
      · subst hke
        go_wp2_with (at_builtin; go_must (rw [extract_pce]; refine app1T rfl _ _ rfl w.heap.size _ _ _ _ _ O3.out rfl rfl hOl hsz ?_; intro v' w5 ho hg))
        have B5 : Later w w5 := Below.grown B3.out hg hsz (fun j hj => (O3.out.lt j hj).1)
        have C5 : Hid (Cut c l (O ++ [pce s.data.toList f s.size]) (s.size + 1) (s.size + 1)) := Lib.hid (by have h := HC.out; rw [← HL.out]; rw [← HLEN.out] at h ⊢; exact cut_last h)
        go_roundw
        case rel => exact ⟨_, s.size + 1, s.size + 1, by go_num, by go_num, by omega, by omega, C5, ho, B5⟩
        case measure => simp [intOf]
      · have hlt : k < s.size := by omega
        have hkl' : k < l.length := by rw [HLEN.out]; exact hlt
        have hget : l[k] = s[k] := by
          have h := AT.out k hlt
          rw [List.getElem?_eq_getElem hkl'] at h
          exact Option.some.inj h
        have ek : ((k : Int) == (s.size : Int)) = false := by simp; omega
        by_cases hc : s[k] = c
        · have e2 : ((s[k].toNat : Int) == (c.toNat : Int)) = true := by rw [hc]; simp
          have C5 : Hid (Cut c l (O ++ [pce s.data.toList f k]) (k + 1) (k + 1)) := Lib.hid (by rw [← HL.out]; exact cut_hit HC.out hkl' (hget.trans hc))
          clear hc hget
          go_wp2_with (at_builtin; go_must (rw [extract_pce]; refine app1T rfl _ _ rfl w.heap.size _ _ _ _ _ O3.out rfl rfl hOl hsz ?_; intro v' w5 ho hg))
          have B5 : Later w w5 := Below.grown B3.out hg hsz (fun j hj => (O3.out.lt j hj).1)
          go_roundw
          case rel => exact ⟨_, k + 1, k + 1, by go_num, by go_num, by omega, by omega, C5, ho, B5⟩
          case measure => simp [intOf]; omega
        · have e2 : ((s[k].toNat : Int) == (c.toNat : Int)) = false := by
            have : s[k].toNat ≠ c.toNat := fun h => hc (UInt8.toNat_inj.1 h)
            simp; omega
          have C5 : Hid (Cut c l O f (k + 1)) := Lib.hid (cut_past HC.out hkl' (by rw [hget]; exact hc))
          clear hc hget
          go_wp2_with fail
          go_roundw
          case rel => exact ⟨O, f, k + 1, rfl, by go_num, by omega, by omega, C5, O3.out, B3.out⟩
          case measure => simp [intOf]; omega
    · obtain rfl : k = s.size + 1 := by omega
      have HE : Hid (spl c l = O) := Lib.hid (by have h := HC.out; rw [← HLEN.out] at h; exact cut_done h)
      go_wp2_with fail
      go_ret
      exact ⟨_, rfl, by rw [HE.out]; exact O3.out, B3.out⟩
end Go.Proofs.YtdaihpkjnigjgaaDoor
