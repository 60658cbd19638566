/- Contracts of chapter 11: faults, of the program. -/
import Derived.Test.YtdaihpkjnigjgaaTfJ
import Derived.Test.YtdaihpkjnigjgaaIkL
namespace Go.Proofs.Ytdaihpkjnigjgaa
open Go.RowKit
set_option maxHeartbeats 4000000
set_option linter.unusedVariables false
set_option linter.unusedSimpArgs false
theorem i_isReported (v : Int) (w : World) : Calls Try.prog 137 #[.int .i64 v] w fun e w' => e = .returned (.bool (ikR v)) ∧ w = w' := by
  go_enter Try.func137, Try.ntmps137
  go_wp2_with fail
  all_goals
    go_ret
    exact ⟨ret_b (by unfold ikR; first | (simp_all; done) | (simp_all; omega)), rfl⟩
theorem i_isFault (B b c v : Int) (w : World) : Calls Try.prog 110 #[.int .i64 B, .agg #[.int .i64 b, .int .i64 c, .int .i64 v]] w fun e w' => e = .returned (.bool (ikF B b c v)) ∧ Later w w' := by
  have HF : Hid (∀ x y z : Bool, (decide (0 ≤ b) && decide (b < B)) = x → (decide (0 ≤ c) && decide (c < 2)) = y → ikR v = z → ikF B b c v = (x && y && z)) := Lib.hid (by rintro x y z rfl rfl rfl; rfl)
  have hb : (0 ≤ b ∧ b < B) ∨ (0 ≤ b ∧ ¬ b < B) ∨ ¬ 0 ≤ b := by omega
  have hc : (0 ≤ c ∧ c < 2) ∨ (0 ≤ c ∧ ¬ c < 2) ∨ ¬ 0 ≤ c := by omega
  cases hr : ikR v
  all_goals
    have HR := Lib.hid hr
    clear hr
    rcases hb with ⟨b0, b1⟩ | ⟨b0, b1⟩ | b0
    all_goals
      rcases hc with ⟨c0, c1⟩ | ⟨c0, c1⟩ | c0
      all_goals
        go_enter Try.func110, Try.ntmps110
        go_wp2_with (go_at_call 137; refine (i_isReported _ _).mono ?_; rw [HR.out]; rintro e w1 ⟨rfl, rfl⟩)
        go_ret
        exact ⟨ret_b (by rw [HF.out _ _ _ rfl rfl HR.out]; first | (simp [*]; done) | (simp [*]; omega)), (by repeat (first | (with_reducible exact Later.refl _) | (with_reducible exact Hid.out (by assumption)) | (with_reducible refine Later.alloc ?_ _) | (with_reducible refine Later.setCell ?_ (by simp; omega) _) | (with_reducible refine Later.setCell ?_ (by simp) _) | (with_reducible refine Later.drewN ?_ _) | (with_reducible refine Later.drew ?_) | (with_reducible refine Later.trans ?_ (Hid.out (by assumption)))))⟩
theorem i_isStuck (a : Option Addr) (n cap : Nat) (l : List Int) (b c v : Int) (w : World) (hs : Wd w a n 3 l) :
    Calls Try.prog 111 #[.slice a n cap, .agg #[.int .i64 b, .int .i64 c, .int .i64 v]] w fun e w' => e = .returned (.bool (ikS l n b c)) ∧ Later w w' := by
  have HS := Lib.hid hs
  have hn := hs.2.1
  clear hs
  go_enter Try.func111, Try.ntmps111
  go_wp2_with fail
  go_loopw [9] (fun i wr => ∃ k : Nat, k ≤ n ∧ i = .int .i64 k ∧ ikS l k b c = false ∧ wr.cell? ⟨w.heap.size, 0, none⟩ = some (.int .i64 b) ∧ wr.cell? ⟨w.heap.size, 1, none⟩ = some (.int .i64 c) ∧ Later w wr) (fun i _ => n - (intOf i).toNat)
  case atStart => exact ⟨0, by omega, rfl, rfl, by simp, by simp, (by repeat (first | (with_reducible exact Later.refl _) | (with_reducible exact Hid.out (by assumption)) | (with_reducible refine Later.alloc ?_ _) | (with_reducible refine Later.setCell ?_ (by simp; omega) _) | (with_reducible refine Later.setCell ?_ (by simp) _) | (with_reducible refine Later.drewN ?_ _) | (with_reducible refine Later.drew ?_) | (with_reducible refine Later.trans ?_ (Hid.out (by assumption)))))⟩
  case round =>
    obtain ⟨k, hk, rfl, hp, q0, q1, hg⟩ := hrel
    have HP := Lib.hid hp; have HG := Lib.hid hg
    clear hp hg
    by_cases hlt : k < n
    · obtain ⟨b', off, rfl, c0, c1, c2⟩ := (HS.out.later HG.out).three k hlt
      have hz := cell_lt q0
      have hz' : w.heap.size ≠ wr.heap.size := by omega
      have KS : Hid (∀ W', Later wr W' → W'.cell? ⟨w.heap.size, 0, none⟩ = some (.int .i64 b) ∧ W'.cell? ⟨w.heap.size, 1, none⟩ = some (.int .i64 c)) := Lib.hid (fun W' h => ⟨by rw [h.cell (p := ⟨w.heap.size, 0, none⟩) (cell_lt q0)]; exact q0, by rw [h.cell (p := ⟨w.heap.size, 1, none⟩) (cell_lt q1)]; exact q1⟩)
      have HN := Lib.hid (ikS_succ l k b c)
      have HB : Hid ((ikb l k == b && ikc l k == c) = true → ikS l n b c = true) := Lib.hid (ikS_hit hlt)
      obtain ⟨x, hx⟩ : ∃ x, x = ikb l k := ⟨_, rfl⟩
      obtain ⟨y, hy⟩ : ∃ x, x = ikc l k := ⟨_, rfl⟩
      rw [← hx] at c0 HN HB
      rw [← hy] at c1 HN HB
      clear hx hy
      cases h1 : (x == b)
      · have HQ : Hid (ikS l (k + 1) b c = false) := Lib.hid (by rw [HN.out, HP.out, h1]; rfl)
        clear HN HB
        go_wp2_with fail
        go_roundw
        case rel => exact ⟨k + 1, by omega, by go_num, HQ.out, (KS.out _ (by repeat (first | (with_reducible exact Later.refl _) | (with_reducible exact Hid.out (by assumption)) | (with_reducible refine Later.alloc ?_ _) | (with_reducible refine Later.setCell ?_ (by simp; omega) _) | (with_reducible refine Later.setCell ?_ (by simp) _) | (with_reducible refine Later.drewN ?_ _) | (with_reducible refine Later.drew ?_) | (with_reducible refine Later.trans ?_ (Hid.out (by assumption)))))).1, (KS.out _ (by repeat (first | (with_reducible exact Later.refl _) | (with_reducible exact Hid.out (by assumption)) | (with_reducible refine Later.alloc ?_ _) | (with_reducible refine Later.setCell ?_ (by simp; omega) _) | (with_reducible refine Later.setCell ?_ (by simp) _) | (with_reducible refine Later.drewN ?_ _) | (with_reducible refine Later.drew ?_) | (with_reducible refine Later.trans ?_ (Hid.out (by assumption)))))).2, (by repeat (first | (with_reducible exact Later.refl _) | (with_reducible exact Hid.out (by assumption)) | (with_reducible refine Later.alloc ?_ _) | (with_reducible refine Later.setCell ?_ (by simp; omega) _) | (with_reducible refine Later.setCell ?_ (by simp) _) | (with_reducible refine Later.drewN ?_ _) | (with_reducible refine Later.drew ?_) | (with_reducible refine Later.trans ?_ (Hid.out (by assumption)))))⟩
        case measure => simp [intOf]; omega
      · cases h2 : (y == c)
        · have HQ : Hid (ikS l (k + 1) b c = false) := Lib.hid (by rw [HN.out, HP.out, h2]; simp)
          clear HN HB
          go_wp2_with fail
          go_roundw
          case rel => exact ⟨k + 1, by omega, by go_num, HQ.out, (KS.out _ (by repeat (first | (with_reducible exact Later.refl _) | (with_reducible exact Hid.out (by assumption)) | (with_reducible refine Later.alloc ?_ _) | (with_reducible refine Later.setCell ?_ (by simp; omega) _) | (with_reducible refine Later.setCell ?_ (by simp) _) | (with_reducible refine Later.drewN ?_ _) | (with_reducible refine Later.drew ?_) | (with_reducible refine Later.trans ?_ (Hid.out (by assumption)))))).1, (KS.out _ (by repeat (first | (with_reducible exact Later.refl _) | (with_reducible exact Hid.out (by assumption)) | (with_reducible refine Later.alloc ?_ _) | (with_reducible refine Later.setCell ?_ (by simp; omega) _) | (with_reducible refine Later.setCell ?_ (by simp) _) | (with_reducible refine Later.drewN ?_ _) | (with_reducible refine Later.drew ?_) | (with_reducible refine Later.trans ?_ (Hid.out (by assumption)))))).2, (by repeat (first | (with_reducible exact Later.refl _) | (with_reducible exact Hid.out (by assumption)) | (with_reducible refine Later.alloc ?_ _) | (with_reducible refine Later.setCell ?_ (by simp; omega) _) | (with_reducible refine Later.setCell ?_ (by simp) _) | (with_reducible refine Later.drewN ?_ _) | (with_reducible refine Later.drew ?_) | (with_reducible refine Later.trans ?_ (Hid.out (by assumption)))))⟩
          case measure => simp [intOf]; omega
        · have HQ : Hid (ikS l n b c = true) := Lib.hid (HB.out (by rw [h1, h2]; rfl))
          clear HN HB
          go_wp2_with fail
          go_ret
          exact ⟨ret_b (by rw [HQ.out]), (by repeat (first | (with_reducible exact Later.refl _) | (with_reducible exact Hid.out (by assumption)) | (with_reducible refine Later.alloc ?_ _) | (with_reducible refine Later.setCell ?_ (by simp; omega) _) | (with_reducible refine Later.setCell ?_ (by simp) _) | (with_reducible refine Later.drewN ?_ _) | (with_reducible refine Later.drew ?_) | (with_reducible refine Later.trans ?_ (Hid.out (by assumption)))))⟩
    · obtain rfl : k = n := by omega
      go_wp2_with fail
      go_ret
      exact ⟨ret_b (by rw [HP.out]), HG.out⟩
theorem Wd.take3 {w : World} {a : Option Addr} {n : Nat} {l : List Int} (h : Wd w a n 3 l) (k : Nat) (hk : k ≤ n) : Wd w a k 3 (l.take (k * 3)) := by
  obtain ⟨h1, h2, h3, h4⟩ := h
  refine ⟨by rw [List.length_take]; omega, by omega, fun j hj => ?_, fun x hx => h4 x (List.mem_of_mem_take hx)⟩
  obtain ⟨b, off, e, hc⟩ := h3 j (by omega)
  refine ⟨b, off, e, ?_⟩
  rw [hc, gx_of l j (by omega), gx_of (l.take (k * 3)) j (by rw [List.length_take]; omega)]
  simp
theorem ikS_take {l : List Int} {k n : Nat} (hl : l.length = n * 3) (hk : k ≤ n) (b c : Int) : ikS (l.take (k * 3)) k b c = ikS l k b c := by
  rw [Bool.eq_iff_iff, ikS_iff, ikS_iff]
  have key : ∀ j, j < k * 3 → gx (l.take (k * 3)) j = gx l j := fun j hj => by
    rw [gx_of l j (by omega), gx_of (l.take (k * 3)) j (by rw [List.length_take]; omega)]; simp
  constructor
  · rintro ⟨j, hj, h1, h2⟩
    exact ⟨j, hj, by unfold ikb at *; rw [← key _ (by omega)]; exact h1, by unfold ikc at *; rw [← key _ (by omega)]; exact h2⟩
  · rintro ⟨j, hj, h1, h2⟩
    exact ⟨j, hj, by unfold ikb at *; rw [key _ (by omega)]; exact h1, by unfold ikc at *; rw [key _ (by omega)]; exact h2⟩
theorem i_isStuckP (a : Option Addr) (n k cap : Nat) (l : List Int) (b c v : Int) (w : World) (hs : Wd w a n 3 l) (hk : k ≤ n) :
    Calls Try.prog 111 #[.slice a k cap, .agg #[.int .i64 b, .int .i64 c, .int .i64 v]] w fun e w' => e = .returned (.bool (ikS l k b c)) ∧ Later w w' :=
  (i_isStuck a k cap _ b c v w (hs.take3 k hk)).mono fun e w' h => ⟨by rw [h.1, ikS_take hs.1 hk], h.2⟩
theorem i_AreFaults (B : Int) (a : Option Addr) (n cap : Nat) (l : List Int) (w : World) (hc : n ≤ cap) (hs : Wd w a n 3 l) :
    Calls Try.prog 51 #[.int .i64 B, .slice a n cap] w fun e w' => e = .returned (.bool (ikA B n l)) ∧ Later w w' := by
  have HS := Lib.hid hs
  have hn := hs.2.1
  clear hs
  cases hb : nbB B
  · have HF : Hid (ikA B n l = false) := Lib.hid (ikA_no (fun ⟨g, _⟩ => by rw [hb] at g; cases g))
    have HNB := Lib.hid hb
    clear hb
    go_enter Try.func51, Try.ntmps51
    go_wp2_with (go_at_call 90; refine (i_isNumberOfBlocks _ _).mono ?_; rintro e w' ⟨rfl, rfl⟩; rw [HNB.out])
    go_ret
    exact ⟨ret_b (by rw [HF.out]), (by repeat (first | (with_reducible exact Later.refl _) | (with_reducible exact Hid.out (by assumption)) | (with_reducible refine Later.alloc ?_ _) | (with_reducible refine Later.setCell ?_ (by simp; omega) _) | (with_reducible refine Later.setCell ?_ (by simp) _) | (with_reducible refine Later.drewN ?_ _) | (with_reducible refine Later.drew ?_) | (with_reducible refine Later.trans ?_ (Hid.out (by assumption)))))⟩
  · by_cases h8 : n ≤ 8
    · have HF : Hid (ikA B n l = ikK B l n) := Lib.hid (ikA_K hb h8)
      have HNB := Lib.hid hb
      clear hb
      go_enter Try.func51, Try.ntmps51
      go_wp2_with (go_at_call 90; refine (i_isNumberOfBlocks _ _).mono ?_; rintro e w' ⟨rfl, rfl⟩; rw [HNB.out])
      go_loopw [17] (fun i wr => ∃ k : Nat, k ≤ n ∧ i = .int .i64 k ∧ ikK B l k = true ∧ Later w wr) (fun i _ => n - (intOf i).toNat)
      case atStart => exact ⟨0, by omega, rfl, rfl, (by repeat (first | (with_reducible exact Later.refl _) | (with_reducible exact Hid.out (by assumption)) | (with_reducible refine Later.alloc ?_ _) | (with_reducible refine Later.setCell ?_ (by simp; omega) _) | (with_reducible refine Later.setCell ?_ (by simp) _) | (with_reducible refine Later.drewN ?_ _) | (with_reducible refine Later.drew ?_) | (with_reducible refine Later.trans ?_ (Hid.out (by assumption)))))⟩
      case round =>
        obtain ⟨k, hk, rfl, hp, hg⟩ := hrel
        have HP := Lib.hid hp; have HG := Lib.hid hg
        clear hp hg
        by_cases hlt : k < n
        · obtain ⟨b', off, rfl, c0, c1, c2⟩ := (HS.out.later HG.out).three k hlt
          have HN := Lib.hid (ikK_succ B l k)
          have HB : Hid ((ikF B (ikb l k) (ikc l k) (ikv l k) && !ikS l k (ikb l k) (ikc l k)) = false → ikK B l n = false) := Lib.hid (ikK_no hlt)
          obtain ⟨x, hx⟩ : ∃ x, x = ikb l k := ⟨_, rfl⟩
          obtain ⟨y, hy⟩ : ∃ x, x = ikc l k := ⟨_, rfl⟩
          obtain ⟨z, hz⟩ : ∃ x, x = ikv l k := ⟨_, rfl⟩
          rw [← hx, ← hy, ← hz] at HN HB
          rw [← hx] at c0
          rw [← hy] at c1
          rw [← hz] at c2
          clear hx hy hz
          have hkc : k ≤ cap := by omega
          go_wp2_with fail
          refine into (fun W => Later wr W ∧ W.cell? ⟨wr.heap.size, 0, none⟩ = some (.int .i64 x) ∧ W.cell? ⟨wr.heap.size, 1, none⟩ = some (.int .i64 y) ∧ W.cell? ⟨wr.heap.size, 2, none⟩ = some (.int .i64 z)) ⟨(by repeat (first | (with_reducible exact Later.refl _) | (with_reducible exact Hid.out (by assumption)) | (with_reducible refine Later.alloc ?_ _) | (with_reducible refine Later.setCell ?_ (by simp; omega) _) | (with_reducible refine Later.setCell ?_ (by simp) _) | (with_reducible refine Later.drewN ?_ _) | (with_reducible refine Later.drew ?_) | (with_reducible refine Later.trans ?_ (Hid.out (by assumption))))), by simp, by simp, by simp⟩ ?_
          rintro W0 ⟨hl, e0, e1, e2⟩
          have HL0 := Lib.hid hl
          have KX : Hid (∀ W', Later W0 W' → W'.cell? ⟨wr.heap.size, 0, none⟩ = some (.int .i64 x) ∧ W'.cell? ⟨wr.heap.size, 1, none⟩ = some (.int .i64 y) ∧ W'.cell? ⟨wr.heap.size, 2, none⟩ = some (.int .i64 z)) := Lib.hid (fun W' h => ⟨by rw [h.cell (p := ⟨wr.heap.size, 0, none⟩) (cell_lt e0)]; exact e0, by rw [h.cell (p := ⟨wr.heap.size, 1, none⟩) (cell_lt e0)]; exact e1, by rw [h.cell (p := ⟨wr.heap.size, 2, none⟩) (cell_lt e0)]; exact e2⟩)
          clear c0 c1 c2 hl
          cases hf : ikF B x y z
          · have HQ : Hid (ikK B l n = false) := Lib.hid (HB.out (by rw [hf]; rfl))
            have HFF := Lib.hid hf
            clear HN HB hf
            first
            | (go_region_with (first | (go_at_call 110; refine (i_isFault _ _ _ _ _).mono ?_; rw [HFF.out]; rintro e w1 ⟨rfl, hb1⟩; have H1 := Lib.hid hb1; obtain ⟨d0, d1, d2⟩ := KX.out w1 (show Later W0 w1 from (by repeat (first | (with_reducible exact Later.refl _) | (with_reducible exact Hid.out (by assumption)) | (with_reducible refine Later.alloc ?_ _) | (with_reducible refine Later.setCell ?_ (by simp; omega) _) | (with_reducible refine Later.setCell ?_ (by simp) _) | (with_reducible refine Later.drewN ?_ _) | (with_reducible refine Later.drew ?_) | (with_reducible refine Later.trans ?_ (Hid.out (by assumption)))))); clear hb1)))
            | fail "region"
            all_goals
              go_wp2_with fail
              go_ret
              exact ⟨ret_b (by rw [HF.out, HQ.out]), (by repeat (first | (with_reducible exact Later.refl _) | (with_reducible exact Hid.out (by assumption)) | (with_reducible refine Later.alloc ?_ _) | (with_reducible refine Later.setCell ?_ (by simp; omega) _) | (with_reducible refine Later.setCell ?_ (by simp) _) | (with_reducible refine Later.drewN ?_ _) | (with_reducible refine Later.drew ?_) | (with_reducible refine Later.trans ?_ (Hid.out (by assumption)))))⟩
          · cases hst : ikS l k x y
            · have HQ : Hid (ikK B l (k + 1) = true) := Lib.hid (by rw [HN.out, HP.out, hf, hst]; rfl)
              have HFF := Lib.hid hf; have HST := Lib.hid hst
              clear HN HB hf hst
              go_region_held3 (fun w' => w'.cell? ⟨wr.heap.size, 0, none⟩ = some (.int .i64 x) ∧ w'.cell? ⟨wr.heap.size, 1, none⟩ = some (.int .i64 y) ∧ w'.cell? ⟨wr.heap.size, 2, none⟩ = some (.int .i64 z)) (exact KX.out _ (by repeat (first | (with_reducible exact Later.refl _) | (with_reducible exact Hid.out (by assumption)) | (with_reducible refine Later.alloc ?_ _) | (with_reducible refine Later.setCell ?_ (by simp; omega) _) | (with_reducible refine Later.setCell ?_ (by simp) _) | (with_reducible refine Later.drewN ?_ _) | (with_reducible refine Later.drew ?_) | (with_reducible refine Later.trans ?_ (Hid.out (by assumption))))))
                (first
                  | (go_at_call 110; refine (i_isFault _ _ _ _ _).mono ?_; rw [HFF.out]; rintro e w1 ⟨rfl, hb1⟩; have H1 := Lib.hid hb1; clear hb1)
                  | (go_at_call 111; refine (i_isStuckP _ n k _ l _ _ _ _ (HS.out.later (show Later w _ from (by repeat (first | (with_reducible exact Later.refl _) | (with_reducible exact Hid.out (by assumption)) | (with_reducible refine Later.alloc ?_ _) | (with_reducible refine Later.setCell ?_ (by simp; omega) _) | (with_reducible refine Later.setCell ?_ (by simp) _) | (with_reducible refine Later.drewN ?_ _) | (with_reducible refine Later.drew ?_) | (with_reducible refine Later.trans ?_ (Hid.out (by assumption))))))) hk).mono ?_; rw [HST.out]; rintro e w2 ⟨rfl, hb1⟩; have H2 := Lib.hid hb1; clear hb1))
              all_goals
                go_wp2_with fail
                go_roundw
                case rel => exact ⟨k + 1, by omega, by go_num, HQ.out, (by repeat (first | (with_reducible exact Later.refl _) | (with_reducible exact Hid.out (by assumption)) | (with_reducible refine Later.alloc ?_ _) | (with_reducible refine Later.setCell ?_ (by simp; omega) _) | (with_reducible refine Later.setCell ?_ (by simp) _) | (with_reducible refine Later.drewN ?_ _) | (with_reducible refine Later.drew ?_) | (with_reducible refine Later.trans ?_ (Hid.out (by assumption)))))⟩
                case measure => simp [intOf]; omega
            · have HQ : Hid (ikK B l n = false) := Lib.hid (HB.out (by rw [hf, hst]; rfl))
              have HFF := Lib.hid hf; have HST := Lib.hid hst
              clear HN HB hf hst
              go_region_held3 (fun w' => w'.cell? ⟨wr.heap.size, 0, none⟩ = some (.int .i64 x) ∧ w'.cell? ⟨wr.heap.size, 1, none⟩ = some (.int .i64 y) ∧ w'.cell? ⟨wr.heap.size, 2, none⟩ = some (.int .i64 z)) (exact KX.out _ (by repeat (first | (with_reducible exact Later.refl _) | (with_reducible exact Hid.out (by assumption)) | (with_reducible refine Later.alloc ?_ _) | (with_reducible refine Later.setCell ?_ (by simp; omega) _) | (with_reducible refine Later.setCell ?_ (by simp) _) | (with_reducible refine Later.drewN ?_ _) | (with_reducible refine Later.drew ?_) | (with_reducible refine Later.trans ?_ (Hid.out (by assumption))))))
                (first
                  | (go_at_call 110; refine (i_isFault _ _ _ _ _).mono ?_; rw [HFF.out]; rintro e w1 ⟨rfl, hb1⟩; have H1 := Lib.hid hb1; clear hb1)
                  | (go_at_call 111; refine (i_isStuckP _ n k _ l _ _ _ _ (HS.out.later (show Later w _ from (by repeat (first | (with_reducible exact Later.refl _) | (with_reducible exact Hid.out (by assumption)) | (with_reducible refine Later.alloc ?_ _) | (with_reducible refine Later.setCell ?_ (by simp; omega) _) | (with_reducible refine Later.setCell ?_ (by simp) _) | (with_reducible refine Later.drewN ?_ _) | (with_reducible refine Later.drew ?_) | (with_reducible refine Later.trans ?_ (Hid.out (by assumption))))))) hk).mono ?_; rw [HST.out]; rintro e w2 ⟨rfl, hb1⟩; have H2 := Lib.hid hb1; clear hb1))
              all_goals
                go_wp2_with fail
                go_ret
                exact ⟨ret_b (by rw [HF.out, HQ.out]), (by repeat (first | (with_reducible exact Later.refl _) | (with_reducible exact Hid.out (by assumption)) | (with_reducible refine Later.alloc ?_ _) | (with_reducible refine Later.setCell ?_ (by simp; omega) _) | (with_reducible refine Later.setCell ?_ (by simp) _) | (with_reducible refine Later.drewN ?_ _) | (with_reducible refine Later.drew ?_) | (with_reducible refine Later.trans ?_ (Hid.out (by assumption)))))⟩
        · obtain rfl : k = n := by omega
          go_wp2_with fail
          go_ret
          exact ⟨ret_b (by rw [HF.out, HP.out]), HG.out⟩
    · have HF : Hid (ikA B n l = false) := Lib.hid (ikA_no (fun ⟨_, g⟩ => h8 g))
      have HNB := Lib.hid hb
      clear hb
      go_enter Try.func51, Try.ntmps51
      go_wp2_with (go_at_call 90; refine (i_isNumberOfBlocks _ _).mono ?_; rintro e w' ⟨rfl, rfl⟩; rw [HNB.out])
      go_ret
      exact ⟨ret_b (by rw [HF.out]), (by repeat (first | (with_reducible exact Later.refl _) | (with_reducible exact Hid.out (by assumption)) | (with_reducible refine Later.alloc ?_ _) | (with_reducible refine Later.setCell ?_ (by simp; omega) _) | (with_reducible refine Later.setCell ?_ (by simp) _) | (with_reducible refine Later.drewN ?_ _) | (with_reducible refine Later.drew ?_) | (with_reducible refine Later.trans ?_ (Hid.out (by assumption)))))⟩
end Go.Proofs.Ytdaihpkjnigjgaa
