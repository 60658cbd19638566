/- Contracts of the laws' own helpers on traffic. -/
import Derived.Test.YtdaihpkjnigjgaaTfM
import Derived.Test.YtdaihpkjnigjgaaMemO
import Derived.Test.YtdaihpkjnigjgaaLki
import Derived.Test.YtdaihpkjnigjgaaMark
import Derived.Test.YtdaihpkjnigjgaaTfK
namespace Go.Proofs.Ytdaihpkjnigjgaa
open Go.RowKit
set_option maxHeartbeats 4000000
set_option linter.unusedVariables false
set_option linter.unusedSimpArgs false
def szT (n : Nat) : Int := if n ≤ 1048576 then 1048576 - (n : Int) else -1
theorem l_szTraffic (B : Int) (a : Option Addr) (n cap : Nat) (w : World) (hn : n ≤ 9223372036854775807) :
    Calls Try.prog 68 #[.agg #[.int .i64 B, .slice a n cap], .int .i64 1048576] w fun e w' => e = .returned (.int .i64 (szT n)) ∧ Later w w' := by
  have hz : ∀ W : World, Calls Try.prog 125 #[.slice a n cap, .int .i64 1048576] W fun e w' => e = .returned (.int .i64 (szT n)) ∧ W = w' := by
    intro W
    by_cases h : n ≤ 1048576
    · have HZ : Hid (szT n = 1048576 - (n : Int)) := Lib.hid (by unfold szT; rw [if_pos h])
      go_enter Try.func125, Try.ntmps125
      go_wp2_with fail
      go_ret
      exact ⟨ret_i64 (by rw [HZ.out]), rfl⟩
    · have HZ : Hid (szT n = -1) := Lib.hid (by unfold szT; rw [if_neg h])
      go_enter Try.func125, Try.ntmps125
      go_wp2_with fail
      go_ret
      exact ⟨ret_i64 (by rw [HZ.out]), rfl⟩
  have HZ := Lib.hid hz
  clear hz
  by_cases h : n ≤ 1048576
  · have hs : szT n = 1048576 - (n : Int) := by unfold szT; rw [if_pos h]
    rw [hs] at HZ ⊢
    go_enter Try.func68, Try.ntmps68
    go_wp2_with (go_at_call 125; refine (HZ.out _).mono ?_; rintro e w1 ⟨rfl, rfl⟩)
    go_ret
    exact ⟨rfl, (by repeat (first | (with_reducible exact Later.refl _) | (with_reducible exact Hid.out (by assumption)) | (with_reducible refine Later.alloc ?_ _) | (with_reducible refine Later.setCell ?_ (by simp; omega) _) | (with_reducible refine Later.setCell ?_ (by simp) _) | (with_reducible refine Later.drewN ?_ _) | (with_reducible refine Later.drew ?_) | (with_reducible refine Later.trans ?_ (Hid.out (by assumption)))))⟩
  · have hs : szT n = -1 := by unfold szT; rw [if_neg h]
    rw [hs] at HZ ⊢
    go_enter Try.func68, Try.ntmps68
    go_wp2_with (go_at_call 125; refine (HZ.out _).mono ?_; rintro e w1 ⟨rfl, rfl⟩)
    go_ret
    exact ⟨rfl, (by repeat (first | (with_reducible exact Later.refl _) | (with_reducible exact Hid.out (by assumption)) | (with_reducible refine Later.alloc ?_ _) | (with_reducible refine Later.setCell ?_ (by simp; omega) _) | (with_reducible refine Later.setCell ?_ (by simp) _) | (with_reducible refine Later.drewN ?_ _) | (with_reducible refine Later.drew ?_) | (with_reducible refine Later.trans ?_ (Hid.out (by assumption)))))⟩
theorem l_eqTraffic (B : Int) (a b : Option Addr) (n cap m cap' : Nat) (l : List Int) (w : World) (hs : Sl w a n l) (ht : Sl w b m l) :
    Calls Try.prog 70 #[.agg #[.int .i64 B, .slice a n cap], .agg #[.int .i64 B, .slice b m cap']] w fun e w' => e = .returned (.bool true) ∧ Later w w' := by
  have HS := Lib.hid hs; have HT := Lib.hid ht
  have e0 : (B != B) = false := by simp
  clear hs ht
  go_enter Try.func70, Try.ntmps70
  go_wp2_with (go_at_call 71; refine (l_eqInt64S _ _ _ _ _ _ _ _ (sl_later HS.out (show Later w _ from (by repeat (first | (with_reducible exact Later.refl _) | (with_reducible exact Hid.out (by assumption)) | (with_reducible refine Later.alloc ?_ _) | (with_reducible refine Later.setCell ?_ (by simp; omega) _) | (with_reducible refine Later.setCell ?_ (by simp) _) | (with_reducible refine Later.drewN ?_ _) | (with_reducible refine Later.drew ?_) | (with_reducible refine Later.trans ?_ (Hid.out (by assumption))))))) (sl_later HT.out (show Later w _ from (by repeat (first | (with_reducible exact Later.refl _) | (with_reducible exact Hid.out (by assumption)) | (with_reducible refine Later.alloc ?_ _) | (with_reducible refine Later.setCell ?_ (by simp; omega) _) | (with_reducible refine Later.setCell ?_ (by simp) _) | (with_reducible refine Later.drewN ?_ _) | (with_reducible refine Later.drew ?_) | (with_reducible refine Later.trans ?_ (Hid.out (by assumption)))))))).mono ?_; rintro e w1 ⟨rfl, q, rfl⟩)
  go_ret
  exact ⟨rfl, (by repeat (first | (with_reducible exact Later.refl _) | (with_reducible exact Hid.out (by assumption)) | (with_reducible refine Later.alloc ?_ _) | (with_reducible refine Later.setCell ?_ (by simp; omega) _) | (with_reducible refine Later.setCell ?_ (by simp) _) | (with_reducible refine Later.drewN ?_ _) | (with_reducible refine Later.drew ?_) | (with_reducible refine Later.trans ?_ (Hid.out (by assumption)))))⟩
theorem l_likeTraffic9 (B : Int) (a b : Option Addr) (n cap m cap' : Nat) (l : List Int) (w : World) (hs : Sl w a n l) (ht : Sl w b m l) :
    Calls Try.prog 35 #[.agg #[.int .i64 B, .slice a n cap], .agg #[.int .i64 B, .slice b m cap']] w fun e w' => e = .returned (.bool true) ∧ Later w w' := by
  have HS := Lib.hid hs; have HT := Lib.hid ht
  have e0 : (B == B) = true := by simp
  clear hs ht
  go_enter Try.func35, Try.ntmps35
  go_wp2_with (go_at_call 28; refine (l_likeInts _ _ _ _ _ _ _ _ (sl_later HS.out (show Later w _ from (by repeat (first | (with_reducible exact Later.refl _) | (with_reducible exact Hid.out (by assumption)) | (with_reducible refine Later.alloc ?_ _) | (with_reducible refine Later.setCell ?_ (by simp; omega) _) | (with_reducible refine Later.setCell ?_ (by simp) _) | (with_reducible refine Later.drewN ?_ _) | (with_reducible refine Later.drew ?_) | (with_reducible refine Later.trans ?_ (Hid.out (by assumption))))))) (sl_later HT.out (show Later w _ from (by repeat (first | (with_reducible exact Later.refl _) | (with_reducible exact Hid.out (by assumption)) | (with_reducible refine Later.alloc ?_ _) | (with_reducible refine Later.setCell ?_ (by simp; omega) _) | (with_reducible refine Later.setCell ?_ (by simp) _) | (with_reducible refine Later.drewN ?_ _) | (with_reducible refine Later.drew ?_) | (with_reducible refine Later.trans ?_ (Hid.out (by assumption)))))))).mono ?_; rintro e w1 ⟨rfl, hb⟩; have H1 := Lib.hid hb; clear hb)
  go_ret
  exact ⟨rfl, (by repeat (first | (with_reducible exact Later.refl _) | (with_reducible exact Hid.out (by assumption)) | (with_reducible refine Later.alloc ?_ _) | (with_reducible refine Later.setCell ?_ (by simp; omega) _) | (with_reducible refine Later.setCell ?_ (by simp) _) | (with_reducible refine Later.drewN ?_ _) | (with_reducible refine Later.drew ?_) | (with_reducible refine Later.trans ?_ (Hid.out (by assumption)))))⟩
theorem l_hasIntT (a : Option Addr) (n cap : Nat) (l : List Int) (x : Int) (w : World) (hs : Sl w a n l) :
    Calls Try.prog 36 #[.slice a n cap, .int .i64 x] w fun e w' => e = .returned (.bool (decide (x ∈ l))) ∧ Later w w' := by
  have HS := Lib.hid hs
  have HL := Lib.hid hs.1
  have hn := hs.2.1
  clear hs
  go_enter Try.func36, Try.ntmps36
  go_wp2_with fail
  go_loopw [5] (fun i wr => ∃ k : Nat, k ≤ n ∧ i = .int .i64 k ∧ (∀ j, j < k → gx l j ≠ x) ∧ Later w wr) (fun i _ => n - (intOf i).toNat)
  case atStart => exact ⟨0, by omega, rfl, fun j hj => by omega, Later.refl _⟩
  case round =>
    obtain ⟨k, hk, rfl, hne, hg⟩ := hrel
    have HG := Lib.hid hg; have HN := Lib.hid hne
    clear hg hne
    by_cases hlt : k < n
    · obtain ⟨b, off, rfl, hc⟩ := (sl_later HS.out HG.out).at k hlt
      cases hx : (gx l k == x)
      · go_wp2_with fail
        go_roundw
        case rel =>
          refine ⟨k + 1, by omega, by go_num, fun j hj => ?_, (by repeat (first | (with_reducible exact Later.refl _) | (with_reducible exact Hid.out (by assumption)) | (with_reducible refine Later.alloc ?_ _) | (with_reducible refine Later.setCell ?_ (by simp; omega) _) | (with_reducible refine Later.setCell ?_ (by simp) _) | (with_reducible refine Later.drewN ?_ _) | (with_reducible refine Later.drew ?_) | (with_reducible refine Later.trans ?_ (Hid.out (by assumption)))))⟩
          by_cases e : j = k
          · rw [e]; simpa using hx
          · exact HN.out j (by omega)
        case measure => simp [intOf]; omega
      · have HM : Hid (x ∈ l) := Lib.hid (by have := gx_mem l k (by rw [HL.out]; exact hlt); rw [← show gx l k = x by simpa using hx]; exact this)
        go_wp2_with fail
        go_ret
        exact ⟨ret_b (by rw [decide_eq_true HM.out]), (by repeat (first | (with_reducible exact Later.refl _) | (with_reducible exact Hid.out (by assumption)) | (with_reducible refine Later.alloc ?_ _) | (with_reducible refine Later.setCell ?_ (by simp; omega) _) | (with_reducible refine Later.setCell ?_ (by simp) _) | (with_reducible refine Later.drewN ?_ _) | (with_reducible refine Later.drew ?_) | (with_reducible refine Later.trans ?_ (Hid.out (by assumption)))))⟩
    · obtain rfl : k = n := by omega
      have HM : Hid (¬ x ∈ l) := Lib.hid (fun hx => by
        obtain ⟨j, hj, e⟩ := List.mem_iff_getElem.1 hx
        exact HN.out j (by rw [← HL.out]; exact hj) (by rw [gx_of l j hj]; exact e))
      go_wp2_with fail
      go_ret
      exact ⟨ret_b (by rw [decide_eq_false HM.out]), HG.out⟩
theorem cl_lt (w : World) (o : Obj) (b j : Nat) (h : b < w.heap.size) : (w.alloc o).cell? ⟨b, j, none⟩ = w.cell? ⟨b, j, none⟩ := ((Later.refl w).alloc o).cell (p := ⟨b, j, none⟩) h
theorem fz_lt (w : World) (o : Obj) (b j : Nat) (h : b < w.heap.size) : (w.alloc o).frozen? ⟨b, j, none⟩ = w.frozen? ⟨b, j, none⟩ := Below.frozen (p := ⟨b, j, none⟩) ((Later.refl w).alloc o) h
theorem cl_new (w : World) (cs : Array Value) (T : TypeId) (b j : Nat) (v : Value) (hb : b = w.heap.size) (h : cs[j]? = some v) : (w.alloc (.cells cs T)).cell? ⟨b, j, none⟩ = some v := by
  subst hb; simp only [World.cell?, heap_alloc_new]; simp [h]
theorem fz_new (w : World) (cs : Array Value) (T : TypeId) (b j : Nat) (hb : b = w.heap.size) : (w.alloc (.cells cs T)).frozen? ⟨b, j, none⟩ = false := by
  subst hb; simp only [World.frozen?, heap_alloc_new]; simp
/-- a copy of a traffic -/
def CpT (w : World) (B : Int) (n : Nat) (l : List Int) (e : Ending) (w' : World) : Prop :=
  ∃ g, e = .returned (.agg #[.int .i64 B, .slice (some ⟨g, 0, none⟩) n n]) ∧ w.heap.size ≤ g ∧ g < w'.heap.size ∧ Own w' w.heap.size (.slice (some ⟨g, 0, none⟩) n n) l ∧ Later w w'
theorem l_toTraffic (B : Int) (a : Option Addr) (n cap : Nat) (l : List Int) (w : World) (hs : Sl w a n l) (hn : n ≤ 1048576) :
    Calls Try.prog 69 #[.agg #[.int .i64 B, .slice a n cap]] w (CpT w B n l) := by
  have HS := Lib.hid hs
  have HL := Lib.hid hs.1
  clear hs
  go_enter Try.func69, Try.ntmps69
  go_wp2_with fail
  refine (l_toInt64O _ _ _ _ _ (sl_later HS.out (show Later w _ from (by repeat (first | (with_reducible exact Later.refl _) | (with_reducible exact Hid.out (by assumption)) | (with_reducible refine Later.alloc ?_ _) | (with_reducible refine Later.setCell ?_ (by simp; omega) _) | (with_reducible refine Later.setCell ?_ (by simp) _) | (with_reducible refine Later.drewN ?_ _) | (with_reducible refine Later.drew ?_) | (with_reducible refine Later.trans ?_ (Hid.out (by assumption))))))) hn).mono ?_
  rintro e w1 ⟨g, rfl, hg, hgl, ho, hb⟩
  obtain ⟨H1, hcc, hff, hzz⟩ := later_facts (show Later _ w1 from hb); clear hb
  simp only [World.size_alloc] at hzz hcc hff hg ho
  have r0 : w1.cell? ⟨w.heap.size + 1, 0, none⟩ = some (.int .i64 0) := by rw [hcc _ _ (by omega), cl_lt _ _ _ _ (by simp)]; exact cl_new _ _ _ _ _ _ (by simp) rfl
  have r1 : w1.cell? ⟨w.heap.size + 1, 1, none⟩ = some (.slice none 0 0) := by rw [hcc _ _ (by omega), cl_lt _ _ _ _ (by simp)]; exact cl_new _ _ _ _ _ _ (by simp) rfl
  have r2 : w1.frozen? ⟨w.heap.size + 1, 0, none⟩ = false := by rw [hff _ _ (by omega), fz_lt _ _ _ _ (by simp), fz_new _ _ _ _ _ (by simp)]
  have r3 : w1.frozen? ⟨w.heap.size + 1, 1, none⟩ = false := by rw [hff _ _ (by omega), fz_lt _ _ _ _ (by simp), fz_new _ _ _ _ _ (by simp)]
  have o0 : w1.cell? ⟨w.heap.size + 1 + 1, 0, none⟩ = some (.int .i64 B) := by rw [hcc _ _ (by omega)]; exact cl_new _ _ _ _ _ _ (by simp) rfl
  have o1 : w1.cell? ⟨w.heap.size + 1 + 1, 1, none⟩ = some (.slice none 0 0) := by rw [hcc _ _ (by omega)]; exact cl_new _ _ _ _ _ _ (by simp) rfl
  have o2 : w1.frozen? ⟨w.heap.size + 1 + 1, 0, none⟩ = false := by rw [hff _ _ (by omega), fz_new _ _ _ _ _ (by simp)]
  have o3 : w1.frozen? ⟨w.heap.size + 1 + 1, 1, none⟩ = false := by rw [hff _ _ (by omega), fz_new _ _ _ _ _ (by simp)]
  have HG : Hid (Later w w1) := Lib.hid (by repeat (first | (with_reducible exact Later.refl _) | (with_reducible exact Hid.out (by assumption)) | (with_reducible refine Later.alloc ?_ _) | (with_reducible refine Later.setCell ?_ (by simp; omega) _) | (with_reducible refine Later.setCell ?_ (by simp) _) | (with_reducible refine Later.drewN ?_ _) | (with_reducible refine Later.drew ?_) | (with_reducible refine Later.trans ?_ (Hid.out (by assumption)))))
  have HO := Lib.hid ho
  clear hcc hff ho H1
  go_wp2_with fail
  refine bodyPost_ret (v := .agg #[.int .i64 B, .slice (some ⟨g, 0, none⟩) n n]) (by simp [results, Try.results69, go_sem, *]) rfl ⟨g, rfl, by omega, by simpa using hgl, ?_, ?_⟩
  · exact tf_mono (own_res (HO.out.kept (grown_set _ _ _ _) (fun k e => by cases e; omega)) (by omega)) (by omega)
  · exact put_res (by omega) (HG.out.setCell (p := ⟨w.heap.size + 1 + 1, 1, none⟩) (by show w.heap.size ≤ w.heap.size + 1 + 1; omega) _)
theorem l_markTraffic (B : Int) (v : Value) (base : Nat) (l : List Int) (w : World) (ho : Own w base v l) (hl : l.length ≤ 1000000000) :
    Calls Try.prog 72 #[.agg #[.int .i64 B, v], .int .i64 1] w fun e w' => e = .returned (.int .i64 (1 + (l.length : Int))) ∧ Own w' base v (mrk l l.length) ∧ w.grownBy w' v.ownBlock := by
  obtain ⟨a, c, rfl, _, _⟩ := ho.sl
  have HO := Lib.hid ho
  clear ho
  go_enter Try.func72, Try.ntmps72
  go_wp2_with fail
  refine (l_markInt64S _ base l _ (HO.out.alloc _) hl).mono ?_
  rintro e w1 ⟨rfl, h1, h2⟩
  have H1 := Lib.hid h1
  have H2 := Lib.hid (grown_trans (World.grownBy_alloc w _ _) h2)
  clear h1 h2
  go_wp2_with fail
  go_ret
  exact ⟨rfl, H1.out, H2.out⟩
theorem l_heldTraffic (B : Int) (v : Value) (base : Nat) (l : List Int) (w : World) (ho : Own w base v (mrk l l.length)) (hl : l.length ≤ 1000000000) :
    Calls Try.prog 75 #[.agg #[.int .i64 B, v], .int .i64 1] w fun e w' => e = .returned (.int .i64 (1 + (l.length : Int))) ∧ Later w w' := by
  obtain ⟨a, c, rfl, _, _⟩ := ho.sl
  have HO := Lib.hid ho
  have hm := mrk_len l l.length
  rw [hm] at HO ⊢
  clear ho hm
  go_enter Try.func75, Try.ntmps75
  go_wp2_with (go_at_call 74; refine (l_heldInt64S _ base l _ (HO.out.alloc _) hl).mono ?_; rintro e w1 ⟨rfl, rfl⟩)
  go_ret
  exact ⟨rfl, (by repeat (first | (with_reducible exact Later.refl _) | (with_reducible exact Hid.out (by assumption)) | (with_reducible refine Later.alloc ?_ _) | (with_reducible refine Later.setCell ?_ (by simp; omega) _) | (with_reducible refine Later.setCell ?_ (by simp) _) | (with_reducible refine Later.drewN ?_ _) | (with_reducible refine Later.drew ?_) | (with_reducible refine Later.trans ?_ (Hid.out (by assumption)))))⟩
end Go.Proofs.Ytdaihpkjnigjgaa
