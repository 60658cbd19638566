/- Contracts of the laws' own helpers on traffic. -/
import Derived.Test.YtdaihpkjnigjgaaDoorTfM
import Derived.Test.YtdaihpkjnigjgaaDoorMemO
import Derived.Test.YtdaihpkjnigjgaaDoorLki
import Derived.Test.YtdaihpkjnigjgaaDoorMark
import Derived.Test.YtdaihpkjnigjgaaDoorTfK
namespace Go.Proofs.YtdaihpkjnigjgaaDoor
open Go.RowKit
set_option maxHeartbeats 4000000
set_option linter.unusedVariables false
set_option linter.unusedSimpArgs false
def szT (n : Nat) : Int := if n ≤ 1048576 then 1048576 - (n : Int) else -1
theorem l_szTraffic (B : Int) (a : Option Addr) (n cap : Nat) (w : World) (hn : n ≤ 9223372036854775807) :
    Calls Tryd.prog 14 #[.agg #[.int .i64 B, .slice a n cap], .int .i64 1048576] w fun e w' => e = .returned (.int .i64 (szT n)) ∧ Later w w' := by
  have hz : ∀ W : World, Calls Tryd.prog 36 #[.slice a n cap, .int .i64 1048576] W fun e w' => e = .returned (.int .i64 (szT n)) ∧ W = w' := by
    intro W
    by_cases h : n ≤ 1048576
    · have HZ : Hid (szT n = 1048576 - (n : Int)) := Lib.hid (by unfold szT; rw [if_pos h])
      go_enter Tryd.func36, Tryd.ntmps36
      go_wp2_with fail
      go_ret
      exact ⟨ret_i64 (by rw [HZ.out]), rfl⟩
    · have HZ : Hid (szT n = -1) := Lib.hid (by unfold szT; rw [if_neg h])
      go_enter Tryd.func36, Tryd.ntmps36
      go_wp2_with fail
      go_ret
      exact ⟨ret_i64 (by rw [HZ.out]), rfl⟩
  have HZ := Lib.hid hz
  clear hz
  by_cases h : n ≤ 1048576
  · have hs : szT n = 1048576 - (n : Int) := by unfold szT; rw [if_pos h]
    rw [hs] at HZ ⊢
    go_enter Tryd.func14, Tryd.ntmps14
    go_wp2_with (go_at_call 36; refine (HZ.out _).mono ?_; rintro e w1 ⟨rfl, rfl⟩)
    go_ret
    exact ⟨rfl, (by repeat (first | (with_reducible exact Later.refl _) | (with_reducible exact Hid.out (by assumption)) | (with_reducible refine Later.alloc ?_ _) | (with_reducible refine Later.setCell ?_ (by simp; omega) _) | (with_reducible refine Later.setCell ?_ (by simp) _) | (with_reducible refine Later.drewN ?_ _) | (with_reducible refine Later.drew ?_) | (with_reducible refine Later.trans ?_ (Hid.out (by assumption)))))⟩
  · have hs : szT n = -1 := by unfold szT; rw [if_neg h]
    rw [hs] at HZ ⊢
    go_enter Tryd.func14, Tryd.ntmps14
    go_wp2_with (go_at_call 36; refine (HZ.out _).mono ?_; rintro e w1 ⟨rfl, rfl⟩)
    go_ret
    exact ⟨rfl, (by repeat (first | (with_reducible exact Later.refl _) | (with_reducible exact Hid.out (by assumption)) | (with_reducible refine Later.alloc ?_ _) | (with_reducible refine Later.setCell ?_ (by simp; omega) _) | (with_reducible refine Later.setCell ?_ (by simp) _) | (with_reducible refine Later.drewN ?_ _) | (with_reducible refine Later.drew ?_) | (with_reducible refine Later.trans ?_ (Hid.out (by assumption)))))⟩
theorem l_eqTraffic (B : Int) (a b : Option Addr) (n cap m cap' : Nat) (l : List Int) (w : World) (hs : Sl w a n l) (ht : Sl w b m l) :
    Calls Tryd.prog 16 #[.agg #[.int .i64 B, .slice a n cap], .agg #[.int .i64 B, .slice b m cap']] w fun e w' => e = .returned (.bool true) ∧ Later w w' := by
  have HS := Lib.hid hs; have HT := Lib.hid ht
  have e0 : (B != B) = false := by simp
  clear hs ht
  go_enter Tryd.func16, Tryd.ntmps16
  go_wp2_with (go_at_call 38; refine (l_eqInt64S _ _ _ _ _ _ _ _ (sl_later HS.out (show Later w _ from (by repeat (first | (with_reducible exact Later.refl _) | (with_reducible exact Hid.out (by assumption)) | (with_reducible refine Later.alloc ?_ _) | (with_reducible refine Later.setCell ?_ (by simp; omega) _) | (with_reducible refine Later.setCell ?_ (by simp) _) | (with_reducible refine Later.drewN ?_ _) | (with_reducible refine Later.drew ?_) | (with_reducible refine Later.trans ?_ (Hid.out (by assumption))))))) (sl_later HT.out (show Later w _ from (by repeat (first | (with_reducible exact Later.refl _) | (with_reducible exact Hid.out (by assumption)) | (with_reducible refine Later.alloc ?_ _) | (with_reducible refine Later.setCell ?_ (by simp; omega) _) | (with_reducible refine Later.setCell ?_ (by simp) _) | (with_reducible refine Later.drewN ?_ _) | (with_reducible refine Later.drew ?_) | (with_reducible refine Later.trans ?_ (Hid.out (by assumption)))))))).mono ?_; rintro e w1 ⟨rfl, q, rfl⟩)
  go_ret
  exact ⟨rfl, (by repeat (first | (with_reducible exact Later.refl _) | (with_reducible exact Hid.out (by assumption)) | (with_reducible refine Later.alloc ?_ _) | (with_reducible refine Later.setCell ?_ (by simp; omega) _) | (with_reducible refine Later.setCell ?_ (by simp) _) | (with_reducible refine Later.drewN ?_ _) | (with_reducible refine Later.drew ?_) | (with_reducible refine Later.trans ?_ (Hid.out (by assumption)))))⟩
theorem l_likeTraffic9 (B : Int) (a b : Option Addr) (n cap m cap' : Nat) (l : List Int) (w : World) (hs : Sl w a n l) (ht : Sl w b m l) :
    Calls Tryd.prog 13 #[.agg #[.int .i64 B, .slice a n cap], .agg #[.int .i64 B, .slice b m cap']] w fun e w' => e = .returned (.bool true) ∧ Later w w' := by
  have HS := Lib.hid hs; have HT := Lib.hid ht
  have e0 : (B == B) = true := by simp
  clear hs ht
  go_enter Tryd.func13, Tryd.ntmps13
  go_wp2_with (go_at_call 35; refine (l_likeInts _ _ _ _ _ _ _ _ (sl_later HS.out (show Later w _ from (by repeat (first | (with_reducible exact Later.refl _) | (with_reducible exact Hid.out (by assumption)) | (with_reducible refine Later.alloc ?_ _) | (with_reducible refine Later.setCell ?_ (by simp; omega) _) | (with_reducible refine Later.setCell ?_ (by simp) _) | (with_reducible refine Later.drewN ?_ _) | (with_reducible refine Later.drew ?_) | (with_reducible refine Later.trans ?_ (Hid.out (by assumption))))))) (sl_later HT.out (show Later w _ from (by repeat (first | (with_reducible exact Later.refl _) | (with_reducible exact Hid.out (by assumption)) | (with_reducible refine Later.alloc ?_ _) | (with_reducible refine Later.setCell ?_ (by simp; omega) _) | (with_reducible refine Later.setCell ?_ (by simp) _) | (with_reducible refine Later.drewN ?_ _) | (with_reducible refine Later.drew ?_) | (with_reducible refine Later.trans ?_ (Hid.out (by assumption)))))))).mono ?_; rintro e w1 ⟨rfl, hb⟩; have H1 := Lib.hid hb; clear hb)
  go_ret
  exact ⟨rfl, (by repeat (first | (with_reducible exact Later.refl _) | (with_reducible exact Hid.out (by assumption)) | (with_reducible refine Later.alloc ?_ _) | (with_reducible refine Later.setCell ?_ (by simp; omega) _) | (with_reducible refine Later.setCell ?_ (by simp) _) | (with_reducible refine Later.drewN ?_ _) | (with_reducible refine Later.drew ?_) | (with_reducible refine Later.trans ?_ (Hid.out (by assumption)))))⟩
theorem cl_lt (w : World) (o : Obj) (b j : Nat) (h : b < w.heap.size) : (w.alloc o).cell? ⟨b, j, none⟩ = w.cell? ⟨b, j, none⟩ := ((Later.refl w).alloc o).cell (p := ⟨b, j, none⟩) h
theorem fz_lt (w : World) (o : Obj) (b j : Nat) (h : b < w.heap.size) : (w.alloc o).frozen? ⟨b, j, none⟩ = w.frozen? ⟨b, j, none⟩ := Below.frozen (p := ⟨b, j, none⟩) ((Later.refl w).alloc o) h
theorem cl_new (w : World) (cs : Array Value) (T : TypeId) (b j : Nat) (v : Value) (hb : b = w.heap.size) (h : cs[j]? = some v) : (w.alloc (.cells cs T)).cell? ⟨b, j, none⟩ = some v := by
  subst hb; simp only [World.cell?, heap_alloc_new]; simp [h]
theorem fz_new (w : World) (cs : Array Value) (T : TypeId) (b j : Nat) (hb : b = w.heap.size) : (w.alloc (.cells cs T)).frozen? ⟨b, j, none⟩ = false := by
  subst hb; simp only [World.frozen?, heap_alloc_new]; simp
/-- a copy of a traffic -/
def CpT (w : World) (B : Int) (n : Nat) (l : List Int) (e : Ending) (w' : World) : Prop :=
  ∃ g, e = .returned (.agg #[.int .i64 B, .slice (some ⟨g, 0, none⟩) n n]) ∧ w.heap.size ≤ g ∧ g < w'.heap.size ∧ Own w' w.heap.size (.slice (some ⟨g, 0, none⟩) n n) l ∧ Later w w'
theorem l_toTraffic (B : Int) (a : Option Addr) (n cap : Nat) (l : List Int) (w : World) (hs : Sl w a n l) (hn : n ≤ 1048576) :
    Calls Tryd.prog 15 #[.agg #[.int .i64 B, .slice a n cap]] w (CpT w B n l) := by
  have HS := Lib.hid hs
  have HL := Lib.hid hs.1
  clear hs
  go_enter Tryd.func15, Tryd.ntmps15
  go_wp2_with fail
  refine (l_toInt64O _ _ _ _ _ (sl_later HS.out (show Later w _ from (by repeat (first | (with_reducible exact Later.refl _) | (with_reducible exact Hid.out (by assumption)) | (with_reducible refine Later.alloc ?_ _) | (with_reducible refine Later.setCell ?_ (by simp; omega) _) | (with_reducible refine Later.setCell ?_ (by simp) _) | (with_reducible refine Later.drewN ?_ _) | (with_reducible refine Later.drew ?_) | (with_reducible refine Later.trans ?_ (Hid.out (by assumption))))))) hn).mono ?_
  rintro e w1 ⟨g, rfl, hg, hgl, ho, hb⟩
  obtain ⟨H1, hcc, hff, hzz⟩ := later_facts (show Later _ w1 from hb); clear hb
  simp only [World.size_alloc] at hzz hcc hff hg ho
  have r0 : w1.cell? ⟨w.heap.size + 1, 0, none⟩ = some (.int .i64 0) := by rw [hcc _ _ (by omega), cl_lt _ _ _ _ (by simp)]; exact cl_new _ _ _ _ _ _ (by simp) rfl
  have r1 : w1.cell? ⟨w.heap.size + 1, 1, none⟩ = some (.slice none 0 0) := by rw [hcc _ _ (by omega), cl_lt _ _ _ _ (by simp)]; exact cl_new _ _ _ _ _ _ (by simp) rfl
  have r2 : w1.frozen? ⟨w.heap.size + 1, 0, none⟩ = false := by rw [hff _ _ (by omega), fz_lt _ _ _ _ (by simp), fz_new _ _ _ _ _ (by simp)]
  have r3 : w1.frozen? ⟨w.heap.size + 1, 1, none⟩ = false := by rw [hff _ _ (by omega), fz_lt _ _ _ _ (by simp), fz_new _ _ _ _ _ (by simp)]
  have o0 : w1.cell? ⟨w.heap.size + 1 + 1, 0, none⟩ = some (.int .i64 B) := by rw [hcc _ _ (by omega)]; exact cl_new _ _ _ _ _ _ (by simp) rfl
  have o1 : w1.cell? ⟨w.heap.size + 1 + 1, 1, none⟩ = some (.slice none 0 0) := by rw [hcc _ _ (by omega)]; exact cl_new _ _ _ _ _ _ (by simp) rfl
  have o2 : w1.frozen? ⟨w.heap.size + 1 + 1, 0, none⟩ = false := by rw [hff _ _ (by omega), fz_new _ _ _ _ _ (by simp)]
  have o3 : w1.frozen? ⟨w.heap.size + 1 + 1, 1, none⟩ = false := by rw [hff _ _ (by omega), fz_new _ _ _ _ _ (by simp)]
  have HG : Hid (Later w w1) := Lib.hid (by repeat (first | (with_reducible exact Later.refl _) | (with_reducible exact Hid.out (by assumption)) | (with_reducible refine Later.alloc ?_ _) | (with_reducible refine Later.setCell ?_ (by simp; omega) _) | (with_reducible refine Later.setCell ?_ (by simp) _) | (with_reducible refine Later.drewN ?_ _) | (with_reducible refine Later.drew ?_) | (with_reducible refine Later.trans ?_ (Hid.out (by assumption)))))
  have HO := Lib.hid ho
  clear hcc hff ho H1
  go_wp2_with fail
  refine bodyPost_ret (v := .agg #[.int .i64 B, .slice (some ⟨g, 0, none⟩) n n]) (by simp [results, Tryd.results15, go_sem, *]) rfl ⟨g, rfl, by omega, by simpa using hgl, ?_, ?_⟩
  · exact tf_mono (own_res (HO.out.kept (grown_set _ _ _ _) (fun k e => by cases e; omega)) (by omega)) (by omega)
  · exact put_res (by omega) (HG.out.setCell (p := ⟨w.heap.size + 1 + 1, 1, none⟩) (by show w.heap.size ≤ w.heap.size + 1 + 1; omega) _)
theorem l_markTraffic (B : Int) (v : Value) (base : Nat) (l : List Int) (w : World) (ho : Own w base v l) (hl : l.length ≤ 1000000000) :
    Calls Tryd.prog 17 #[.agg #[.int .i64 B, v], .int .i64 1] w fun e w' => e = .returned (.int .i64 (1 + (l.length : Int))) ∧ Own w' base v (mrk l l.length) ∧ w.grownBy w' v.ownBlock := by
  obtain ⟨a, c, rfl, _, _⟩ := ho.sl
  have HO := Lib.hid ho
  clear ho
  go_enter Tryd.func17, Tryd.ntmps17
  go_wp2_with fail
  refine (l_markInt64S _ base l _ (HO.out.alloc _) hl).mono ?_
  rintro e w1 ⟨rfl, h1, h2⟩
  have H1 := Lib.hid h1
  have H2 := Lib.hid (grown_trans (World.grownBy_alloc w _ _) h2)
  clear h1 h2
  go_wp2_with fail
  go_ret
  exact ⟨rfl, H1.out, H2.out⟩
theorem l_heldTraffic (B : Int) (v : Value) (base : Nat) (l : List Int) (w : World) (ho : Own w base v (mrk l l.length)) (hl : l.length ≤ 1000000000) :
    Calls Tryd.prog 18 #[.agg #[.int .i64 B, v], .int .i64 1] w fun e w' => e = .returned (.int .i64 (1 + (l.length : Int))) ∧ Later w w' := by
  obtain ⟨a, c, rfl, _, _⟩ := ho.sl
  have HO := Lib.hid ho
  have hm := mrk_len l l.length
  rw [hm] at HO ⊢
  clear ho hm
  go_enter Tryd.func18, Tryd.ntmps18
  go_wp2_with (go_at_call 40; refine (l_heldInt64S _ base l _ (HO.out.alloc _) hl).mono ?_; rintro e w1 ⟨rfl, rfl⟩)
  go_ret
  exact ⟨rfl, (by repeat (first | (with_reducible exact Later.refl _) | (with_reducible exact Hid.out (by assumption)) | (with_reducible refine Later.alloc ?_ _) | (with_reducible refine Later.setCell ?_ (by simp; omega) _) | (with_reducible refine Later.setCell ?_ (by simp) _) | (with_reducible refine Later.drewN ?_ _) | (with_reducible refine Later.drew ?_) | (with_reducible refine Later.trans ?_ (Hid.out (by assumption)))))⟩
end Go.Proofs.YtdaihpkjnigjgaaDoor
