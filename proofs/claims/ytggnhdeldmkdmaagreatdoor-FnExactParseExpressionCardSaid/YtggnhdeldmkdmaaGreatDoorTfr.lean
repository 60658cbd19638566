/- strconv.ParseInt in base 10 with 32 bits, and readCount. -/
import Derived.Test.YtggnhdeldmkdmaaGreatDoorPrs
import Derived.Test.YtggnhdeldmkdmaaGreatDoorLater
namespace Go.Proofs.YtggnhdeldmkdmaaGreatDoor
open Go.RowKit Go.Shelf
set_option maxHeartbeats 2000000
set_option linter.unusedVariables false
set_option linter.unusedSimpArgs false
theorem i_Parse32_ok (t : ByteArray) (w : World) (hs : t.size ≤ 281474976710656) (v : Int) (hr : Lib.parseIntB 32 t.data.toList = .ok v) :
    Calls Tryz.prog 159 #[.string t, .int .i64 10, .int .i64 32] w fun e w' => e = .returned (.tuple #[.int .i64 v, .nilIface]) ∧ Below w.heap.size w w' :=
  (Any.strconv_ParseInt_10_at32_ok Tryz.laysC174 t (by omega) v hr w).mono fun e w' ⟨he, hw⟩ => ⟨he, by
    rcases hw with rfl | ⟨s, rfl⟩
    · exact Below.refl _ _
    · exact Go.Lib.bytesWorld_below _ _ _⟩
theorem i_Parse32_err (t : ByteArray) (w : World) (hs : t.size ≤ 281474976710656) (he : Errs w) (hn : ∀ v, Lib.parseIntB 32 t.data.toList ≠ .ok v) :
    Calls Tryz.prog 159 #[.string t, .int .i64 10, .int .i64 32] w (Failed w) := by
  obtain ⟨⟨t1, p1, h1⟩, ⟨t2, p2, h2⟩⟩ := he
  rcases hr : Lib.parseIntB 32 t.data.toList with v | _ | _
  · exact absurd hr (hn v)
  · exact (Any.strconv_ParseInt_10_at32_syntax_var Tryz.laysC174 t hs hr t1 p1 w h1).mono fun e w' ⟨N, he, _, _, hb⟩ => ⟨_, N, he, hb⟩
  · exact (Any.strconv_ParseInt_10_at32_range_var Tryz.laysC174 t hs hr t2 p2 w h2).mono fun e w' ⟨N, he, _, _, hb⟩ => ⟨_, N, he, hb⟩
/-- what readCount hands back -/
def rcV (s : List UInt8) : Int := match Lib.parseIntB 32 s with | .ok v => v | _ => 0
def rcB (s : List UInt8) : Bool := match Lib.parseIntB 32 s with | .ok _ => true | _ => false
theorem i_readCount (t : ByteArray) (w : World) (hs : t.size ≤ 281474976710656) (he : Errs w) :
    Calls Tryz.prog 144 #[.string t] w fun e w' => e = .returned (.tuple #[.int .i64 (rcV t.data.toList), .bool (rcB t.data.toList)]) ∧ Later w w' := by
  have HE := Lib.hid he
  clear he
  rcases hr : Lib.parseIntB 32 t.data.toList with v | _ | _
  · have h1 : rcV t.data.toList = v := by unfold rcV; rw [hr]
    have h2 : rcB t.data.toList = true := by unfold rcB; rw [hr]
    rw [h1, h2]
    have HR := Lib.hid hr
    clear hr h1 h2
    go_enter Tryz.func144, Tryz.ntmps144
    go_wp2_with fail
    refine (i_Parse32_ok t _ hs v HR.out).mono ?_
    rintro e w1 ⟨rfl, hb⟩
    have B1 := Lib.hid hb
    clear hb
    go_wp2_with fail
    exact bodyPost_ret (v := .tuple #[.int .i64 v, .bool true]) (by simp [results, Tryz.results144, go_sem, *]) rfl ⟨rfl, B1.out⟩
  all_goals
    have h1 : rcV t.data.toList = 0 := by unfold rcV; rw [hr]
    have h2 : rcB t.data.toList = false := by unfold rcB; rw [hr]
    rw [h1, h2]
    have HN : Hid (∀ v, Lib.parseIntB 32 t.data.toList ≠ .ok v) := Lib.hid (fun v e => by rw [hr] at e; cases e)
    clear hr h1 h2
    go_enter Tryz.func144, Tryz.ntmps144
    go_wp2_with fail
    refine (i_Parse32_err t _ hs HE.out HN.out).mono ?_
    rintro e w1 ⟨x, N, rfl, hb⟩
    have B1 := Lib.hid hb
    clear hb
    go_wp2_with fail
    exact bodyPost_ret (v := .tuple #[.int .i64 0, .bool false]) (by simp [results, Tryz.results144, go_sem, *]) rfl ⟨rfl, B1.out⟩
end Go.Proofs.YtggnhdeldmkdmaaGreatDoor
