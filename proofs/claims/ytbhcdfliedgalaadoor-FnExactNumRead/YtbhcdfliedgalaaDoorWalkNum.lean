/-
  The walks of the laws FnExactNumText and FnExactNumRead: they return true and write nothing that was there. Conditions: the variables of strconv hold what the program's text lays in them.
-/
import Derived.Test.YtbhcdfliedgalaaDoorNumRead
namespace Go.Proofs.YtbhcdfliedgalaaDoor
open Go.RowKit

set_option maxHeartbeats 800000 in
theorem walk_FnExactNumText (a0 : Int) (w0 : (Lit.int .i64 a0).wf = true) (w : World) (ht : Tab w) :
    Calls Tryd.prog 4 #[.int .i64 a0] w fun e w' => e = .returned (.bool true) ∧ Below w.heap.size w w' := by
  have H : Hid (InI64 a0) := by
    have hx : -9223372036854775808 ≤ a0 ∧ a0 ≤ 9223372036854775807 := by simpa [Lit.wf, IntKind.min, IntKind.max, IntKind.signed, IntKind.bits] using w0
    exact hx
  have HT := Lib.hid ht
  clear w0 ht
  go_enter Tryd.func4, Tryd.ntmps4
  go_wp2_with fail
  refine (specNumText_any a0 _ H.out).mono ?_
  rintro e w1 ⟨rfl, hb1⟩
  have HT1 := Lib.hid (HT.out.below hb1)
  go_wp2_with fail
  refine (implNumText_any a0 _ H.out HT1.out).mono ?_
  rintro e w2 ⟨rfl, hb2⟩
  have b2 := hb1.trans (hb2.mono hb1.size)
  clear hb1 hb2
  go_wp2_with fail
  go_ret
  exact ⟨rfl, b2⟩

set_option maxHeartbeats 800000 in
theorem walk_FnExactNumRead (s : ByteArray) (hs : s.size ≤ maxLen) (w : World) (ht : Tab w) (he : Errs w) :
    Calls Tryd.prog 5 #[.string s] w fun e w' => e = .returned (.bool true) ∧ Below w.heap.size w w' := by
  have HT := Lib.hid ht
  have HE := Lib.hid he
  clear ht he
  unfold maxLen at hs
  by_cases hbig : 1048576 < s.size
  · go_enter Tryd.func5, Tryd.ntmps5
    go_wp2
    go_ret
    exact ⟨rfl, Below.refl _ _⟩
  · go_enter Tryd.func5, Tryd.ntmps5
    go_wp2_with fail
    refine (specNumRead_any s _ (by omega)).mono ?_
    rintro e w1 ⟨n, b, rfl, hr, hb1⟩
    have HR := Lib.hid hr
    have HT1 := Lib.hid (HT.out.below hb1)
    have HE1 := Lib.hid (HE.out.below hb1)
    clear hr
    go_wp2_with fail
    refine (implNumRead_any s _ (by omega) HT1.out HE1.out).mono ?_
    rintro e w2 ⟨m, c, rfl, hr2, hb2⟩
    have b2 := hb1.trans (hb2.mono hb1.size)
    clear hb1 hb2
    obtain ⟨rfl, rfl⟩ := reads_one HR.out hr2
    clear hr2 HR
    cases b
    all_goals
      go_wp2_with fail
      go_ret
      exact ⟨rfl, b2⟩

end Go.Proofs.YtbhcdfliedgalaaDoor
