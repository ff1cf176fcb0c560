/-
  The walk of the law FnExactSetOk: it returns true at every slice of ints and writes nothing that was there. Conditions: none.
-/
import Derived.Test.YtbhcdfliedgalaaSetOk
namespace Go.Proofs.Ytbhcdfliedgalaa
open Go.RowKit

set_option maxHeartbeats 800000 in
theorem walk_FnExactSetOk (a0 : Option Addr) (len0 cap0 : Nat) (z0 : List Int) (w : World) (w0 : IsRow .i64 w a0 len0 cap0 z0) :
    Calls Try.prog 4 #[.slice a0 len0 cap0] w fun e w' => e = .returned (.bool true) ∧ Below w.heap.size w w' := by
  have hr := w0.row
  have hl : len0 ≤ maxLen := by rcases w0 with ⟨_, rfl, _⟩ | ⟨_, _, h1, h2, _⟩ <;> omega
  unfold maxLen at hl
  generalize z0.take len0 = xs at hr
  clear w0
  by_cases hbig : 1048576 < len0
  · go_enter Try.func4, Try.ntmps4
    go_wp2
    go_ret
    exact ⟨rfl, Below.refl _ _⟩
  · go_enter Try.func4, Try.ntmps4
    go_wp2_with fail
    refine (toIntS_any _ _ _ xs _ hr (by omega)).mono ?_
    rintro e w1 ⟨rfl, ho1, hb1⟩
    go_wp2_with fail
    refine (specSetOk_any _ _ _ xs _ ho1.row.2.2.2 (by omega)).mono ?_
    rintro e w2 ⟨rfl, hb2⟩
    have b2 := hb1.trans (hb2.mono hb1.size)
    have hr2 := hr.below b2
    clear hb1 hb2 ho1
    go_wp2_with fail
    refine (toIntS_any _ _ _ xs _ hr2 (by omega)).mono ?_
    rintro e w3 ⟨rfl, ho3, hb3⟩
    have b3 := b2.trans (hb3.mono b2.size)
    go_wp2_with fail
    refine (implSetOk_any _ _ _ xs _ ho3.row.2.2.2 (by omega)).mono ?_
    rintro e w4 ⟨rfl, hb4⟩
    have b4 := b3.trans (hb4.mono b3.size)
    have ho4 := ho3.below hb4
    have hr4 := hr.below b4
    clear hb3 ho3 hb4 b3 b2 hr2
    go_wp2_with fail
    refine (toIntS_any _ _ _ xs _ hr4 (by omega)).mono ?_
    rintro e w5 ⟨rfl, ho5, hb5⟩
    have b5 := b4.trans (hb5.mono b4.size)
    have ho45 := ho4.below hb5
    go_wp2_with fail
    refine (eqIntS_any _ _ _ _ _ _ xs xs _ ho45.row.2.2.2 ho5.row.2.2.2 (by omega) (by omega)).mono ?_
    rintro e w6 ⟨rfl, hb6⟩
    have b6 := b5.trans (hb6.mono b5.size)
    go_wp2_with fail
    go_ret
    exact ⟨rfl, b6⟩

end Go.Proofs.Ytbhcdfliedgalaa
