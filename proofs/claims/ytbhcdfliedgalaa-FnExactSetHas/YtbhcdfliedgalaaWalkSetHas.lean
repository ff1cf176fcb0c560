/-
  The walk of the law FnExactSetHas: it returns true at every slice of ints and number and writes nothing that was there. Conditions: none.
-/
import Derived.Test.YtbhcdfliedgalaaSetHas
namespace Go.Proofs.Ytbhcdfliedgalaa
open Go.RowKit

set_option maxHeartbeats 800000 in
theorem walk_FnExactSetHas (a0 : Option Addr) (len0 cap0 : Nat) (z0 : List Int) (a1 : Int) (w : World) (w0 : IsRow .i64 w a0 len0 cap0 z0) (_ : (Lit.int .i64 a1).wf = true) :
    Calls Try.prog 9 #[.slice a0 len0 cap0, .int .i64 a1] w fun e w' => e = .returned (.bool true) ∧ Below w.heap.size w w' := by
  have hr := w0.row
  have hl : len0 ≤ maxLen := by rcases w0 with ⟨_, rfl, _⟩ | ⟨_, _, h1, h2, _⟩ <;> omega
  unfold maxLen at hl
  generalize z0.take len0 = xs at hr
  clear w0
  by_cases hbig : 1048576 < len0
  · go_enter Try.func9, Try.ntmps9
    go_wp2
    go_ret
    exact ⟨rfl, Below.refl _ _⟩
  · go_enter Try.func9, Try.ntmps9
    go_wp2_with fail
    refine (toIntS_any _ _ _ xs _ hr (by omega)).mono ?_
    rintro e w1 ⟨rfl, ho1, hb1⟩
    have hr2 := hr.below hb1
    go_wp2_with fail
    refine (specSetHas_any _ _ _ _ xs _ ho1.row.2.2.2 (by omega)).mono ?_
    rintro e w2 ⟨rfl, rfl⟩
    clear ho1
    go_wp2_with fail
    refine (toIntS_any _ _ _ xs _ hr2 (by omega)).mono ?_
    rintro e w3 ⟨rfl, ho3, hb3⟩
    have b3 := hb1.trans (hb3.mono hb1.size)
    have hr4 := hr.below b3
    go_wp2_with fail
    refine (implSetHas_any _ _ _ _ xs _ ho3.row.2.2.2 (by omega)).mono ?_
    rintro e w4 ⟨rfl, rfl⟩
    go_wp2_with fail
    refine (toIntS_any _ _ _ xs _ hr4 (by omega)).mono ?_
    rintro e w5 ⟨rfl, ho5, hb5⟩
    have b5 := b3.trans (hb5.mono b3.size)
    have ho45 := ho3.below hb5
    go_wp2_with fail
    refine (eqIntS_any _ _ _ _ _ _ xs xs _ ho45.row.2.2.2 ho5.row.2.2.2 (by omega) (by omega)).mono ?_
    rintro e w6 ⟨rfl, hb6⟩
    have b6 := b5.trans (hb6.mono b5.size)
    go_wp2_with fail
    go_ret
    exact ⟨rfl, b6⟩

end Go.Proofs.Ytbhcdfliedgalaa
