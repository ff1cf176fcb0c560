/-
  The contract of the laws' helper big. Conditions: none.
-/
import Derived.Test.YtbhcdfliedgalaaDoorChecked
import Derived.Test.YtbhcdfliedgalaaDoorBase
namespace Go.Proofs.YtbhcdfliedgalaaDoor
open Go.RowKit

theorem big_any (a : Option Addr) (n c : Nat) (w : World) (hn : n ≤ 9223372036854775807) : Calls Tryd.prog 6 #[.slice a n c] w fun e w' => e = .returned (.bool (decide (1048576 < n))) ∧ w' = w := by
  go_enter Tryd.func6, Tryd.ntmps6
  go_wp2
  go_ret
  exact ⟨ret_bool (by rw [Bool.eq_iff_iff, decide_eq_true_iff, decide_eq_true_iff]; omega), rfl⟩

end Go.Proofs.YtbhcdfliedgalaaDoor
