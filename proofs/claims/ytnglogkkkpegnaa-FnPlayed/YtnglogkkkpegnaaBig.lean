/-
  The contract of the laws' helper big. Conditions: none.
-/
import Derived.Test.YtnglogkkkpegnaaChecked
import Derived.Test.YtnglogkkkpegnaaBase
namespace Go.Proofs.Ytnglogkkkpegnaa
open Go.RowKit

theorem big_any (a : Option Addr) (n c : Nat) (w : World) (hn : n ≤ 9223372036854775807) : Calls Try.prog 6 #[.slice a n c] w fun e w' => e = .returned (.bool (decide (1048576 < n))) ∧ w' = w := by
  go_enter Try.func6, Try.ntmps6
  go_wp2
  go_ret
  exact ⟨ret_bool (by rw [Bool.eq_iff_iff, decide_eq_true_iff, decide_eq_true_iff]; omega), rfl⟩

end Go.Proofs.Ytnglogkkkpegnaa
