/-
  The contract of the model's l01Between. Conditions: none.
-/
import Derived.Test.YtalanlmhfggheaaChecked
import Derived.Test.YtalanlmhfggheaaBase
namespace Go.Proofs.Ytalanlmhfggheaa
open Go.RowKit

def btw (n lo hi : Int) : Bool := decide (lo ≤ n) && decide (n ≤ hi)

theorem between_any (n lo hi : Int) (w : World) : Calls Try.prog 60 #[.int .i64 n, .int .i64 lo, .int .i64 hi] w fun e w' => e = .returned (.bool (btw n lo hi)) ∧ w' = w := by
  by_cases h1 : lo ≤ n
  · by_cases h2 : n ≤ hi
    · have e : btw n lo hi = true := by simp [btw, h1, h2]
      have HE := Lib.hid e; clear e
      go_enter Try.func60, Try.ntmps60
      go_wp2
      go_ret
      exact ⟨ret_bool HE.out.symm, rfl⟩
    · have e : btw n lo hi = false := by simp [btw, h2]
      have HE := Lib.hid e; clear e
      go_enter Try.func60, Try.ntmps60
      go_wp2
      go_ret
      exact ⟨ret_bool HE.out.symm, rfl⟩
  · have e : btw n lo hi = false := by simp [btw, h1]
    have HE := Lib.hid e; clear e
    go_enter Try.func60, Try.ntmps60
    go_wp2
    go_ret
    exact ⟨ret_bool HE.out.symm, rfl⟩

end Go.Proofs.Ytalanlmhfggheaa
