/-
  The contract of the model's l02Along: what may be come to. Conditions: at most 2^20 steps, and numbers in the lists.
-/
import Derived.Test.YtfhjhfhfbgddeaaGreatDoorIaMath
import Derived.Test.YtfhjhfhfbgddeaaGreatDoorIaLaw
import Derived.Test.YtfhjhfhfbgddeaaGreatDoorSpecIaOk
namespace Go.Proofs.YtfhjhfhfbgddeaaGreatDoor
open Go.RowKit

/-- How long a slice is. -/
def lenOf : Value → Nat
  | .slice _ n _ => n
  | _ => 0

theorem lenOf_slice (a : Option Addr) (n c : Nat) : lenOf (.slice a n c) = n := rfl

theorem join_none (xs : List Int) : joinOf xs [] = putAll [] xs := rfl

end Go.Proofs.YtfhjhfhfbgddeaaGreatDoor
