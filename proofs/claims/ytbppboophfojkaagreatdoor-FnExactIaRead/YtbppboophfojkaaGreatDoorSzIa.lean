/-
  The contract of the laws' szIa: how much room is left behind an automaton's lists. Conditions: at most 2^40 at the beginning; the slices are no longer than slices may be.
-/
import Derived.Test.YtbppboophfojkaaGreatDoorToIa
namespace Go.Proofs.YtbppboophfojkaaGreatDoor
open Go.RowKit

def roomOf (left : Int) (n : Nat) : Int := if (n : Int) ≤ left then left - n else -1

theorem roomOf_neg {left : Int} {n : Nat} (h : ¬ (n : Int) ≤ left) : roomOf left n = -1 := if_neg h
theorem roomOf_pos {left : Int} {n : Nat} (h : (n : Int) ≤ left) : roomOf left n = left - n := if_pos h

end Go.Proofs.YtbppboophfojkaaGreatDoor
