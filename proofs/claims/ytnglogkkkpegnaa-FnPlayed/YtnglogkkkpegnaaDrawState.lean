/-
  The contracts of the model's draws of a state and of DrawClosure: some automaton, its lists in new memory, and some number. Conditions: the code is a slice of at most 2^20 bytes.
-/
import Derived.Test.YtnglogkkkpegnaaAnyIa
namespace Go.Proofs.Ytnglogkkkpegnaa
open Go.RowKit

/-- What state leaves. -/
def StateRes (w : World) (P t : Nat) (e : Ending) (w' : World) : Prop :=
  ∃ r : Int, e = .returned (.int .i64 r) ∧ Cur w' P t ∧ w.grownBy w' (some P)

end Go.Proofs.Ytnglogkkkpegnaa
