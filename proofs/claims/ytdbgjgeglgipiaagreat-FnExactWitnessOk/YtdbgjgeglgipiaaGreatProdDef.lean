/-
  The product of two automata as a function of lists. No conditions.
-/
import Derived.Test.YtdbgjgeglgipiaaGreatProdSorted
import Derived.Test.YtdbgjgeglgipiaaGreatClashMath
namespace Go.Proofs.YtdbgjgeglgipiaaGreat
open Go.RowKit

def prodB (a b : IaD) : Bool := fitB a b && decide ((prodL a b).length ≤ 400)

/-- The product, where there is one. -/
def productOf (a b : IaD) : IaD := ⟨a.states * b.states, stOf b.states (a.init, b.init), lessOf (joinOf a.ins b.ins) (shOf a b), lessOf (joinOf a.outs b.outs) (shOf a b), joinOf (joinOf a.hids b.hids) (shOf a b), prodSteps a b⟩

def prodIa (a b : IaD) : IaD := if prodB a b then productOf a b else noIa

end Go.Proofs.YtdbgjgeglgipiaaGreat
