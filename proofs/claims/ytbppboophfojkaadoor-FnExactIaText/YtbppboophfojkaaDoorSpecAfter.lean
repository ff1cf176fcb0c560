/-
  Contracts of the model's l02After and l02Of. Conditions: at most 2^21 steps, and numbers in the set.
-/
import Derived.Test.YtbppboophfojkaaDoorSpecStep
namespace Go.Proofs.YtbppboophfojkaaDoor
open Go.RowKit

def afterL (ss : List St) (s act : Int) : List Int := putAll [] ((ss.filter fun x => decide (x.1 = s) && decide (x.2.1 = act)).map fun x => x.2.2)
def ofL (ss : List St) (s : Int) (set : List Int) : List Int := putAll [] ((ss.filter fun x => decide (x.1 = s) && hasB set x.2.1).map fun x => x.2.1)

theorem filterS_step (ss : List St) (p : St → Bool) (f : St → Int) (k : Nat) (hk : k < ss.length) :
    putAll [] (((ss.take (k + 1)).filter p).map f) = if p ss[k] then put (putAll [] (((ss.take k).filter p).map f)) (f ss[k]) else putAll [] (((ss.take k).filter p).map f) := by
  rw [List.take_succ_eq_append_getElem hk, List.filter_append, List.map_append]
  by_cases h : p ss[k] = true
  · simp [h, putAll]
  · simp [h]

end Go.Proofs.YtbppboophfojkaaDoor
