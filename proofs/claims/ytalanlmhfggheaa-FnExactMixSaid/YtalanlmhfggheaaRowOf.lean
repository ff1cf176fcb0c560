/-
  The contract of the program's rowOf: the steps from a state, in their order. Conditions: the automaton's lists have at most 2^20 elements.
-/
import Derived.Test.YtalanlmhfggheaaImplIaOk
import Derived.Test.YtalanlmhfggheaaRowsOf
import Derived.Test.YtalanlmhfggheaaIaRise
namespace Go.Proofs.Ytalanlmhfggheaa
open Go.RowKit

/-- One row out of the array, by value. -/
theorem index_rows (C : Array Value) (j : Nat) (hj : j < 40) (v : Value) (h : C[j]? = some v) (w : World) : (Instr.index 69 (.agg C) (.int .i64 (j : Int))).run Try.prog w = .ok v w := by
  simp [Instr.index, run_underlying Try.underlying69, asIntOf, go_sem, part, h]
  intro h40
  omega

/-- What rowOf answers. -/
def rowIf (a : IaD) (s : Int) : List St := if iaOkB a then rowL a.steps s else []

end Go.Proofs.Ytalanlmhfggheaa
