/-
  Contracts of ActsOf, the model's and the program's. Conditions: the automaton's lists have at most 2^20 elements.
-/
import Derived.Test.YtdbgjgeglgipiaaImplStep
import Derived.Test.YtdbgjgeglgipiaaIaLaw
namespace Go.Proofs.Ytdbgjgeglgipiaa
open Go.RowKit

theorem join_len (xs ys : List Int) : (joinOf xs ys).length ≤ xs.length + ys.length := by
  have h1 := putAll_len ys (putAll [] xs)
  have h2 := putAll_len xs []
  simp only [List.length_nil, Nat.zero_add] at h2
  unfold joinOf
  omega

theorem acts_len (a : IaD) (f2 : a.ins.length ≤ 1048576) (f3 : a.outs.length ≤ 1048576) (f4 : a.hids.length ≤ 1048576) : (if iaOkB a then actsOf a else []).length ≤ 4194304 := by
  have h1 := join_len a.ins a.outs
  have h2 := join_len (joinOf a.ins a.outs) a.hids
  split
  · unfold actsOf; omega
  · simp

end Go.Proofs.Ytdbgjgeglgipiaa
