/-
  Contracts of Taken, Said, Done and After: the model's, and the program's first three. Conditions: the automaton's lists have at most 2^20 elements.
-/
import Derived.Test.YtalanlmhfggheaaAfter
import Derived.Test.YtalanlmhfggheaaSpecIaOk
import Derived.Deep.RegionHeld3
namespace Go.Proofs.Ytalanlmhfggheaa
open Go.RowKit

theorem ofL_len (ss : List St) (s : Int) (set : List Int) : (ofL ss s set).length ≤ ss.length := by
  unfold ofL
  refine Nat.le_trans (putAll_len _ _) ?_
  rw [List.length_nil, Nat.zero_add, List.length_map]
  exact List.length_filter_le _ _

theorem afterL_len (ss : List St) (s act : Int) : (afterL ss s act).length ≤ ss.length := by
  unfold afterL
  refine Nat.le_trans (putAll_len _ _) ?_
  rw [List.length_nil, Nat.zero_add, List.length_map]
  exact List.length_filter_le _ _

theorem of_len (a : IaD) (s : Int) (set : List Int) (f5 : a.steps.length ≤ 1048576) : (if iaOkB a then ofL a.steps s set else []).length ≤ 4194304 := by
  have := ofL_len a.steps s set
  split
  · omega
  · simp

theorem after_len (a : IaD) (s act : Int) (f5 : a.steps.length ≤ 1048576) : (if iaOkB a then afterL a.steps s act else []).length ≤ 4194304 := by
  have := afterL_len a.steps s act
  split
  · omega
  · simp

end Go.Proofs.Ytalanlmhfggheaa
