/-
  The text of an automaton whose lists have at most 1000 members is short. Conditions: as each statement says.
-/
import Derived.Test.YtfhjhfhfbgddeaaGreatDoorDrawIaText
import Derived.Test.YtfhjhfhfbgddeaaGreatDoorSpecText
namespace Go.Proofs.YtfhjhfhfbgddeaaGreatDoor
open Go.RowKit

theorem iaText_len (a : IaD) (h : LensT a) : (iaTextOf a).length ≤ 1000000 := by
  unfold iaTextOf
  split
  · rename_i hok
    have hn : IaNums a := iaOk_nums hok
    obtain ⟨f2, f3, f4, f5⟩ := h
    have h1 := lineOf_len wStates [a.states, a.init] (nums_two hn.states hn.init)
    have h2 := lineOf_len wIns a.ins (nums_small hn.ins)
    have h3 := lineOf_len wOuts a.outs (nums_small hn.outs)
    have h4 := lineOf_len wHids a.hids (nums_small hn.hids)
    have h5 := steps_len a.steps hn.steps
    simp only [wStates, wIns, wOuts, wHids, List.length_cons, List.length_nil] at h1 h2 h3 h4
    unfold iaLines headOf
    simp only [wStates, wIns, wOuts, wHids, List.length_append]
    omega
  · simp

end Go.Proofs.YtfhjhfhfbgddeaaGreatDoor
