/-
  The model's condition on steps, one step at a time: what the first k + 1 steps ask is what the first k ask, that the next is good, and that it stands behind the one ahead of it. Conditions: none; nothing here speaks of the program.
-/
import Derived.Test.YtfhjhfhfbgddeaaGreatDoorIaDef
namespace Go.Proofs.YtfhjhfhfbgddeaaGreatDoor
open Go.RowKit

theorem stepsB_snoc (a : IaD) (x : St) : ∀ (r : List St) (y : St), stepsB a (r ++ [y] ++ [x]) = (stepsB a (r ++ [y]) && nextB a y x && goodStepB a x)
  | [], y => by simp [stepsB]
  | [z], y => by simp [stepsB, Bool.and_assoc]
  | z :: z' :: r, y => by
    have ih := stepsB_snoc a x (z' :: r) y
    simp only [List.cons_append, stepsB] at ih ⊢
    rw [ih]
    simp only [Bool.and_assoc]

theorem stepsB_cut (a : IaD) : ∀ (ss : List St) (m : Nat), stepsB a ss = true → stepsB a (ss.take m) = true
  | [], m, h => by simp [stepsB]
  | [x], 0, h => by simp [stepsB]
  | [x], m + 1, h => by simpa using h
  | y :: x :: r, 0, h => by simp [stepsB]
  | y :: x :: r, 1, h => by
    simp only [stepsB, Bool.and_eq_true] at h
    simpa [stepsB] using h.1.1
  | y :: x :: r, m + 2, h => by
    simp only [stepsB, Bool.and_eq_true] at h
    have ih := stepsB_cut a (x :: r) (m + 1) h.2
    simp only [List.take_succ_cons, stepsB, Bool.and_eq_true] at ih ⊢
    exact ⟨h.1, ih⟩

theorem stepsB_first (a : IaD) (ss : List St) (h : 0 < ss.length) : stepsB a (ss.take 1) = goodStepB a ss[0] := by
  match ss, h with
  | x :: r, _ => simp [stepsB]

theorem stepsB_next (a : IaD) (ss : List St) (k : Nat) (hk : k + 1 < ss.length) : stepsB a (ss.take (k + 1 + 1)) = (stepsB a (ss.take (k + 1)) && nextB a ss[k] ss[k + 1] && goodStepB a ss[k + 1]) := by
  rw [List.take_succ_eq_append_getElem hk, List.take_succ_eq_append_getElem (by omega : k < ss.length)]
  exact stepsB_snoc a ss[k + 1] (ss.take k) ss[k]

/-- Where the first so many fail, all fail. -/
theorem stepsB_fail {a : IaD} {ss : List St} {m : Nat} (h : stepsB a (ss.take m) = false) : stepsB a ss = false := by
  apply Bool.eq_false_iff.2
  intro e
  rw [stepsB_cut a ss m e] at h
  cases h

/-- Each of the first so many is good. -/
theorem stepsB_good (a : IaD) : ∀ (ss : List St), stepsB a ss = true → ∀ x ∈ ss, goodStepB a x = true
  | [], _, x, hx => by simp at hx
  | [y], h, x, hx => by
    simp only [List.mem_singleton] at hx
    subst hx
    simpa [stepsB] using h
  | y :: z :: r, h, x, hx => by
    simp only [stepsB, Bool.and_eq_true] at h
    rcases List.mem_cons.1 hx with rfl | hx
    · exact h.1.1
    · exact stepsB_good a (z :: r) h.2 x hx

/-- The numbers of a set that is right are small. -/
theorem setOk_small {xs : List Int} (h : setOkB xs = true) {x : Int} (hx : x ∈ xs) : 0 ≤ x ∧ x ≤ 11 := by
  obtain ⟨k, hk, rfl⟩ := List.mem_iff_getElem.1 hx
  simp only [setOkB, List.all_eq_true, List.mem_range] at h
  have := h k hk
  simp only [goodB, Bool.and_eq_true] at this
  have h1 := this.1
  simp [btw, hk] at h1
  exact h1

end Go.Proofs.YtfhjhfhfbgddeaaGreatDoor
