/-
  Contracts of the laws' helpers that copy steps and automata (toStep, toStepS, toIa). Conditions: the slices read as lists of at most 2^40 elements.
-/
import Derived.Test.YtbppboophfojkaaGreatDoorOpenIa
import Derived.Test.YtbppboophfojkaaGreatDoorIaDef
import Derived.Test.YtbppboophfojkaaGreatDoorInts
namespace Go.Proofs.YtbppboophfojkaaGreatDoor
open Go.RowKit

theorem step_one (x y z : Int) : (#[.int .i64 x, .int .i64 y, .int .i64 z] : Array Value).all (·.oneCell') = true := all_oneCell_toArray (flat_one [(x, y, z)])

theorem filled_step {α : Type} (xs : List α) (z : α) (n k : Nat) (hl : xs.length = n) (hk : k < xs.length) :
    (xs.take k ++ List.replicate (n - k) z).set k xs[k] = xs.take (k + 1) ++ List.replicate (n - (k + 1)) z := by
  have e1 : n - k = (n - (k + 1)) + 1 := by omega
  rw [e1, List.replicate_succ, List.set_append, if_neg (by simp; omega), List.take_succ_eq_append_getElem hk]
  have e2 : k - (xs.take k).length = 0 := by simp; omega
  rw [e2]
  simp only [List.set_cons_zero, List.append_assoc, List.cons_append, List.nil_append]

theorem made_flat (n : Nat) : (madeCells #[.int .i64 0, .int .i64 0, .int .i64 0] (n * 3)).toList = flat (List.replicate n ((0, 0, 0) : St)) := by
  apply List.ext_getElem?
  intro j
  by_cases hj : j < n * 3
  · have hq : j / 3 < n := by omega
    obtain ⟨f0, f1, f2⟩ := flat_at (List.replicate n ((0, 0, 0) : St)) (j / 3) (0, 0, 0) (by simp [hq])
    have hr : j = j / 3 * 3 ∨ j = j / 3 * 3 + 1 ∨ j = j / 3 * 3 + 2 := by omega
    have hL : (madeCells #[.int .i64 0, .int .i64 0, .int .i64 0] (n * 3)).toList[j]? = some (.int .i64 0) := by
      have hm : j % 3 = 0 ∨ j % 3 = 1 ∨ j % 3 = 2 := by omega
      rcases hm with hm | hm | hm <;> simp [madeCells, hj, hm]
    rw [hL]
    rcases hr with hr | hr | hr
    · rw [hr]; exact f0.symm
    · rw [hr]; exact f1.symm
    · rw [hr]; exact f2.symm
  · rw [List.getElem?_eq_none (by simp [madeCells]; omega), List.getElem?_eq_none (by rw [flat_length]; simp; omega)]

end Go.Proofs.YtbppboophfojkaaGreatDoor
