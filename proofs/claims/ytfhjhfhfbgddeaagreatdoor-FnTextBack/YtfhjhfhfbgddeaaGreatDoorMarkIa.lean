/-
  Contracts of the laws' markStepS and markIa. Conditions: rows of the call's own of at most 2^38 elements; numbers of at most 2^41.
-/
import Derived.Test.YtfhjhfhfbgddeaaGreatDoorToStep
import Derived.Test.YtfhjhfhfbgddeaaGreatDoorMark
namespace Go.Proofs.YtfhjhfhfbgddeaaGreatDoor
open Go.RowKit

def marksS (k : Int) (n : Nat) : List St := (List.range n).map (fun i : Nat => (k + 3 * (i : Int), k + 3 * (i : Int) + 1, k + 3 * (i : Int) + 1 + 1))

theorem marksS_len (k : Int) (n : Nat) : (marksS k n).length = n := by simp [marksS]
theorem marksS_succ (k : Int) (n : Nat) : marksS k (n + 1) = marksS k n ++ [(k + 3 * (n : Int), k + 3 * (n : Int) + 1, k + 3 * (n : Int) + 1 + 1)] := by simp [marksS, List.range_succ]

theorem markedS_step {k0 : Int} {ss : List St} {j n : Nat} (hl : ss.length = n) (hj : j < n) :
    (marksS k0 j ++ ss.drop j).set j (k0 + 3 * (j : Int), k0 + 3 * (j : Int) + 1, k0 + 3 * (j : Int) + 1 + 1) = marksS k0 (j + 1) ++ ss.drop (j + 1) := by
  rw [List.drop_eq_getElem_cons (by omega : j < ss.length), List.set_append, if_neg (by simp [marksS_len])]
  have e : j - (marksS k0 j).length = 0 := by simp [marksS_len]
  rw [e, marksS_succ]
  simp only [List.set_cons_zero, List.append_assoc, List.cons_append, List.nil_append]

/-- What markStepS leaves. -/
def MarkResS (w : World) (base : Nat) (v : Value) (k0 : Int) (n : Nat) (e : Ending) (w' : World) : Prop :=
  e = .returned (.int .i64 (k0 + 3 * (n : Int))) ∧ OwnsS 47 w' base v n (marksS k0 n) ∧ w.grownBy w' v.ownBlock

theorem VarIs.other2 {w w' : World} {b g : Nat} {C : Array Value} {t : TypeId} (h : VarIs w b C t) (hw : w.grownBy w' (some g)) (hg : b ≠ g) : VarIs w' b C t :=
  (hw.block b h.lt (fun e => hg (Option.some.inj e))).trans h

/-- What markIa leaves of a copy: all its lists hold numbers that go on from one another. -/
def MarkResIa (w : World) (base : Nat) (e : Ending) (w' : World) : Prop :=
  ∃ r : Int, 0 ≤ r ∧ e = .returned (.int .i64 r) ∧ Below base w w'

end Go.Proofs.YtfhjhfhfbgddeaaGreatDoor
