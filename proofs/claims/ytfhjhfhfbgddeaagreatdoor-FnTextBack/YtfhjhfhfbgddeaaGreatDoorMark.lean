/-
  Contracts of the laws' markIntS and heldIntS. Conditions: a row of ints of the call's own of at most 2^40 elements; numbers of at most 2^41.
-/
import Derived.Test.YtfhjhfhfbgddeaaGreatDoorSpecSets
namespace Go.Proofs.YtfhjhfhfbgddeaaGreatDoor
open Go.RowKit

def marks (k : Int) (n : Nat) : List Int := (List.range n).map (fun i : Nat => k + (i : Int))

theorem marks_len (k : Int) (n : Nat) : (marks k n).length = n := by simp [marks]
theorem marks_succ (k : Int) (n : Nat) : marks k (n + 1) = marks k n ++ [k + (n : Int)] := by simp [marks, List.range_succ]
theorem marks_at (k : Int) (n j : Nat) (h : j < n) : (marks k n).getD j 0 = k + (j : Int) := by simp [marks, h]

theorem marked_step {k0 : Int} {xs : List Int} {j n : Nat} (hl : xs.length = n) (hj : j < n) :
    ((marks k0 j ++ xs.drop j).map (Value.int .i64)).set j (.int .i64 (k0 + (j : Int))) = (marks k0 (j + 1) ++ xs.drop (j + 1)).map (Value.int .i64) := by
  rw [List.drop_eq_getElem_cons (by omega : j < xs.length), List.map_append, List.set_append, if_neg (by simp [marks_len])]
  have e : j - ((marks k0 j).map (Value.int .i64)).length = 0 := by simp [marks_len]
  rw [e, marks_succ]
  simp only [List.map_append, List.map_cons, List.set_cons_zero, List.append_assoc, List.cons_append, List.nil_append]

/-- What markIntS leaves. -/
def MarkRes (w : World) (base : Nat) (v : Value) (k0 : Int) (n : Nat) (e : Ending) (w' : World) : Prop :=
  e = .returned (.int .i64 (k0 + (n : Int))) ∧ Owns w' base v n (marks k0 n) ∧ w.grownBy w' v.ownBlock

end Go.Proofs.YtfhjhfhfbgddeaaGreatDoor
