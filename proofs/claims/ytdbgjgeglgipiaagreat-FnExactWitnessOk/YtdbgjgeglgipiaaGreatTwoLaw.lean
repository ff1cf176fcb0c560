/-
  What the exact laws over two automata share: both arguments' boxes, both copies' boxes, and what marking one copy leaves. Conditions: as each statement says.
-/
import Derived.Test.YtdbgjgeglgipiaaGreatTwo
import Derived.Test.YtdbgjgeglgipiaaGreatIaLaw
namespace Go.Proofs.YtdbgjgeglgipiaaGreat
open Go.RowKit

/-- The arguments' boxes and the copies' boxes with the copies. -/
def LawS (w W : World) (A B : Array Value) (p q bp bq : Nat) (a b : IaD) (C D : Array Value) : Prop :=
  Box2 w W w.heap.size (w.heap.size + 1) 25 A B ∧ (VarIs W p C 31 ∧ IaAt W bp a (.agg C)) ∧ (VarIs W q D 31 ∧ IaAt W bq b (.agg D))

theorem LawS.below {w W W' : World} {A B : Array Value} {p q bp bq : Nat} {a b : IaD} {C D : Array Value} (h : LawS w W A B p q bp bq a b C D) (hb : Below W.heap.size W W') : LawS w W' A B p q bp bq a b C D :=
  ⟨h.1.below hb, ⟨h.2.1.1.below hb, h.2.1.2.below hb⟩, ⟨h.2.2.1.below hb, h.2.2.2.below hb⟩⟩

theorem LawS.drew {w W : World} {A B : Array Value} {p q bp bq : Nat} {a b : IaD} {C D : Array Value} (h : LawS w W A B p q bp bq a b C D) : LawS w W.drew A B p q bp bq a b C D :=
  ⟨h.1.drew, ⟨h.2.1.1, h.2.1.2.drew⟩, ⟨h.2.2.1, h.2.2.2.drew⟩⟩

end Go.Proofs.YtdbgjgeglgipiaaGreat
