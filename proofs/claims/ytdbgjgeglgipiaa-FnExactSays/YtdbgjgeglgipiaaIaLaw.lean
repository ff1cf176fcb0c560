/-
  What the exact laws over an automaton share: the argument read as lists, and the part that holds the argument against a new copy of what came in. Conditions: as each statement says.
-/
import Derived.Test.YtdbgjgeglgipiaaMarkIa
import Derived.Deep.RegionHeld3
namespace Go.Proofs.Ytdbgjgeglgipiaa
open Go.RowKit

theorem IsRow.len1 {w : World} {a : Option Addr} {len cap : Nat} {zs : List Int} (h : IsRow .i64 w a len cap zs) : len ≤ maxLen := by
  rcases h with ⟨_, rfl, _⟩ | ⟨_, _, h1, h2, _⟩ <;> omega

theorem IsRowS.len1 {w : World} {a : Option Addr} {len cap : Nat} {zs : List St} (h : IsRowS w a len cap zs) : len ≤ maxLen := by
  rcases h with ⟨_, rfl, _⟩ | ⟨_, _, h1, h2, _⟩ <;> omega

/-- What stands in the way of nothing while the law goes on: the argument's own box, the copy's box. -/
def Boxes (w : World) (w' : World) (b1 b2 : Nat) (A B : Array Value) : Prop :=
  Below w.heap.size w w' ∧ VarIs w' b1 A 25 ∧ VarIs w' b2 B 30

theorem Boxes.below {w w1 w2 : World} {b1 b2 : Nat} {A B : Array Value} (h : Boxes w w1 b1 b2 A B) (hb : Below w1.heap.size w1 w2) : Boxes w w2 b1 b2 A B :=
  ⟨h.1.trans (hb.mono h.1.size), h.2.1.below hb, h.2.2.below hb⟩

theorem IaFits.small {a : IaD} (h2 : a.ins.length ≤ 1048576) (h3 : a.outs.length ≤ 1048576) (h4 : a.hids.length ≤ 1048576) (h5 : a.steps.length ≤ 1048576) : IaFits a := ⟨by omega, by omega, by omega, by omega⟩

theorem IaAt.below {w w' : World} {base : Nat} {a : IaD} {v : Value} (h : IaAt w base a v) (hb : Below w.heap.size w w') : IaAt w' base a v := by
  obtain ⟨g2, g3, g4, g5, e, l2, l3, l4, l5, o2, o3, o4, o5⟩ := h
  exact ⟨g2, g3, g4, g5, e, l2, l3, l4, l5, o2.below hb, o3.below hb, o4.below hb, o5.below hb⟩

theorem IaAt.mono {w : World} {base base' : Nat} {a : IaD} {v : Value} (h : IaAt w base' a v) (hb : base ≤ base') : IaAt w base a v := by
  obtain ⟨g2, g3, g4, g5, e, l2, l3, l4, l5, o2, o3, o4, o5⟩ := h
  exact ⟨g2, g3, g4, g5, e, by omega, l3, l4, l5, o2.mono hb, o3.mono hb, o4.mono hb, o5.mono hb⟩

theorem IaAt.drew {w : World} {base : Nat} {a : IaD} {v : Value} (h : IaAt w base a v) : IaAt w.drew base a v := h

theorem VarIs.drew {w : World} {b : Nat} {C : Array Value} {t : TypeId} (h : VarIs w b C t) : VarIs w.drew b C t := h

end Go.Proofs.Ytdbgjgeglgipiaa
