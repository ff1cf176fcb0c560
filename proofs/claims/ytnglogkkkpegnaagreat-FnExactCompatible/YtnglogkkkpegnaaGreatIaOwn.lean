/-
  An automaton whose lists are the call's own; the contracts of the laws' markIa, heldStepS and heldIa over one. Conditions: lists of at most 2^21 elements.
-/
import Derived.Test.YtnglogkkkpegnaaGreatMarkIa2
import Derived.Test.YtnglogkkkpegnaaGreatIaLaw
namespace Go.Proofs.YtnglogkkkpegnaaGreat
open Go.RowKit

/-- An automaton whose lists are the call's own, no two in one block. -/
def IaOwn (w : World) (base : Nat) (a : IaD) (v : Value) : Prop :=
  ∃ x2 x3 x4 x5 : Value, v = .agg #[.int .i64 a.states, .int .i64 a.init, x2, x3, x4, x5] ∧ Owns w base x2 a.ins.length a.ins ∧ Owns w base x3 a.outs.length a.outs ∧ Owns w base x4 a.hids.length a.hids ∧ OwnsS 77 w base x5 a.steps.length a.steps ∧
    (∀ b, x2.ownBlock = some b → x3.ownBlock ≠ some b ∧ x4.ownBlock ≠ some b ∧ x5.ownBlock ≠ some b) ∧ (∀ b, x3.ownBlock = some b → x4.ownBlock ≠ some b ∧ x5.ownBlock ≠ some b) ∧ ∀ b, x4.ownBlock = some b → x5.ownBlock ≠ some b

theorem ia_one (s i : Int) (a2 : Option Addr) (n2 c2 : Nat) (a3 : Option Addr) (n3 c3 : Nat) (a4 : Option Addr) (n4 c4 : Nat) (a5 : Option Addr) (n5 c5 : Nat) : (#[.int .i64 s, .int .i64 i, .slice a2 n2 c2, .slice a3 n3 c3, .slice a4 n4 c4, .slice a5 n5 c5] : Array Value).all (·.oneCell') = true :=
  all_oneCell_toArray (fun u hu => by
    simp only [List.mem_cons, List.not_mem_nil, or_false] at hu
    rcases hu with rfl | rfl | rfl | rfl | rfl | rfl <;> rfl)

theorem IaOwn.below {w w' : World} {base : Nat} {a : IaD} {v : Value} (h : IaOwn w base a v) (hb : Below w.heap.size w w') : IaOwn w' base a v := by
  obtain ⟨x2, x3, x4, x5, e, o2, o3, o4, o5, p⟩ := h
  exact ⟨x2, x3, x4, x5, e, o2.below hb, o3.below hb, o4.below hb, o5.below hb, p⟩

theorem IaOwn.row {w : World} {base : Nat} {a : IaD} {v : Value} (h : IaOwn w base a v) : IaRow w a v := by
  obtain ⟨x2, x3, x4, x5, rfl, o2, o3, o4, o5, _⟩ := h
  obtain ⟨b2, d2, rfl⟩ := o2.form
  obtain ⟨b3, d3, rfl⟩ := o3.form
  obtain ⟨b4, d4, rfl⟩ := o4.form
  obtain ⟨b5, d5, rfl⟩ := o5.form
  exact ⟨_, _, _, _, _, _, _, _, _, _, _, _, rfl, o2.row.2.2.2, o3.row.2.2.2, o4.row.2.2.2, o5.row.2.2.2⟩

end Go.Proofs.YtnglogkkkpegnaaGreat
