/-
  An automaton whose lists are the call's own; the contracts of the laws' markIa, heldStepS and heldIa over one. Conditions: lists of at most 2^21 elements.
-/
import Derived.Test.YtdbgjgeglgipiaaMarkIa2
import Derived.Test.YtdbgjgeglgipiaaIaLaw
namespace Go.Proofs.Ytdbgjgeglgipiaa
open Go.RowKit

/-- An automaton whose lists are the call's own, no two in one block. -/
def IaOwn (w : World) (base : Nat) (a : IaD) (v : Value) : Prop :=
  ∃ x2 x3 x4 x5 : Value, v = .agg #[.int .i64 a.states, .int .i64 a.init, x2, x3, x4, x5] ∧ Owns w base x2 a.ins.length a.ins ∧ Owns w base x3 a.outs.length a.outs ∧ Owns w base x4 a.hids.length a.hids ∧ OwnsS 61 w base x5 a.steps.length a.steps ∧
    (∀ b, x2.ownBlock = some b → x3.ownBlock ≠ some b ∧ x4.ownBlock ≠ some b ∧ x5.ownBlock ≠ some b) ∧ (∀ b, x3.ownBlock = some b → x4.ownBlock ≠ some b ∧ x5.ownBlock ≠ some b) ∧ ∀ b, x4.ownBlock = some b → x5.ownBlock ≠ some b

theorem ia_one (s i : Int) (a2 : Option Addr) (n2 c2 : Nat) (a3 : Option Addr) (n3 c3 : Nat) (a4 : Option Addr) (n4 c4 : Nat) (a5 : Option Addr) (n5 c5 : Nat) : (#[.int .i64 s, .int .i64 i, .slice a2 n2 c2, .slice a3 n3 c3, .slice a4 n4 c4, .slice a5 n5 c5] : Array Value).all (·.oneCell') = true :=
  all_oneCell_toArray (fun u hu => by
    simp only [List.mem_cons, List.not_mem_nil, or_false] at hu
    rcases hu with rfl | rfl | rfl | rfl | rfl | rfl <;> rfl)

/-- The automaton whose lists hold numbers that go on from one another. -/
def markedIa (a : IaD) : IaD :=
  ⟨a.states, a.init, marks 1 a.ins.length, marks (1 + (a.ins.length : Int)) a.outs.length, marks (1 + (a.ins.length : Int) + (a.outs.length : Int)) a.hids.length, marksS (1 + (a.ins.length : Int) + (a.outs.length : Int) + (a.hids.length : Int)) a.steps.length⟩

/-- What marking comes to. -/
def markSum (a : IaD) : Int := 1 + (a.ins.length : Int) + (a.outs.length : Int) + (a.hids.length : Int) + 3 * (a.steps.length : Int)

theorem IaOwn.below {w w' : World} {base : Nat} {a : IaD} {v : Value} (h : IaOwn w base a v) (hb : Below w.heap.size w w') : IaOwn w' base a v := by
  obtain ⟨x2, x3, x4, x5, e, o2, o3, o4, o5, p⟩ := h
  exact ⟨x2, x3, x4, x5, e, o2.below hb, o3.below hb, o4.below hb, o5.below hb, p⟩

theorem IaOwn.row {w : World} {base : Nat} {a : IaD} {v : Value} (h : IaOwn w base a v) : IaRow w a v := by
  obtain ⟨x2, x3, x4, x5, rfl, o2, o3, o4, o5, _⟩ := h
  obtain ⟨b2, d2, rfl⟩ := o2.form
  obtain ⟨b3, d3, rfl⟩ := o3.form
  obtain ⟨b4, d4, rfl⟩ := o4.form
  obtain ⟨b5, d5, rfl⟩ := o5.form
  exact ⟨_, _, _, _, _, _, _, _, _, _, _, _, rfl, o2.row.2.2.2, o3.row.2.2.2, o4.row.2.2.2, o5.row.2.2.2⟩

theorem OwnsS.grownAny {e : TypeId} {w w' : World} {base n : Nat} {v : Value} {ss : List St} {r : Option Nat} (h : OwnsS e w base v n ss) (hg : w.grownBy w' r) (hr : ∀ b, r = some b → v.ownBlock ≠ some b) : OwnsS e w' base v n ss :=
  h.keep hg (fun k hk he => hr k he.symm hk)

theorem Owns.grownAny {w w' : World} {base n : Nat} {v : Value} {xs : List Int} {r : Option Nat} (h : Owns w base v n xs) (hg : w.grownBy w' r) (hr : ∀ b, r = some b → v.ownBlock ≠ some b) : Owns w' base v n xs :=
  h.keep hg (fun k hk he => hr k he.symm hk)

theorem marksS_at (k : Int) (n j : Nat) (h : j < n) : (marksS k n)[j]? = some (k + 3 * (j : Int), k + 3 * (j : Int) + 1, k + 3 * (j : Int) + 1 + 1) := by simp [marksS, h]

end Go.Proofs.Ytdbgjgeglgipiaa
