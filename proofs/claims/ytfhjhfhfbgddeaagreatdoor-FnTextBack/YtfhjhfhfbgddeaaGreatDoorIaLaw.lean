import Derived.Test.YtfhjhfhfbgddeaaGreatDoorMarkIa
import Derived.Deep.RegionHeld3
/-
  What the exact laws over an automaton share: the argument read as lists, and the part that holds the argument against a new copy of what came in. Conditions: as each statement says.
-/
namespace Go.Proofs.YtfhjhfhfbgddeaaGreatDoor
open Go.RowKit

theorem IsRow.len1 {w : World} {a : Option Addr} {len cap : Nat} {zs : List Int} (h : IsRow .i64 w a len cap zs) : len ≤ maxLen := by
  rcases h with ⟨_, rfl, _⟩ | ⟨_, _, h1, h2, _⟩ <;> omega

theorem IsRowS.len1 {w : World} {a : Option Addr} {len cap : Nat} {zs : List St} (h : IsRowS w a len cap zs) : len ≤ maxLen := by
  rcases h with ⟨_, rfl, _⟩ | ⟨_, _, h1, h2, _⟩ <;> omega

theorem IaFits.small {a : IaD} (h2 : a.ins.length ≤ 1048576) (h3 : a.outs.length ≤ 1048576) (h4 : a.hids.length ≤ 1048576) (h5 : a.steps.length ≤ 1048576) : IaFits a := ⟨by omega, by omega, by omega, by omega⟩

theorem IaAt.below {w w' : World} {base : Nat} {a : IaD} {v : Value} (h : IaAt w base a v) (hb : Below w.heap.size w w') : IaAt w' base a v := by
  obtain ⟨g2, g3, g4, g5, e, l2, l3, l4, l5, o2, o3, o4, o5⟩ := h
  exact ⟨g2, g3, g4, g5, e, l2, l3, l4, l5, o2.below hb, o3.below hb, o4.below hb, o5.below hb⟩

theorem IaAt.mono {w : World} {base base' : Nat} {a : IaD} {v : Value} (h : IaAt w base' a v) (hb : base ≤ base') : IaAt w base a v := by
  obtain ⟨g2, g3, g4, g5, e, l2, l3, l4, l5, o2, o3, o4, o5⟩ := h
  exact ⟨g2, g3, g4, g5, e, by omega, l3, l4, l5, o2.mono hb, o3.mono hb, o4.mono hb, o5.mono hb⟩

theorem IaAt.drew {w : World} {base : Nat} {a : IaD} {v : Value} (h : IaAt w base a v) : IaAt w.drew base a v := h

theorem VarIs.drew {w : World} {b : Nat} {C : Array Value} {t : TypeId} (h : VarIs w b C t) : VarIs w.drew b C t := h

end Go.Proofs.YtfhjhfhfbgddeaaGreatDoor

/-
  The contract of the laws' markIa, told block by block: it writes into the four lists of the copy alone. Conditions: rows of the call's own of at most 2^38 elements.
-/
namespace Go.Proofs.YtfhjhfhfbgddeaaGreatDoor
open Go.RowKit

/-- All blocks but some four are as they were. -/
def But4 (w w' : World) (g2 g3 g4 g5 : Nat) : Prop := ∀ k, k < w.heap.size → k ≠ g2 → k ≠ g3 → k ≠ g4 → k ≠ g5 → w'.heap[k]? = w.heap[k]?

theorem Owns.but4 {w w' : World} {base n g2 g3 g4 g5 : Nat} {v : Value} {xs : List Int} (h : Owns w base v n xs) (hw : But4 w w' g2 g3 g4 g5) (hg : ∀ k, v.ownBlock = some k → k ≠ g2 ∧ k ≠ g3 ∧ k ≠ g4 ∧ k ≠ g5) : Owns w' base v n xs := by
  have hlt := h.lt
  obtain ⟨h1, h2⟩ := h
  refine ⟨h1, ?_⟩
  rcases h2 with h2 | ⟨g, cap, cur, hv, hb, hh, r⟩
  · exact Or.inl h2
  · subst hv
    obtain ⟨q2, q3, q4, q5⟩ := hg g rfl
    exact Or.inr ⟨g, cap, cur, rfl, hb, by rw [hw g (hlt g rfl).2 q2 q3 q4 q5]; exact hh, r⟩

theorem VarIs.but4 {w w' : World} {b g2 g3 g4 g5 : Nat} {C : Array Value} {t : TypeId} (h : VarIs w b C t) (hw : But4 w w' g2 g3 g4 g5) (q2 : b ≠ g2) (q3 : b ≠ g3) (q4 : b ≠ g4) (q5 : b ≠ g5) : VarIs w' b C t := (hw b h.lt q2 q3 q4 q5).trans h

theorem VarIs.grown {w w' : World} {b : Nat} {C : Array Value} {t : TypeId} {r : Option Nat} (h : VarIs w b C t) (hw : w.grownBy w' r) (hr : some b ≠ r) : VarIs w' b C t := (hw.block b h.lt hr).trans h

/-- A copy whose blocks are named. -/
theorem IaAt.parts {w : World} {base g2 g3 g4 g5 : Nat} {st it : Int} {ins outs hids : List Int} {steps : List St} (h : IaAt w base ⟨st, it, ins, outs, hids, steps⟩ (.agg #[.int .i64 st, .int .i64 it, .slice (some ⟨g2, 0, none⟩) ins.length ins.length, .slice (some ⟨g3, 0, none⟩) outs.length outs.length, .slice (some ⟨g4, 0, none⟩) hids.length hids.length, .slice (some ⟨g5, 0, none⟩) steps.length steps.length])) :
    base ≤ g2 ∧ g2 < g3 ∧ g3 < g4 ∧ g4 < g5 ∧ Owns w base (.slice (some ⟨g2, 0, none⟩) ins.length ins.length) ins.length ins ∧ Owns w base (.slice (some ⟨g3, 0, none⟩) outs.length outs.length) outs.length outs ∧ Owns w base (.slice (some ⟨g4, 0, none⟩) hids.length hids.length) hids.length hids ∧
    OwnsS 47 w base (.slice (some ⟨g5, 0, none⟩) steps.length steps.length) steps.length steps := by
  obtain ⟨k2, k3, k4, k5, e, l2, l3, l4, l5, o2, o3, o4, o5⟩ := h
  simp at e
  obtain ⟨rfl, rfl, rfl, rfl⟩ := e
  exact ⟨l2, l3, l4, l5, o2, o3, o4, o5⟩

end Go.Proofs.YtfhjhfhfbgddeaaGreatDoor

/-
  An automaton whose lists are the call's own; the contracts of the laws' markIa, heldStepS and heldIa over one. Conditions: lists of at most 2^21 elements.
-/
namespace Go.Proofs.YtfhjhfhfbgddeaaGreatDoor
open Go.RowKit

/-- An automaton whose lists are the call's own, no two in one block. -/
def IaOwn (w : World) (base : Nat) (a : IaD) (v : Value) : Prop :=
  ∃ x2 x3 x4 x5 : Value, v = .agg #[.int .i64 a.states, .int .i64 a.init, x2, x3, x4, x5] ∧ Owns w base x2 a.ins.length a.ins ∧ Owns w base x3 a.outs.length a.outs ∧ Owns w base x4 a.hids.length a.hids ∧ OwnsS 47 w base x5 a.steps.length a.steps ∧
    (∀ b, x2.ownBlock = some b → x3.ownBlock ≠ some b ∧ x4.ownBlock ≠ some b ∧ x5.ownBlock ≠ some b) ∧ (∀ b, x3.ownBlock = some b → x4.ownBlock ≠ some b ∧ x5.ownBlock ≠ some b) ∧ ∀ b, x4.ownBlock = some b → x5.ownBlock ≠ some b

theorem ia_one (s i : Int) (a2 : Option Addr) (n2 c2 : Nat) (a3 : Option Addr) (n3 c3 : Nat) (a4 : Option Addr) (n4 c4 : Nat) (a5 : Option Addr) (n5 c5 : Nat) : (#[.int .i64 s, .int .i64 i, .slice a2 n2 c2, .slice a3 n3 c3, .slice a4 n4 c4, .slice a5 n5 c5] : Array Value).all (·.oneCell') = true :=
  all_oneCell_toArray (fun u hu => by
    simp only [List.mem_cons, List.not_mem_nil, or_false] at hu
    rcases hu with rfl | rfl | rfl | rfl | rfl | rfl <;> rfl)

/-- The automaton whose lists hold numbers that go on from one another. -/
def markedIa (a : IaD) : IaD :=
  ⟨a.states, a.init, marks 1 a.ins.length, marks (1 + (a.ins.length : Int)) a.outs.length, marks (1 + (a.ins.length : Int) + (a.outs.length : Int)) a.hids.length, marksS (1 + (a.ins.length : Int) + (a.outs.length : Int) + (a.hids.length : Int)) a.steps.length⟩

/-- What marking comes to. -/
def markSum (a : IaD) : Int := 1 + (a.ins.length : Int) + (a.outs.length : Int) + (a.hids.length : Int) + 3 * (a.steps.length : Int)

theorem IaOwn.below {w w' : World} {base : Nat} {a : IaD} {v : Value} (h : IaOwn w base a v) (hb : Below w.heap.size w w') : IaOwn w' base a v := by
  obtain ⟨x2, x3, x4, x5, e, o2, o3, o4, o5, p⟩ := h
  exact ⟨x2, x3, x4, x5, e, o2.below hb, o3.below hb, o4.below hb, o5.below hb, p⟩

theorem IaOwn.row {w : World} {base : Nat} {a : IaD} {v : Value} (h : IaOwn w base a v) : IaRow w a v := by
  obtain ⟨x2, x3, x4, x5, rfl, o2, o3, o4, o5, _⟩ := h
  obtain ⟨b2, d2, rfl⟩ := o2.form
  obtain ⟨b3, d3, rfl⟩ := o3.form
  obtain ⟨b4, d4, rfl⟩ := o4.form
  obtain ⟨b5, d5, rfl⟩ := o5.form
  exact ⟨_, _, _, _, _, _, _, _, _, _, _, _, rfl, o2.row.2.2.2, o3.row.2.2.2, o4.row.2.2.2, o5.row.2.2.2⟩

theorem OwnsS.grownAny {e : TypeId} {w w' : World} {base n : Nat} {v : Value} {ss : List St} {r : Option Nat} (h : OwnsS e w base v n ss) (hg : w.grownBy w' r) (hr : ∀ b, r = some b → v.ownBlock ≠ some b) : OwnsS e w' base v n ss :=
  h.keep hg (fun k hk he => hr k he.symm hk)

theorem Owns.grownAny {w w' : World} {base n : Nat} {v : Value} {xs : List Int} {r : Option Nat} (h : Owns w base v n xs) (hg : w.grownBy w' r) (hr : ∀ b, r = some b → v.ownBlock ≠ some b) : Owns w' base v n xs :=
  h.keep hg (fun k hk he => hr k he.symm hk)

theorem marksS_at (k : Int) (n j : Nat) (h : j < n) : (marksS k n)[j]? = some (k + 3 * (j : Int), k + 3 * (j : Int) + 1, k + 3 * (j : Int) + 1 + 1) := by simp [marksS, h]

end Go.Proofs.YtfhjhfhfbgddeaaGreatDoor
