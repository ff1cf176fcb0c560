/-
  The contract of the laws' markIa, told block by block: it writes into the four lists of the copy alone. Conditions: rows of the call's own of at most 2^38 elements.
-/
import Derived.Test.YtdbgjgeglgipiaaIaLaw
namespace Go.Proofs.Ytdbgjgeglgipiaa
open Go.RowKit

/-- All blocks but some four are as they were. -/
def But4 (w w' : World) (g2 g3 g4 g5 : Nat) : Prop := ∀ k, k < w.heap.size → k ≠ g2 → k ≠ g3 → k ≠ g4 → k ≠ g5 → w'.heap[k]? = w.heap[k]?

theorem Owns.but4 {w w' : World} {base n g2 g3 g4 g5 : Nat} {v : Value} {xs : List Int} (h : Owns w base v n xs) (hw : But4 w w' g2 g3 g4 g5) (hg : ∀ k, v.ownBlock = some k → k ≠ g2 ∧ k ≠ g3 ∧ k ≠ g4 ∧ k ≠ g5) : Owns w' base v n xs := by
  have hlt := h.lt
  obtain ⟨h1, h2⟩ := h
  refine ⟨h1, ?_⟩
  rcases h2 with h2 | ⟨g, cap, cur, hv, hb, hh, r⟩
  · exact Or.inl h2
  · subst hv
    obtain ⟨q2, q3, q4, q5⟩ := hg g rfl
    exact Or.inr ⟨g, cap, cur, rfl, hb, by rw [hw g (hlt g rfl).2 q2 q3 q4 q5]; exact hh, r⟩

theorem VarIs.but4 {w w' : World} {b g2 g3 g4 g5 : Nat} {C : Array Value} {t : TypeId} (h : VarIs w b C t) (hw : But4 w w' g2 g3 g4 g5) (q2 : b ≠ g2) (q3 : b ≠ g3) (q4 : b ≠ g4) (q5 : b ≠ g5) : VarIs w' b C t := (hw b h.lt q2 q3 q4 q5).trans h

theorem VarIs.grown {w w' : World} {b : Nat} {C : Array Value} {t : TypeId} {r : Option Nat} (h : VarIs w b C t) (hw : w.grownBy w' r) (hr : some b ≠ r) : VarIs w' b C t := (hw.block b h.lt hr).trans h

/-- A copy whose blocks are named. -/
theorem IaAt.parts {w : World} {base g2 g3 g4 g5 : Nat} {st it : Int} {ins outs hids : List Int} {steps : List St} (h : IaAt w base ⟨st, it, ins, outs, hids, steps⟩ (.agg #[.int .i64 st, .int .i64 it, .slice (some ⟨g2, 0, none⟩) ins.length ins.length, .slice (some ⟨g3, 0, none⟩) outs.length outs.length, .slice (some ⟨g4, 0, none⟩) hids.length hids.length, .slice (some ⟨g5, 0, none⟩) steps.length steps.length])) :
    base ≤ g2 ∧ g2 < g3 ∧ g3 < g4 ∧ g4 < g5 ∧ Owns w base (.slice (some ⟨g2, 0, none⟩) ins.length ins.length) ins.length ins ∧ Owns w base (.slice (some ⟨g3, 0, none⟩) outs.length outs.length) outs.length outs ∧ Owns w base (.slice (some ⟨g4, 0, none⟩) hids.length hids.length) hids.length hids ∧
    OwnsS 61 w base (.slice (some ⟨g5, 0, none⟩) steps.length steps.length) steps.length steps := by
  obtain ⟨k2, k3, k4, k5, e, l2, l3, l4, l5, o2, o3, o4, o5⟩ := h
  simp at e
  obtain ⟨rfl, rfl, rfl, rfl⟩ := e
  exact ⟨l2, l3, l4, l5, o2, o3, o4, o5⟩

end Go.Proofs.Ytdbgjgeglgipiaa
