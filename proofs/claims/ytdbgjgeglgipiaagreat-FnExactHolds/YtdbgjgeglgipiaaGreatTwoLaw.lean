/-
  What the exact laws over two automata share: both arguments' boxes, both copies' boxes, and what marking one copy leaves. Conditions: as each statement says.
-/
import Derived.Test.YtdbgjgeglgipiaaGreatTwo
import Derived.Test.YtdbgjgeglgipiaaGreatIaLaw
namespace Go.Proofs.YtdbgjgeglgipiaaGreat
open Go.RowKit

/-- The arguments' boxes and the copies' boxes with the copies. -/
def LawS (w W : World) (A B : Array Value) (p q bp bq : Nat) (a b : IaD) (C D : Array Value) : Prop :=
  Box2 w W w.heap.size (w.heap.size + 1) 25 A B ∧ (VarIs W p C 31 ∧ IaAt W bp a (.agg C)) ∧ (VarIs W q D 31 ∧ IaAt W bq b (.agg D))

theorem LawS.below {w W W' : World} {A B : Array Value} {p q bp bq : Nat} {a b : IaD} {C D : Array Value} (h : LawS w W A B p q bp bq a b C D) (hb : Below W.heap.size W W') : LawS w W' A B p q bp bq a b C D :=
  ⟨h.1.below hb, ⟨h.2.1.1.below hb, h.2.1.2.below hb⟩, ⟨h.2.2.1.below hb, h.2.2.2.below hb⟩⟩

theorem LawS.drew {w W : World} {A B : Array Value} {p q bp bq : Nat} {a b : IaD} {C D : Array Value} (h : LawS w W A B p q bp bq a b C D) : LawS w W.drew A B p q bp bq a b C D :=
  ⟨h.1.drew, ⟨h.2.1.1, h.2.1.2.drew⟩, ⟨h.2.2.1, h.2.2.2.drew⟩⟩

theorem Box2.but4 {w W W' : World} {p q : Nat} {t : TypeId} {A B : Array Value} {g2 g3 g4 g5 base : Nat} (h : Box2 w W p q t A B) (hw : But4 W W' g2 g3 g4 g5) (hb : Below base W W') (hs : w.heap.size ≤ base) (hp : p < g2) (hq : q < g2) (l3 : g2 < g3) (l4 : g3 < g4) (l5 : g4 < g5) : Box2 w W' p q t A B :=
  ⟨h.1.trans (hb.mono hs), h.2.1.but4 hw (by omega) (by omega) (by omega) (by omega), h.2.2.but4 hw (by omega) (by omega) (by omega) (by omega)⟩

theorem OwnsS.but4 {e : TypeId} {w w' : World} {base n g2 g3 g4 g5 : Nat} {v : Value} {xs : List St} (h : OwnsS e w base v n xs) (hw : But4 w w' g2 g3 g4 g5) (hg : ∀ k, v.ownBlock = some k → k ≠ g2 ∧ k ≠ g3 ∧ k ≠ g4 ∧ k ≠ g5) : OwnsS e w' base v n xs := by
  have hlt := h.lt
  obtain ⟨h1, h2⟩ := h
  refine ⟨h1, ?_⟩
  rcases h2 with h2 | ⟨g, cap, cur, hv, hb, hh, r⟩
  · exact Or.inl h2
  · subst hv
    obtain ⟨q2, q3, q4, q5⟩ := hg g rfl
    exact Or.inr ⟨g, cap, cur, rfl, hb, by rw [hw g (hlt g rfl).2 q2 q3 q4 q5]; exact hh, r⟩

/-- A copy that lies behind what is marked is as it was. -/
theorem IaAt.but4 {w w' : World} {base : Nat} {a : IaD} {v : Value} {g2 g3 g4 g5 : Nat} (h : IaAt w base a v) (hw : But4 w w' g2 g3 g4 g5) (l3 : g2 < g3) (l4 : g3 < g4) (l5 : g4 < g5) (hb : g5 < base) : IaAt w' base a v := by
  obtain ⟨k2, k3, k4, k5, e, l2, h3, h4, h5, o2, o3, o4, o5⟩ := h
  exact ⟨k2, k3, k4, k5, e, l2, h3, h4, h5, o2.but4 hw (fun k hk => by cases hk; simp only; omega), o3.but4 hw (fun k hk => by cases hk; simp only; omega), o4.but4 hw (fun k hk => by cases hk; simp only; omega), o5.but4 hw (fun k hk => by cases hk; simp only; omega)⟩

end Go.Proofs.YtdbgjgeglgipiaaGreat
