import Derived.Test.YtfhjhfhfbgddeaaGreatDoorOpenIa
import Derived.Test.YtfhjhfhfbgddeaaGreatDoorIaDef
import Derived.Test.YtfhjhfhfbgddeaaGreatDoorBtw
import Derived.Deep.RegionHeld3
/-
  Contracts of the laws' helpers that copy steps and automata (toStep, toStepS, toIa). Conditions: the slices read as lists of at most 2^40 elements.
-/
namespace Go.Proofs.YtfhjhfhfbgddeaaGreatDoor
open Go.RowKit

theorem step_one (x y z : Int) : (#[.int .i64 x, .int .i64 y, .int .i64 z] : Array Value).all (·.oneCell') = true := all_oneCell_toArray (flat_one [(x, y, z)])

theorem filled_step {α : Type} (xs : List α) (z : α) (n k : Nat) (hl : xs.length = n) (hk : k < xs.length) :
    (xs.take k ++ List.replicate (n - k) z).set k xs[k] = xs.take (k + 1) ++ List.replicate (n - (k + 1)) z := by
  have e1 : n - k = (n - (k + 1)) + 1 := by omega
  rw [e1, List.replicate_succ, List.set_append, if_neg (by simp; omega), List.take_succ_eq_append_getElem hk]
  have e2 : k - (xs.take k).length = 0 := by simp; omega
  rw [e2]
  simp only [List.set_cons_zero, List.append_assoc, List.cons_append, List.nil_append]

theorem made_flat (n : Nat) : (madeCells #[.int .i64 0, .int .i64 0, .int .i64 0] (n * 3)).toList = flat (List.replicate n ((0, 0, 0) : St)) := by
  apply List.ext_getElem?
  intro j
  by_cases hj : j < n * 3
  · have hq : j / 3 < n := by omega
    obtain ⟨f0, f1, f2⟩ := flat_at (List.replicate n ((0, 0, 0) : St)) (j / 3) (0, 0, 0) (by simp [hq])
    have hr : j = j / 3 * 3 ∨ j = j / 3 * 3 + 1 ∨ j = j / 3 * 3 + 2 := by omega
    have hL : (madeCells #[.int .i64 0, .int .i64 0, .int .i64 0] (n * 3)).toList[j]? = some (.int .i64 0) := by
      have hm : j % 3 = 0 ∨ j % 3 = 1 ∨ j % 3 = 2 := by omega
      rcases hm with hm | hm | hm <;> simp [madeCells, hj, hm]
    rw [hL]
    rcases hr with hr | hr | hr
    · rw [hr]; exact f0.symm
    · rw [hr]; exact f1.symm
    · rw [hr]; exact f2.symm
  · rw [List.getElem?_eq_none (by simp [madeCells]; omega), List.getElem?_eq_none (by rw [flat_length]; simp; omega)]

end Go.Proofs.YtfhjhfhfbgddeaaGreatDoor

/-
  The contract of the laws' toIa: a copy of an automaton in four new blocks. Conditions: the slices read as lists of at most 2^40 elements.
-/
namespace Go.Proofs.YtfhjhfhfbgddeaaGreatDoor
open Go.RowKit

/-- The slices of an automaton's value read as an automaton's lists. -/
def IaRow (w : World) (a : IaD) (v : Value) : Prop :=
  ∃ (a2 : Option Addr) (n2 c2 : Nat) (a3 : Option Addr) (n3 c3 : Nat) (a4 : Option Addr) (n4 c4 : Nat) (a5 : Option Addr) (n5 c5 : Nat),
    v = .agg #[.int .i64 a.states, .int .i64 a.init, .slice a2 n2 c2, .slice a3 n3 c3, .slice a4 n4 c4, .slice a5 n5 c5] ∧ Row w a2 n2 a.ins ∧ Row w a3 n3 a.outs ∧ Row w a4 n4 a.hids ∧ RowS w a5 n5 a.steps

def IaFits (a : IaD) : Prop := a.ins.length ≤ 1099511627776 ∧ a.outs.length ≤ 1099511627776 ∧ a.hids.length ≤ 1099511627776 ∧ a.steps.length ≤ 1099511627776

/-- A copy of an automaton: four new blocks, one behind the other. -/
def IaAt (w : World) (base : Nat) (a : IaD) (v : Value) : Prop :=
  ∃ g2 g3 g4 g5 : Nat, v = .agg #[.int .i64 a.states, .int .i64 a.init, .slice (some ⟨g2, 0, none⟩) a.ins.length a.ins.length, .slice (some ⟨g3, 0, none⟩) a.outs.length a.outs.length, .slice (some ⟨g4, 0, none⟩) a.hids.length a.hids.length, .slice (some ⟨g5, 0, none⟩) a.steps.length a.steps.length] ∧
    base ≤ g2 ∧ g2 < g3 ∧ g3 < g4 ∧ g4 < g5 ∧
    Owns w base (.slice (some ⟨g2, 0, none⟩) a.ins.length a.ins.length) a.ins.length a.ins ∧ Owns w base (.slice (some ⟨g3, 0, none⟩) a.outs.length a.outs.length) a.outs.length a.outs ∧ Owns w base (.slice (some ⟨g4, 0, none⟩) a.hids.length a.hids.length) a.hids.length a.hids ∧
    OwnsS 47 w base (.slice (some ⟨g5, 0, none⟩) a.steps.length a.steps.length) a.steps.length a.steps

/-- A variable of the call's own: block 'b' holds the cells 'C'. -/
def VarIs (w : World) (b : Nat) (C : Array Value) (t : TypeId) : Prop := w.heap[b]? = some (.cells C t (0, 0))

theorem VarIs.lt {w : World} {b : Nat} {C : Array Value} {t : TypeId} (h : VarIs w b C t) : b < w.heap.size := (Array.getElem?_eq_some_iff.1 h).1

theorem VarIs.below {w w' : World} {b : Nat} {C : Array Value} {t : TypeId} (h : VarIs w b C t) (hb : Below w.heap.size w w') : VarIs w' b C t := (hb.block b h.lt).trans h

theorem VarIs.cell {w : World} {b : Nat} {C : Array Value} {t : TypeId} (h : VarIs w b C t) {j : Nat} {u : Value} (hu : C[j]? = some u) : w.cell? ⟨b, j, none⟩ = some u := (cell_of_row w b j C t (0, 0) h).trans hu

theorem VarIs.frozen {w : World} {b : Nat} {C : Array Value} {t : TypeId} (h : VarIs w b C t) (j : Nat) : w.frozen? ⟨b, j, none⟩ = false := frozen_of_row w b j C t h

theorem VarIs.set {w : World} {b : Nat} {C : Array Value} {t : TypeId} (h : VarIs w b C t) (j : Nat) (u : Value) : VarIs (w.setCell ⟨b, j, none⟩ u) b (C.setIfInBounds j u) t := heap_setCell_same w b j C t u h

theorem VarIs.other {w : World} {b : Nat} {C : Array Value} {t : TypeId} (h : VarIs w b C t) {g j : Nat} (hg : b ≠ g) (u : Value) : VarIs (w.setCell ⟨g, j, none⟩ u) b C t := (heap_setCell_other w ⟨g, j, none⟩ b u hg).trans h

theorem VarIs.new (w : World) (C : Array Value) (t : TypeId) {b : Nat} (hb : b = w.heap.size) : VarIs (w.alloc (.cells C t)) b C t := by subst hb; exact heap_alloc_new w _

theorem VarIs.alloc {w : World} {b : Nat} {C : Array Value} {t : TypeId} (h : VarIs w b C t) (o : Obj) : VarIs (w.alloc o) b C t := (Below.heap_alloc w o b h.lt).trans h

theorem below_set {B : Nat} {a w : World} (h : Below B a w) {g j : Nat} (hg : B ≤ g) (u : Value) : Below B a (w.setCell ⟨g, j, none⟩ u) := h.setCell hg u

theorem owns_set {w : World} {base n g c j b : Nat} {xs : List Int} (h : Owns w base (.slice (some ⟨g, 0, none⟩) n c) n xs) (hg : b ≠ g) (u : Value) : Owns (w.setCell ⟨b, j, none⟩ u) base (.slice (some ⟨g, 0, none⟩) n c) n xs :=
  h.keep (r := some b) ⟨rfl, rfl, rfl, by simp, fun k _ hk => heap_setCell_other w ⟨b, j, none⟩ k u (fun e => hk (by simp [e]))⟩ (fun k hk => by
    cases hk
    intro e
    exact hg (Option.some.inj e).symm)

theorem owns_other {w w' : World} {base n g c b : Nat} {xs : List Int} (h : Owns w base (.slice (some ⟨g, 0, none⟩) n c) n xs) (hw : w.grownBy w' (some b)) (hg : b ≠ g) : Owns w' base (.slice (some ⟨g, 0, none⟩) n c) n xs :=
  h.keep hw (fun k hk => by
    cases hk
    intro e
    exact hg (Option.some.inj e).symm)

theorem ownsS_other {e : TypeId} {w w' : World} {base n g c b : Nat} {xs : List St} (h : OwnsS e w base (.slice (some ⟨g, 0, none⟩) n c) n xs) (hw : w.grownBy w' (some b)) (hg : b ≠ g) : OwnsS e w' base (.slice (some ⟨g, 0, none⟩) n c) n xs :=
  h.keep hw (fun k hk => by
    cases hk
    intro e
    exact hg (Option.some.inj e).symm)

theorem ownsS_set {e : TypeId} {w : World} {base n g c j b : Nat} {xs : List St} (h : OwnsS e w base (.slice (some ⟨g, 0, none⟩) n c) n xs) (hg : b ≠ g) (u : Value) : OwnsS e (w.setCell ⟨b, j, none⟩ u) base (.slice (some ⟨g, 0, none⟩) n c) n xs :=
  h.keep (r := some b) ⟨rfl, rfl, rfl, by simp, fun k _ hk => heap_setCell_other w ⟨b, j, none⟩ k u (fun e => hk (by simp [e]))⟩ (fun k hk => by
    cases hk
    intro e
    exact hg (Option.some.inj e).symm)

theorem grown_setCells (b : Nat) : ∀ (vs : List Value) (o : Nat) (w : World), w.grownBy (w.setCells b o vs) (some b)
  | [], _, w => ⟨rfl, rfl, rfl, Nat.le_refl _, fun _ _ _ => rfl⟩
  | v :: r, o, w => by
    rw [World.setCells]
    refine grownBy_trans (b := w.setCell ⟨b, o, none⟩ v) ⟨rfl, rfl, rfl, by simp, fun k _ hk => heap_setCell_other w ⟨b, o, none⟩ k v (fun e => hk (by simp [e]))⟩ (grown_setCells b r (o + 1) _)

theorem VarIs.range {w : World} {b : Nat} {C : Array Value} {t : TypeId} (h : VarIs w b C t) : w.rangeAt b 0 C.toList := fun j v hv => by
  rw [Nat.zero_add]
  exact h.cell (by simpa using hv)

theorem VarIs.there {w : World} {b : Nat} {C : Array Value} {t : TypeId} (h : VarIs w b C t) {n : Nat} (hn : n = C.size) : w.there b 0 n := fun j hj => by
  rw [Nat.zero_add]
  refine ⟨?_, h.frozen j⟩
  rw [h.cell (Array.getElem?_eq_getElem (by omega))]
  rfl

end Go.Proofs.YtfhjhfhfbgddeaaGreatDoor

/-
  The contract of the laws' szIa: how much room is left behind an automaton's lists. Conditions: at most 2^40 at the beginning; the slices are no longer than slices may be.
-/
namespace Go.Proofs.YtfhjhfhfbgddeaaGreatDoor
open Go.RowKit

def roomOf (left : Int) (n : Nat) : Int := if (n : Int) ≤ left then left - n else -1

theorem roomOf_neg {left : Int} {n : Nat} (h : ¬ (n : Int) ≤ left) : roomOf left n = -1 := if_neg h
theorem roomOf_pos {left : Int} {n : Nat} (h : (n : Int) ≤ left) : roomOf left n = left - n := if_pos h

end Go.Proofs.YtfhjhfhfbgddeaaGreatDoor

/-
  Contracts of the laws' eqStep and eqStepS. Conditions: the slices read as lists of at most 2^40 elements.
-/
namespace Go.Proofs.YtfhjhfhfbgddeaaGreatDoor
open Go.RowKit

end Go.Proofs.YtfhjhfhfbgddeaaGreatDoor

/-
  The contract of the laws' eqIa: whether two automata are the same, field by field. Conditions: the slices read as lists of at most 2^40 elements.
-/
namespace Go.Proofs.YtfhjhfhfbgddeaaGreatDoor
open Go.RowKit

theorem IaD.same {a b : IaD} : a = b ↔ a.states = b.states ∧ a.init = b.init ∧ a.ins = b.ins ∧ a.outs = b.outs ∧ a.hids = b.hids ∧ a.steps = b.steps := by
  cases a; cases b; simp

open Classical in
/-- Whether two automata are the same. -/
noncomputable def sameB (a b : IaD) : Bool := decide (a = b)

theorem sameB_refl (a : IaD) : sameB a a = true := by simp [sameB]
theorem sameB_yes {a b : IaD} (h : a = b) : sameB a b = true := by subst h; exact sameB_refl a
theorem sameB_no {a b : IaD} (h : ¬ a = b) : sameB a b = false := by simp [sameB, h]

theorem IaRow.below {w w' : World} {a : IaD} {v : Value} (h : IaRow w a v) (hb : Below w.heap.size w w') : IaRow w' a v := by
  obtain ⟨a2, n2, c2, a3, n3, c3, a4, n4, c4, a5, n5, c5, rfl, r2, r3, r4, r5⟩ := h
  exact ⟨a2, n2, c2, a3, n3, c3, a4, n4, c4, a5, n5, c5, rfl, r2.below hb, r3.below hb, r4.below hb, r5.below hb⟩

theorem IaAt.row {w : World} {base : Nat} {a : IaD} {v : Value} (h : IaAt w base a v) : IaRow w a v := by
  obtain ⟨g2, g3, g4, g5, rfl, _, _, _, _, o2, o3, o4, o5⟩ := h
  exact ⟨_, _, _, _, _, _, _, _, _, _, _, _, rfl, o2.row.2.2.2, o3.row.2.2.2, o4.row.2.2.2, o5.row.2.2.2⟩

end Go.Proofs.YtfhjhfhfbgddeaaGreatDoor
