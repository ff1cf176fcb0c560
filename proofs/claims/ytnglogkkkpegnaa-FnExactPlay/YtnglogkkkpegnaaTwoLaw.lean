/-
  What the exact laws over two automata share: both arguments' boxes, both copies' boxes, and what marking one copy leaves. Conditions: as each statement says.
-/
import Derived.Test.YtnglogkkkpegnaaTwo
import Derived.Test.YtnglogkkkpegnaaMarkIa2
namespace Go.Proofs.Ytnglogkkkpegnaa
open Go.RowKit

/-- The arguments' boxes and the copies' boxes with the copies. -/
def LawS (w W : World) (A B : Array Value) (p q bp bq : Nat) (a b : IaD) (C D : Array Value) : Prop :=
  Box2 w W w.heap.size (w.heap.size + 1) 40 A B ∧ (VarIs W p C 27 ∧ IaAt W bp a (.agg C)) ∧ (VarIs W q D 27 ∧ IaAt W bq b (.agg D))

theorem LawS.below {w W W' : World} {A B : Array Value} {p q bp bq : Nat} {a b : IaD} {C D : Array Value} (h : LawS w W A B p q bp bq a b C D) (hb : Below W.heap.size W W') : LawS w W' A B p q bp bq a b C D :=
  ⟨h.1.below hb, ⟨h.2.1.1.below hb, h.2.1.2.below hb⟩, ⟨h.2.2.1.below hb, h.2.2.2.below hb⟩⟩

theorem LawS.drew {w W : World} {A B : Array Value} {p q bp bq : Nat} {a b : IaD} {C D : Array Value} (h : LawS w W A B p q bp bq a b C D) : LawS w W.drew A B p q bp bq a b C D :=
  ⟨h.1.drew, ⟨h.2.1.1, h.2.1.2.drew⟩, ⟨h.2.2.1, h.2.2.2.drew⟩⟩

theorem Box2.but4 {w W W' : World} {p q : Nat} {t : TypeId} {A B : Array Value} {g2 g3 g4 g5 base : Nat} (h : Box2 w W p q t A B) (hw : But4 W W' g2 g3 g4 g5) (hb : Below base W W') (hs : w.heap.size ≤ base) (hp : p < g2) (hq : q < g2) (l3 : g2 < g3) (l4 : g3 < g4) (l5 : g4 < g5) : Box2 w W' p q t A B :=
  ⟨h.1.trans (hb.mono hs), h.2.1.but4 hw (by omega) (by omega) (by omega) (by omega), h.2.2.but4 hw (by omega) (by omega) (by omega) (by omega)⟩

theorem OwnsS.but4 {e : TypeId} {w w' : World} {base n g2 g3 g4 g5 : Nat} {v : Value} {xs : List St} (h : OwnsS e w base v n xs) (hw : But4 w w' g2 g3 g4 g5) (hg : ∀ k, v.ownBlock = some k → k ≠ g2 ∧ k ≠ g3 ∧ k ≠ g4 ∧ k ≠ g5) : OwnsS e w' base v n xs := by
  have hlt := h.lt
  obtain ⟨h1, h2⟩ := h
  refine ⟨h1, ?_⟩
  rcases h2 with h2 | ⟨g, cap, cur, hv, hb, hh, r⟩
  · exact Or.inl h2
  · subst hv
    obtain ⟨q2, q3, q4, q5⟩ := hg g rfl
    exact Or.inr ⟨g, cap, cur, rfl, hb, by rw [hw g (hlt g rfl).2 q2 q3 q4 q5]; exact hh, r⟩

/-- A copy that lies behind what is marked is as it was. -/
theorem IaAt.but4 {w w' : World} {base : Nat} {a : IaD} {v : Value} {g2 g3 g4 g5 : Nat} (h : IaAt w base a v) (hw : But4 w w' g2 g3 g4 g5) (l3 : g2 < g3) (l4 : g3 < g4) (l5 : g4 < g5) (hb : g5 < base) : IaAt w' base a v := by
  obtain ⟨k2, k3, k4, k5, e, l2, h3, h4, h5, o2, o3, o4, o5⟩ := h
  exact ⟨k2, k3, k4, k5, e, l2, h3, h4, h5, o2.but4 hw (fun k hk => by cases hk; simp only; omega), o3.but4 hw (fun k hk => by cases hk; simp only; omega), o4.but4 hw (fun k hk => by cases hk; simp only; omega), o5.but4 hw (fun k hk => by cases hk; simp only; omega)⟩

set_option maxRecDepth 20000 in
set_option maxHeartbeats 1600000 in
theorem markIa_from (k0 : Int) (st it : Int) (g2 g3 g4 g5 : Nat) (ins outs hids : List Int) (steps : List St) (base : Nat) (w : World) (hk0 : 0 ≤ k0) (hk1 : k0 ≤ 68719476736) (b2 : base ≤ g2) (l3 : g2 < g3) (l4 : g3 < g4) (l5 : g4 < g5) (hbase : base ≤ w.heap.size)
    (o2 : Owns w base (.slice (some ⟨g2, 0, none⟩) ins.length ins.length) ins.length ins) (o3 : Owns w base (.slice (some ⟨g3, 0, none⟩) outs.length outs.length) outs.length outs) (o4 : Owns w base (.slice (some ⟨g4, 0, none⟩) hids.length hids.length) hids.length hids)
    (o5 : OwnsS 34 w base (.slice (some ⟨g5, 0, none⟩) steps.length steps.length) steps.length steps) (f2 : ins.length ≤ 1073741824) (f3 : outs.length ≤ 1073741824) (f4 : hids.length ≤ 1073741824) (f5 : steps.length ≤ 1073741824) :
    Calls Try.prog 23 #[.agg #[.int .i64 st, .int .i64 it, .slice (some ⟨g2, 0, none⟩) ins.length ins.length, .slice (some ⟨g3, 0, none⟩) outs.length outs.length, .slice (some ⟨g4, 0, none⟩) hids.length hids.length, .slice (some ⟨g5, 0, none⟩) steps.length steps.length], .int .i64 k0] w fun e w' => ∃ r : Int, 0 ≤ r ∧ r ≤ k0 + (ins.length : Int) + (outs.length : Int) + (hids.length : Int) + 3 * (steps.length : Int) ∧ e = .returned (.int .i64 r) ∧ Below base w w' ∧ But4 w w' g2 g3 g4 g5 := by
  have lt5 := (o5.lt g5 rfl).2
  have O2 := Lib.hid (o2.alloc (.cells #[.int .i64 st, .int .i64 it, .slice (some ⟨g2, 0, none⟩) ins.length ins.length, .slice (some ⟨g3, 0, none⟩) outs.length outs.length, .slice (some ⟨g4, 0, none⟩) hids.length hids.length, .slice (some ⟨g5, 0, none⟩) steps.length steps.length] 27))
  have O3 := Lib.hid (o3.alloc (.cells #[.int .i64 st, .int .i64 it, .slice (some ⟨g2, 0, none⟩) ins.length ins.length, .slice (some ⟨g3, 0, none⟩) outs.length outs.length, .slice (some ⟨g4, 0, none⟩) hids.length hids.length, .slice (some ⟨g5, 0, none⟩) steps.length steps.length] 27))
  have O4 := Lib.hid (o4.alloc (.cells #[.int .i64 st, .int .i64 it, .slice (some ⟨g2, 0, none⟩) ins.length ins.length, .slice (some ⟨g3, 0, none⟩) outs.length outs.length, .slice (some ⟨g4, 0, none⟩) hids.length hids.length, .slice (some ⟨g5, 0, none⟩) steps.length steps.length] 27))
  have O5 := Lib.hid (o5.alloc (.cells #[.int .i64 st, .int .i64 it, .slice (some ⟨g2, 0, none⟩) ins.length ins.length, .slice (some ⟨g3, 0, none⟩) outs.length outs.length, .slice (some ⟨g4, 0, none⟩) hids.length hids.length, .slice (some ⟨g5, 0, none⟩) steps.length steps.length] 27))
  have V0 := Lib.hid (VarIs.new w #[.int .i64 st, .int .i64 it, .slice (some ⟨g2, 0, none⟩) ins.length ins.length, .slice (some ⟨g3, 0, none⟩) outs.length outs.length, .slice (some ⟨g4, 0, none⟩) hids.length hids.length, .slice (some ⟨g5, 0, none⟩) steps.length steps.length] 27 rfl)
  have B0 : Hid (∀ o, Below base w (w.alloc o)) := fun o => (Below.refl _ _).alloc hbase _
  have K0 : Hid (∀ o k, k < w.heap.size → (w.alloc o).heap[k]? = w.heap[k]?) := fun o k hk => Below.heap_alloc w o k hk
  clear o2 o3 o4 o5
  go_enter Try.func23, Try.ntmps23
  go_wp2_with fail
  refine (mark_any _ ins.length base k0 ins _ O2.out (by omega) (by omega) (by omega)).mono ?_
  rintro e w1 ⟨rfl, _, hg0⟩
  have hg : World.grownBy _ w1 (some g2) := hg0
  clear hg0
  have V1 := Lib.hid (V0.out.other2 hg (by omega))
  have O3a := Lib.hid (owns_other O3.out hg (by omega))
  have O4a := Lib.hid (owns_other O4.out hg (by omega))
  have O5a := Lib.hid (ownsS_other O5.out hg (by omega))
  have K1 : Hid (∀ k, k < w.heap.size → k ≠ g2 → w1.heap[k]? = w.heap[k]?) := fun k hk h => (hg.block k (Nat.lt_of_lt_of_le hk (B0.out _).size) (fun e => h (Option.some.inj e))).trans (K0.out _ k hk)
  have B1 : Hid (Below base w w1) := (B0.out _).grown hg (Nat.le_trans hbase (B0.out _).size) (fun k h => by cases h; exact b2)
  clear hg
  have k1 := V1.out.cell (j := 3) rfl
  go_wp2_with fail
  clear k1
  refine (mark_any _ outs.length base _ outs _ O3a.out (by omega) (by omega) (by omega)).mono ?_
  rintro e w2 ⟨rfl, _, hg0⟩
  have hg : World.grownBy _ w2 (some g3) := hg0
  clear hg0
  have V2 := Lib.hid (V1.out.other2 hg (by omega))
  have O4b := Lib.hid (owns_other O4a.out hg (by omega))
  have O5b := Lib.hid (ownsS_other O5a.out hg (by omega))
  have K2 : Hid (∀ k, k < w.heap.size → k ≠ g2 → k ≠ g3 → w2.heap[k]? = w.heap[k]?) := fun k hk h2 h3 => (hg.block k (Nat.lt_of_lt_of_le hk B1.out.size) (fun e => h3 (Option.some.inj e))).trans (K1.out k hk h2)
  have B2 : Hid (Below base w w2) := B1.out.grown hg (Nat.le_trans hbase B1.out.size) (fun k h => by cases h; show base ≤ g3; omega)
  clear hg
  have k1 := V2.out.cell (j := 4) rfl
  go_wp2_with fail
  clear k1
  refine (mark_any _ hids.length base _ hids _ O4b.out (by omega) (by omega) (by omega)).mono ?_
  rintro e w3 ⟨rfl, _, hg0⟩
  have hg : World.grownBy _ w3 (some g4) := hg0
  clear hg0
  have V3 := Lib.hid (V2.out.other2 hg (by omega))
  have O5c := Lib.hid (ownsS_other O5b.out hg (by omega))
  have K3 : Hid (∀ k, k < w.heap.size → k ≠ g2 → k ≠ g3 → k ≠ g4 → w3.heap[k]? = w.heap[k]?) := fun k hk h2 h3 h4 => (hg.block k (Nat.lt_of_lt_of_le hk B2.out.size) (fun e => h4 (Option.some.inj e))).trans (K2.out k hk h2 h3)
  have B3 : Hid (Below base w w3) := B2.out.grown hg (Nat.le_trans hbase B2.out.size) (fun k h => by cases h; show base ≤ g4; omega)
  clear hg
  have k1 := V3.out.cell (j := 5) rfl
  go_wp2_with fail
  clear k1
  refine (markS_any _ steps.length base _ steps _ O5c.out (by omega) (by omega) (by omega)).mono ?_
  rintro e w4 ⟨rfl, _, hg0⟩
  have hg : World.grownBy _ w4 (some g5) := hg0
  clear hg0
  have K4 : Hid (∀ k, k < w.heap.size → k ≠ g2 → k ≠ g3 → k ≠ g4 → k ≠ g5 → w4.heap[k]? = w.heap[k]?) := fun k hk h2 h3 h4 h5 => (hg.block k (Nat.lt_of_lt_of_le hk B3.out.size) (fun e => h5 (Option.some.inj e))).trans (K3.out k hk h2 h3 h4)
  have B4 : Hid (Below base w w4) := B3.out.grown hg (Nat.le_trans hbase B3.out.size) (fun k h => by cases h; show base ≤ g5; omega)
  clear hg
  go_wp2_with fail
  go_ret
  exact ⟨_, by omega, by omega, rfl, B4.out, K4.out⟩

end Go.Proofs.Ytnglogkkkpegnaa
