/-
  The contract of the laws' markIa, told block by block: it writes into the four lists of the copy alone. Conditions: rows of the call's own of at most 2^38 elements.
-/
import Derived.Test.YtnglogkkkpegnaaIaLaw
namespace Go.Proofs.Ytnglogkkkpegnaa
open Go.RowKit

/-- All blocks but some four are as they were. -/
def But4 (w w' : World) (g2 g3 g4 g5 : Nat) : Prop := ∀ k, k < w.heap.size → k ≠ g2 → k ≠ g3 → k ≠ g4 → k ≠ g5 → w'.heap[k]? = w.heap[k]?

theorem Owns.but4 {w w' : World} {base n g2 g3 g4 g5 : Nat} {v : Value} {xs : List Int} (h : Owns w base v n xs) (hw : But4 w w' g2 g3 g4 g5) (hg : ∀ k, v.ownBlock = some k → k ≠ g2 ∧ k ≠ g3 ∧ k ≠ g4 ∧ k ≠ g5) : Owns w' base v n xs := by
  have hlt := h.lt
  obtain ⟨h1, h2⟩ := h
  refine ⟨h1, ?_⟩
  rcases h2 with h2 | ⟨g, cap, cur, hv, hb, hh, r⟩
  · exact Or.inl h2
  · subst hv
    obtain ⟨q2, q3, q4, q5⟩ := hg g rfl
    exact Or.inr ⟨g, cap, cur, rfl, hb, by rw [hw g (hlt g rfl).2 q2 q3 q4 q5]; exact hh, r⟩

theorem VarIs.but4 {w w' : World} {b g2 g3 g4 g5 : Nat} {C : Array Value} {t : TypeId} (h : VarIs w b C t) (hw : But4 w w' g2 g3 g4 g5) (q2 : b ≠ g2) (q3 : b ≠ g3) (q4 : b ≠ g4) (q5 : b ≠ g5) : VarIs w' b C t := (hw b h.lt q2 q3 q4 q5).trans h

theorem VarIs.grown {w w' : World} {b : Nat} {C : Array Value} {t : TypeId} {r : Option Nat} (h : VarIs w b C t) (hw : w.grownBy w' r) (hr : some b ≠ r) : VarIs w' b C t := (hw.block b h.lt hr).trans h

set_option maxRecDepth 20000 in
set_option maxHeartbeats 1600000 in
theorem markIa_at (st it : Int) (g2 g3 g4 g5 : Nat) (ins outs hids : List Int) (steps : List St) (base : Nat) (w : World) (b2 : base ≤ g2) (l3 : g2 < g3) (l4 : g3 < g4) (l5 : g4 < g5) (hbase : base ≤ w.heap.size)
    (o2 : Owns w base (.slice (some ⟨g2, 0, none⟩) ins.length ins.length) ins.length ins) (o3 : Owns w base (.slice (some ⟨g3, 0, none⟩) outs.length outs.length) outs.length outs) (o4 : Owns w base (.slice (some ⟨g4, 0, none⟩) hids.length hids.length) hids.length hids)
    (o5 : OwnsS 34 w base (.slice (some ⟨g5, 0, none⟩) steps.length steps.length) steps.length steps) (f2 : ins.length ≤ 274877906944) (f3 : outs.length ≤ 274877906944) (f4 : hids.length ≤ 274877906944) (f5 : steps.length ≤ 274877906944) :
    Calls Try.prog 23 #[.agg #[.int .i64 st, .int .i64 it, .slice (some ⟨g2, 0, none⟩) ins.length ins.length, .slice (some ⟨g3, 0, none⟩) outs.length outs.length, .slice (some ⟨g4, 0, none⟩) hids.length hids.length, .slice (some ⟨g5, 0, none⟩) steps.length steps.length], .int .i64 1] w fun e w' => ∃ r : Int, 0 ≤ r ∧ e = .returned (.int .i64 r) ∧ Below base w w' ∧ But4 w w' g2 g3 g4 g5 := by
  have lt5 := (o5.lt g5 rfl).2
  have O2 := Lib.hid (o2.alloc (.cells #[.int .i64 st, .int .i64 it, .slice (some ⟨g2, 0, none⟩) ins.length ins.length, .slice (some ⟨g3, 0, none⟩) outs.length outs.length, .slice (some ⟨g4, 0, none⟩) hids.length hids.length, .slice (some ⟨g5, 0, none⟩) steps.length steps.length] 27))
  have O3 := Lib.hid (o3.alloc (.cells #[.int .i64 st, .int .i64 it, .slice (some ⟨g2, 0, none⟩) ins.length ins.length, .slice (some ⟨g3, 0, none⟩) outs.length outs.length, .slice (some ⟨g4, 0, none⟩) hids.length hids.length, .slice (some ⟨g5, 0, none⟩) steps.length steps.length] 27))
  have O4 := Lib.hid (o4.alloc (.cells #[.int .i64 st, .int .i64 it, .slice (some ⟨g2, 0, none⟩) ins.length ins.length, .slice (some ⟨g3, 0, none⟩) outs.length outs.length, .slice (some ⟨g4, 0, none⟩) hids.length hids.length, .slice (some ⟨g5, 0, none⟩) steps.length steps.length] 27))
  have O5 := Lib.hid (o5.alloc (.cells #[.int .i64 st, .int .i64 it, .slice (some ⟨g2, 0, none⟩) ins.length ins.length, .slice (some ⟨g3, 0, none⟩) outs.length outs.length, .slice (some ⟨g4, 0, none⟩) hids.length hids.length, .slice (some ⟨g5, 0, none⟩) steps.length steps.length] 27))
  have V0 := Lib.hid (VarIs.new w #[.int .i64 st, .int .i64 it, .slice (some ⟨g2, 0, none⟩) ins.length ins.length, .slice (some ⟨g3, 0, none⟩) outs.length outs.length, .slice (some ⟨g4, 0, none⟩) hids.length hids.length, .slice (some ⟨g5, 0, none⟩) steps.length steps.length] 27 rfl)
  have B0 : Hid (∀ o, Below base w (w.alloc o)) := fun o => (Below.refl _ _).alloc hbase _
  have K0 : Hid (∀ o k, k < w.heap.size → (w.alloc o).heap[k]? = w.heap[k]?) := fun o k hk => Below.heap_alloc w o k hk
  clear o2 o3 o4 o5
  go_enter Try.func23, Try.ntmps23
  go_wp2_with fail
  refine (mark_any _ ins.length base 1 ins _ O2.out (by omega) (by omega) (by omega)).mono ?_
  rintro e w1 ⟨rfl, _, hg0⟩
  have hg : World.grownBy _ w1 (some g2) := hg0
  clear hg0
  have V1 := Lib.hid (V0.out.other2 hg (by omega))
  have O3a := Lib.hid (owns_other O3.out hg (by omega))
  have O4a := Lib.hid (owns_other O4.out hg (by omega))
  have O5a := Lib.hid (ownsS_other O5.out hg (by omega))
  have K1 : Hid (∀ k, k < w.heap.size → k ≠ g2 → w1.heap[k]? = w.heap[k]?) := fun k hk h => (hg.block k (Nat.lt_of_lt_of_le hk (B0.out _).size) (fun e => h (Option.some.inj e))).trans (K0.out _ k hk)
  have B1 : Hid (Below base w w1) := (B0.out _).grown hg (Nat.le_trans hbase (B0.out _).size) (fun k h => by cases h; exact b2)
  clear hg
  have k1 := V1.out.cell (j := 3) rfl
  go_wp2_with fail
  clear k1
  refine (mark_any _ outs.length base _ outs _ O3a.out (by omega) (by omega) (by omega)).mono ?_
  rintro e w2 ⟨rfl, _, hg0⟩
  have hg : World.grownBy _ w2 (some g3) := hg0
  clear hg0
  have V2 := Lib.hid (V1.out.other2 hg (by omega))
  have O4b := Lib.hid (owns_other O4a.out hg (by omega))
  have O5b := Lib.hid (ownsS_other O5a.out hg (by omega))
  have K2 : Hid (∀ k, k < w.heap.size → k ≠ g2 → k ≠ g3 → w2.heap[k]? = w.heap[k]?) := fun k hk h2 h3 => (hg.block k (Nat.lt_of_lt_of_le hk B1.out.size) (fun e => h3 (Option.some.inj e))).trans (K1.out k hk h2)
  have B2 : Hid (Below base w w2) := B1.out.grown hg (Nat.le_trans hbase B1.out.size) (fun k h => by cases h; show base ≤ g3; omega)
  clear hg
  have k1 := V2.out.cell (j := 4) rfl
  go_wp2_with fail
  clear k1
  refine (mark_any _ hids.length base _ hids _ O4b.out (by omega) (by omega) (by omega)).mono ?_
  rintro e w3 ⟨rfl, _, hg0⟩
  have hg : World.grownBy _ w3 (some g4) := hg0
  clear hg0
  have V3 := Lib.hid (V2.out.other2 hg (by omega))
  have O5c := Lib.hid (ownsS_other O5b.out hg (by omega))
  have K3 : Hid (∀ k, k < w.heap.size → k ≠ g2 → k ≠ g3 → k ≠ g4 → w3.heap[k]? = w.heap[k]?) := fun k hk h2 h3 h4 => (hg.block k (Nat.lt_of_lt_of_le hk B2.out.size) (fun e => h4 (Option.some.inj e))).trans (K2.out k hk h2 h3)
  have B3 : Hid (Below base w w3) := B2.out.grown hg (Nat.le_trans hbase B2.out.size) (fun k h => by cases h; show base ≤ g4; omega)
  clear hg
  have k1 := V3.out.cell (j := 5) rfl
  go_wp2_with fail
  clear k1
  refine (markS_any _ steps.length base _ steps _ O5c.out (by omega) (by omega) (by omega)).mono ?_
  rintro e w4 ⟨rfl, _, hg0⟩
  have hg : World.grownBy _ w4 (some g5) := hg0
  clear hg0
  have K4 : Hid (∀ k, k < w.heap.size → k ≠ g2 → k ≠ g3 → k ≠ g4 → k ≠ g5 → w4.heap[k]? = w.heap[k]?) := fun k hk h2 h3 h4 h5 => (hg.block k (Nat.lt_of_lt_of_le hk B3.out.size) (fun e => h5 (Option.some.inj e))).trans (K3.out k hk h2 h3 h4)
  have B4 : Hid (Below base w w4) := B3.out.grown hg (Nat.le_trans hbase B3.out.size) (fun k h => by cases h; show base ≤ g5; omega)
  clear hg
  go_wp2_with fail
  go_ret
  exact ⟨_, by omega, rfl, B4.out, K4.out⟩

/-- A copy whose blocks are named. -/
theorem IaAt.parts {w : World} {base g2 g3 g4 g5 : Nat} {st it : Int} {ins outs hids : List Int} {steps : List St} (h : IaAt w base ⟨st, it, ins, outs, hids, steps⟩ (.agg #[.int .i64 st, .int .i64 it, .slice (some ⟨g2, 0, none⟩) ins.length ins.length, .slice (some ⟨g3, 0, none⟩) outs.length outs.length, .slice (some ⟨g4, 0, none⟩) hids.length hids.length, .slice (some ⟨g5, 0, none⟩) steps.length steps.length])) :
    base ≤ g2 ∧ g2 < g3 ∧ g3 < g4 ∧ g4 < g5 ∧ Owns w base (.slice (some ⟨g2, 0, none⟩) ins.length ins.length) ins.length ins ∧ Owns w base (.slice (some ⟨g3, 0, none⟩) outs.length outs.length) outs.length outs ∧ Owns w base (.slice (some ⟨g4, 0, none⟩) hids.length hids.length) hids.length hids ∧
    OwnsS 34 w base (.slice (some ⟨g5, 0, none⟩) steps.length steps.length) steps.length steps := by
  obtain ⟨k2, k3, k4, k5, e, l2, l3, l4, l5, o2, o3, o4, o5⟩ := h
  simp at e
  obtain ⟨rfl, rfl, rfl, rfl⟩ := e
  exact ⟨l2, l3, l4, l5, o2, o3, o4, o5⟩

end Go.Proofs.Ytnglogkkkpegnaa
