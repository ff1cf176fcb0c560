/-
  The contract of the program's rowOf: the steps from a state, in their order. Conditions: the automaton's lists have at most 2^20 elements.
-/
import Derived.Test.YtfhfmblghihinabImplIaOk
import Derived.Test.YtfhfmblghihinabRowsOf
import Derived.Test.YtfhfmblghihinabIaRise
namespace Go.Proofs.Ytfhfmblghihinab
open Go.RowKit

/-- One row out of the array, by value. -/
theorem index_rows (C : Array Value) (j : Nat) (hj : j < 40) (v : Value) (h : C[j]? = some v) (w : World) : (Instr.index 78 (.agg C) (.int .i64 (j : Int))).run Try.prog w = .ok v w := by
  simp [Instr.index, run_underlying Try.underlying78, asIntOf, go_sem, part, h]
  intro h40
  omega

/-- What rowOf answers. -/
def rowIf (a : IaD) (s : Int) : List St := if iaOkB a then rowL a.steps s else []

set_option maxRecDepth 20000 in
set_option maxHeartbeats 3200000 in
theorem rowOf_any (a : IaD) (v : Value) (s : Int) (w : World) (h : IaRow w a v) (f2 : a.ins.length ≤ 1048576) (f3 : a.outs.length ≤ 1048576) (f4 : a.hids.length ≤ 1048576) (f5 : a.steps.length ≤ 1048576) :
    Calls Try.prog 54 #[v, .int .i64 s] w fun e w' => ∃ ad c, e = .returned (.slice ad (rowIf a s).length c) ∧ RowS w' ad (rowIf a s).length (rowIf a s) ∧ Below w.heap.size w w' := by
  have CO : Hid (∀ W, Below w.heap.size w W → Calls Try.prog 48 #[v] W fun e w' => e = .returned (.bool (iaOkB a)) ∧ Below W.heap.size W w') := fun W hW => implIaOk_any a v W (h.below hW) f2 f3 f4 f5
  obtain ⟨row, hrow⟩ : ∃ r, r = rowIf a s := ⟨_, rfl⟩
  obtain ⟨m, hm⟩ : ∃ m, m = row.length := ⟨_, rfl⟩
  rw [← hrow, ← hm]
  obtain ⟨q, hq⟩ : ∃ q, q = iaOkB a := ⟨_, rfl⟩
  obtain ⟨q2, hq2⟩ : ∃ q, q = stateB a s := ⟨_, rfl⟩
  rw [← hq] at CO
  have HROW := Lib.hid hrow
  have HM := Lib.hid hm
  have HQ := Lib.hid hq
  have HQ2 := Lib.hid hq2
  have HN1 : Hid (q = false → row = []) := fun e => by rw [hrow, rowIf, ← hq, e]; rfl
  have HN2 : Hid (q = true → q2 = false → row = []) := fun e e2 => by
    rw [hrow, rowIf, ← hq, e]
    exact rowL_none (by rw [← hq]; exact e) (by rw [← hq2]; exact e2)
  clear hrow hm hq hq2
  obtain ⟨a2, n2, c2, a3, n3, c3, a4, n4, c4, a5, n5, c5, rfl, r2, r3, r4, r5⟩ := h
  obtain ⟨st, it, ins, outs, hids, steps⟩ := a
  simp only at r2 r3 r4 r5 f2 f3 f4 f5
  have R5 := Lib.hid r5
  clear r2 r3 r4 r5 f2 f3 f4 f5
  have CS : Hid (∀ W v2 v3 v4 v5, Calls Try.prog 49 #[.agg #[.int .i64 st, .int .i64 it, v2, v3, v4, v5], .int .i64 s] W fun e w' => e = .returned (.bool q2) ∧ Below W.heap.size W w') := fun W v2 v3 v4 v5 => by rw [HQ2.out]; exact isState_any st it s v2 v3 v4 v5 W
  have V0 := Lib.hid (VarIs.new w #[.int .i64 st, .int .i64 it, .slice a2 n2 c2, .slice a3 n3 c3, .slice a4 n4 c4, .slice a5 n5 c5] 30 rfl)
  have B0 : Hid (∀ o, Below w.heap.size w (w.alloc o)) := fun o => (Below.refl _ _).alloc (Nat.le_refl _) _
  go_enter Try.func54, Try.ntmps54
  go_wp2_with fail
  refine (CO.out _ (B0.out _)).mono ?_
  rintro e w1 ⟨rfl, hb⟩
  have B1 : Hid (Below w.heap.size w w1) := (B0.out _).trans (hb.mono (B0.out _).size)
  have V1 := Lib.hid (V0.out.below hb)
  clear hb V0
  cases q with
  | false =>
    go_wp2_with fail
    go_ret
    obtain rfl : row = [] := HN1.out (by simp)
    obtain rfl : m = 0 := HM.out
    exact ⟨_, _, rfl, ⟨rfl, fun h => absurd h (by omega)⟩, B1.out⟩
  | true =>
    have m0 := V1.out.cell (j := 0) rfl
    have m1 := V1.out.cell (j := 1) rfl
    have m2 := V1.out.cell (j := 2) rfl
    have m3 := V1.out.cell (j := 3) rfl
    have m4 := V1.out.cell (j := 4) rfl
    have m5 := V1.out.cell (j := 5) rfl
    go_wp2_with fail
    clear m0 m1 m2 m3 m4 m5
    refine (CS.out _ _ _ _ _).mono ?_
    rintro e w2 ⟨rfl, hb⟩
    have B2 : Hid (Below w.heap.size w w2) := B1.out.trans (hb.mono B1.out.size)
    have V2 := Lib.hid (V1.out.below hb)
    clear hb V1
    cases q2 with
    | false =>
      go_wp2_with fail
      go_ret
      obtain rfl : row = [] := HN2.out (by simp) (by simp)
      obtain rfl : m = 0 := HM.out
      exact ⟨_, _, rfl, ⟨rfl, fun h => absurd h (by omega)⟩, B2.out⟩
    | true =>
      have hst := iaOk_states HQ.out.symm
      have hs0 : 0 ≤ s ∧ s ≤ st - 1 := by
        have := HQ2.out.symm
        simpa [stateB, btw] using this
      simp only at hst
      obtain ⟨j, rfl⟩ : ∃ j : Nat, s = (j : Int) := ⟨s.toNat, by omega⟩
      have hj : j < 40 := by omega
      have hj' : (j : Int) < 40 := by omega
      have HLEN := Lib.hid (iaOk_len HQ.out.symm)
      have HLOW := Lib.hid (iaOk_low HQ.out.symm)
      have m0 := V2.out.cell (j := 0) rfl
      have m1 := V2.out.cell (j := 1) rfl
      have m2 := V2.out.cell (j := 2) rfl
      have m3 := V2.out.cell (j := 3) rfl
      have m4 := V2.out.cell (j := 4) rfl
      have m5 := V2.out.cell (j := 5) rfl
      go_wp2_with fail
      clear m0 m1 m2 m3 m4 m5
      refine (rowsOf_any st it _ _ _ a5 n5 c5 steps _ (R5.out.below B2.out) (by have h1 := HLEN.out; have h2 := R5.out.1; rw [← h2]; exact h1) HLOW.out).mono ?_
      rintro e w3 ⟨C, rfl, hC, hb⟩
      have B3 : Hid (Below w.heap.size w w3) := B2.out.trans (hb.mono B2.out.size)
      obtain ⟨ar, cr, hCs, hor⟩ := hC.2.1 j hj
      have hrr : rowL steps (j : Int) = row := by rw [HROW.out, rowIf, ← HQ.out]; rfl
      rw [hrr, ← HM.out] at hCs hor
      have OR := Lib.hid hor
      have hsz := hC.1
      clear hb hC hor V2
      have hix : ∀ W, (Instr.index 78 (.agg C) (.int .i64 (j : Int))).run Try.prog W = .ok (.slice ar m cr) W := index_rows C j hj _ hCs
      go_wp2_with fail
      go_ret
      exact ⟨_, _, rfl, by rw [HM.out]; have := OR.out.row.2.2.2; rw [HM.out] at this; exact this, B3.out⟩

end Go.Proofs.Ytfhfmblghihinab
