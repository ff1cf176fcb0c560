/-
  The contract of the program's IaOk: it answers as the model's condition on lists. Conditions: the automaton's lists have at most 2^20 elements.
-/
import Derived.Test.YtalanlmhfggheaaImplApart
import Derived.Test.YtalanlmhfggheaaImplSteps
namespace Go.Proofs.Ytalanlmhfggheaa
open Go.RowKit

theorem iaOk_parts (a : IaD) : iaOkB a = (decide (1 ≤ a.states) && (decide (a.states ≤ 40) && (btw a.init 0 (a.states - 1) && (apart3 a.ins a.outs a.hids && (decide (a.steps.length ≤ 400) && stepsB a a.steps))))) := by
  have h : apartB a = (decide ((meetOf a.ins a.outs).length = 0) && (decide ((meetOf a.ins a.hids).length = 0) && decide ((meetOf a.outs a.hids).length = 0))) := by
    unfold apartB
    by_cases h1 : (meetOf a.ins a.outs).length = 0
    · by_cases h2 : (meetOf a.ins a.hids).length = 0
      · by_cases h3 : (meetOf a.outs a.hids).length = 0
        · simp [h1, h2, h3]
        · simp [h3]
      · simp [h2]
    · simp [h1]
  unfold iaOkB setsB apart3 stateB btw
  rw [h]
  simp only [Bool.and_assoc]
  cases decide (1 ≤ a.states) <;> cases decide (a.states ≤ 40) <;> cases decide (0 ≤ a.init) <;> cases decide (a.init ≤ a.states - 1) <;> cases setOkB a.ins <;> cases setOkB a.outs <;> cases setOkB a.hids <;> cases decide (a.steps.length ≤ 400) <;> simp

set_option maxRecDepth 20000 in
set_option maxHeartbeats 3200000 in
theorem implIaOk_any (a : IaD) (v : Value) (w : World) (h : IaRow w a v) (f2 : a.ins.length ≤ 1048576) (f3 : a.outs.length ≤ 1048576) (f4 : a.hids.length ≤ 1048576) (f5 : a.steps.length ≤ 1048576) :
    Calls Try.prog 45 #[v] w fun e w' => e = .returned (.bool (iaOkB a)) ∧ Below w.heap.size w w' := by
  rw [iaOk_parts]
  obtain ⟨a2, n2, c2, a3, n3, c3, a4, n4, c4, a5, n5, c5, rfl, r2, r3, r4, r5⟩ := h
  obtain ⟨st, it, ins, outs, hids, steps⟩ := a
  simp only at r2 r3 r4 r5 f2 f3 f4 f5
  simp only
  have hl2 := r2.1
  have hl3 := r3.1
  have hl4 := r4.1
  have hl5 := r5.1
  rw [hl2] at f2
  rw [hl3] at f3
  rw [hl4] at f4
  rw [hl5] at f5
  rw [hl5]
  have R2 := Lib.hid r2
  have R3 := Lib.hid r3
  have R4 := Lib.hid r4
  have R5 := Lib.hid r5
  clear r2 r3 r4 r5 hl2 hl3 hl4 hl5
  obtain ⟨q2, hq2⟩ : ∃ q, q = btw it 0 (st - 1) := ⟨_, rfl⟩
  obtain ⟨q3, hq3⟩ : ∃ q, q = apart3 ins outs hids := ⟨_, rfl⟩
  obtain ⟨q4, hq4⟩ : ∃ q, q = (decide (n5 ≤ 400) && stepsB ⟨st, it, ins, outs, hids, steps⟩ steps) := ⟨_, rfl⟩
  rw [← hq2, ← hq3, ← hq4]
  obtain ⟨r, hr⟩ : ∃ r, r = (decide (1 ≤ st) && (decide (st ≤ 40) && (q2 && (q3 && q4)))) := ⟨_, rfl⟩
  rw [← hr]
  have HR := Lib.hid hr
  have C1 : Hid (∀ W, Below w.heap.size w W → Calls Try.prog 63 #[.agg #[.int .i64 st, .int .i64 it, .slice a2 n2 c2, .slice a3 n3 c3, .slice a4 n4 c4, .slice a5 n5 c5], .int .i64 it] W fun e w' => e = .returned (.bool q2) ∧ Below W.heap.size W w') := fun W hW => by rw [hq2]; exact isState_any st it it _ _ _ _ W
  have C2 : Hid (∀ W, Below w.heap.size w W → Calls Try.prog 64 #[.slice a2 n2 c2, .slice a3 n3 c3, .slice a4 n4 c4] W fun e w' => e = .returned (.bool q3) ∧ Below W.heap.size W w') := fun W hW => by rw [hq3]; exact setsApart_any a2 n2 c2 a3 n3 c3 a4 n4 c4 ins outs hids W (R2.out.below hW) (R3.out.below hW) (R4.out.below hW) f2 f3 f4
  have C3 : Hid (∀ W, Below w.heap.size w W → Calls Try.prog 65 #[.agg #[.int .i64 st, .int .i64 it, .slice a2 n2 c2, .slice a3 n3 c3, .slice a4 n4 c4, .slice a5 n5 c5]] W fun e w' => e = .returned (.bool q4) ∧ Below W.heap.size W w') := fun W hW => by rw [hq4]; exact stepsOk_any st it a2 n2 c2 a3 n3 c3 a4 n4 c4 a5 n5 c5 ins outs hids steps W (R2.out.below hW) (R3.out.below hW) (R4.out.below hW) (R5.out.below hW) f2 f3 f4 f5
  clear hr hq2 hq3 hq4
  have V0 := Lib.hid (VarIs.new w #[.int .i64 st, .int .i64 it, .slice a2 n2 c2, .slice a3 n3 c3, .slice a4 n4 c4, .slice a5 n5 c5] 30 rfl)
  have B0 : Hid (∀ o, Below w.heap.size w (w.alloc o)) := fun o => (Below.refl _ _).alloc (Nat.le_refl _) _
  by_cases h1 : 1 ≤ st
  · have k1 : decide ((1 : Int) ≤ st) = true := by simp [h1]
    by_cases h2 : st ≤ 40
    · have k2 : decide (st ≤ (40 : Int)) = true := by simp [h2]
      have HR2 : Hid (r = (q2 && (q3 && q4))) := by
        have := HR.out
        rwa [k1, k2, Bool.true_and, Bool.true_and] at this
      clear HR
      go_enter Try.func45, Try.ntmps45
      go_wp2_with fail
      refine (C1.out _ (B0.out _)).mono ?_
      rintro e w1 ⟨rfl, hb⟩
      have V1 := Lib.hid (V0.out.below hb)
      have B1 : Hid (Below w.heap.size w w1) := (B0.out _).trans (hb.mono (B0.out _).size)
      clear hb
      cases q2 with
      | false =>
        go_wp2_with fail
        go_ret
        exact ⟨ret_bool (by rw [HR2.out]; rfl), B1.out⟩
      | true =>
        have m2 := V1.out.cell (j := 2) rfl
        have m3 := V1.out.cell (j := 3) rfl
        have m4 := V1.out.cell (j := 4) rfl
        go_wp2_with fail
        clear m2 m3 m4
        refine (C2.out _ B1.out).mono ?_
        rintro e w2 ⟨rfl, hb⟩
        have V2 := Lib.hid (V1.out.below hb)
        have B2 : Hid (Below w.heap.size w w2) := B1.out.trans (hb.mono B1.out.size)
        clear hb
        cases q3 with
        | false =>
          go_wp2_with fail
          go_ret
          exact ⟨ret_bool (by rw [HR2.out]; rfl), B2.out⟩
        | true =>
          have m0 := V2.out.cell (j := 0) rfl
          have m1 := V2.out.cell (j := 1) rfl
          have m2 := V2.out.cell (j := 2) rfl
          have m3 := V2.out.cell (j := 3) rfl
          have m4 := V2.out.cell (j := 4) rfl
          have m5 := V2.out.cell (j := 5) rfl
          go_wp2_with fail
          clear m0 m1 m2 m3 m4 m5
          refine (C3.out _ B2.out).mono ?_
          rintro e w3 ⟨rfl, hb⟩
          have B3 : Hid (Below w.heap.size w w3) := B2.out.trans (hb.mono B2.out.size)
          clear hb
          go_wp2_with fail
          go_ret
          exact ⟨ret_bool (by rw [HR2.out]; rfl), B3.out⟩
    · have k2 : decide (st ≤ (40 : Int)) = false := by simp; omega
      have HR2 : Hid (r = false) := by
        have := HR.out
        rwa [k1, k2, Bool.false_and, Bool.and_false] at this
      clear HR
      go_enter Try.func45, Try.ntmps45
      go_wp2_with fail
      go_ret
      exact ⟨ret_bool HR2.out.symm, B0.out _⟩
  · have k1 : decide ((1 : Int) ≤ st) = false := by simp; omega
    have HR2 : Hid (r = false) := by
      have := HR.out
      rwa [k1, Bool.false_and] at this
    clear HR
    go_enter Try.func45, Try.ntmps45
    go_wp2_with fail
    go_ret
    exact ⟨ret_bool HR2.out.symm, B0.out _⟩

end Go.Proofs.Ytalanlmhfggheaa
