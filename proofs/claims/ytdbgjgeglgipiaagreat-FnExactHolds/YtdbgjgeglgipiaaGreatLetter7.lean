/-
  Contracts of Letters, of the program and of the model. Conditions: the automata's lists have at most 2^20 elements.
-/
import Derived.Test.YtdbgjgeglgipiaaGreatTwo
import Derived.Test.YtdbgjgeglgipiaaGreatImplStep
import Derived.Test.YtdbgjgeglgipiaaGreatRisen
namespace Go.Proofs.YtdbgjgeglgipiaaGreat
open Go.RowKit

/-- May the first stand in the place of the second, by its letters? -/
def lettersB (a b : IaD) : Bool := iaOkB a && iaOkB b && inB b.ins a.ins && inB a.outs b.outs

set_option maxRecDepth 20000 in
set_option maxHeartbeats 3200000 in
theorem implLetters_any (a b : IaD) (v u : Value) (w : World) (h : IaRow w a v) (k : IaRow w b u) (fa : Small a) (fb : Small b) :
    Calls Tryz.prog 34 #[v, u] w fun e w' => e = .returned (.bool (lettersB a b)) ∧ Below w.heap.size w w' := by
  have CO : Hid (∀ W, Below w.heap.size w W → Calls Tryz.prog 69 #[v] W fun e w' => e = .returned (.bool (iaOkB a)) ∧ Below W.heap.size W w') := fun W hW => implIaOk_any a v W (h.below hW) fa.1 fa.2.1 fa.2.2.1 fa.2.2.2
  have CP : Hid (∀ W, Below w.heap.size w W → Calls Tryz.prog 69 #[u] W fun e w' => e = .returned (.bool (iaOkB b)) ∧ Below W.heap.size W w') := fun W hW => implIaOk_any b u W (k.below hW) fb.1 fb.2.1 fb.2.2.1 fb.2.2.2
  obtain ⟨q1, hq1⟩ : ∃ q, q = iaOkB a := ⟨_, rfl⟩
  obtain ⟨q2, hq2⟩ : ∃ q, q = iaOkB b := ⟨_, rfl⟩
  obtain ⟨q3, hq3⟩ : ∃ q, q = inB b.ins a.ins := ⟨_, rfl⟩
  obtain ⟨q4, hq4⟩ : ∃ q, q = inB a.outs b.outs := ⟨_, rfl⟩
  obtain ⟨r, hr⟩ : ∃ r, r = lettersB a b := ⟨_, rfl⟩
  rw [← hr]
  have HR : Hid (r = (q1 && q2 && q3 && q4)) := by
    unfold Hid
    rw [hr, hq1, hq2, hq3, hq4]
    rfl
  rw [← hq1] at CO
  rw [← hq2] at CP
  clear hq1 hq2 hr
  obtain ⟨a2, n2, c2, a3, n3, c3, a4, n4, c4, a5, n5, c5, rfl, r2, r3, r4, r5⟩ := h
  obtain ⟨b2, m2, d2, b3, m3, d3, b4, m4, d4, b5, m5, d5, rfl, q2, q3, q4, q5⟩ := k
  obtain ⟨st, it, ins, outs, hids, steps⟩ := a
  obtain ⟨su, iu, jns, juts, jids, jteps⟩ := b
  obtain ⟨f2, f3, f4, f5⟩ := fa
  obtain ⟨g2, g3, g4, g5⟩ := fb
  simp only at r2 r3 r4 r5 q2 q3 q4 q5 f2 f3 f4 f5 g2 g3 g4 g5
  have HA : Hid (∀ W, Below w.heap.size w W → IaRow W ⟨st, it, ins, outs, hids, steps⟩ (.agg #[.int .i64 st, .int .i64 it, .slice a2 n2 c2, .slice a3 n3 c3, .slice a4 n4 c4, .slice a5 n5 c5])) := fun W hW => IaRow.below ⟨a2, n2, c2, a3, n3, c3, a4, n4, c4, a5, n5, c5, rfl, r2, r3, r4, r5⟩ hW
  have HB : Hid (∀ W, Below w.heap.size w W → IaRow W ⟨su, iu, jns, juts, jids, jteps⟩ (.agg #[.int .i64 su, .int .i64 iu, .slice b2 m2 d2, .slice b3 m3 d3, .slice b4 m4 d4, .slice b5 m5 d5])) := fun W hW => IaRow.below ⟨b2, m2, d2, b3, m3, d3, b4, m4, d4, b5, m5, d5, rfl, q2, q3, q4, q5⟩ hW
  have S0 := Lib.hid (Box2.start w (iaC st it a2 n2 c2 a3 n3 c3 a4 n4 c4 a5 n5 c5) (iaC su iu b2 m2 d2 b3 m3 d3 b4 m4 d4 b5 m5 d5) 31)
  have e2 := r2.1
  have e3 := r3.1
  have e4 := r4.1
  have k2 := q2.1
  have k3 := q3.1
  have k4 := q4.1
  rw [e2] at f2
  rw [e3] at f3
  rw [e4] at f4
  rw [k2] at g2
  rw [k3] at g3
  rw [k4] at g4
  have R2 := Lib.hid r2
  have R3 := Lib.hid r3
  have R4 := Lib.hid r4
  have R5 := Lib.hid r5
  have Q2 := Lib.hid q2
  have Q3 := Lib.hid q3
  have Q4 := Lib.hid q4
  have Q5 := Lib.hid q5
  clear r2 r3 r4 r5 q2 q3 q4 q5
  simp only at hq3 hq4
  have CI : Hid (∀ W, Below w.heap.size w W → Calls Tryz.prog 70 #[.slice b2 m2 d2, .slice a2 n2 c2] W fun e w' => e = .returned (.bool (inB jns ins)) ∧ Below W.heap.size W w') := fun W hW =>
    (implSetIn_any b2 a2 m2 d2 n2 c2 jns ins W (Q2.out.below hW) (R2.out.below hW) (by omega) (by omega)).mono fun e w' h => ⟨h.1, h.2⟩
  have CU : Hid (∀ W, Below w.heap.size w W → Calls Tryz.prog 70 #[.slice a3 n3 c3, .slice b3 m3 d3] W fun e w' => e = .returned (.bool (inB outs juts)) ∧ Below W.heap.size W w') := fun W hW =>
    (implSetIn_any a3 b3 n3 c3 m3 d3 outs juts W (R3.out.below hW) (Q3.out.below hW) (by omega) (by omega)).mono fun e w' h => ⟨h.1, h.2⟩
  rw [← hq3] at CI
  rw [← hq4] at CU
  clear HA HB hq3 hq4 R2 R3 R4 R5 Q2 Q3 Q4 Q5 f2 f3 f4 f5 g2 g3 g4 g5 e2 e3 e4 k2 k3 k4
  have ca0 := S0.out.2.1.cell (j := 0) (u := .int .i64 st) rfl
  have ca1 := S0.out.2.1.cell (j := 1) (u := .int .i64 it) rfl
  have ca2 := S0.out.2.1.cell (j := 2) (u := .slice a2 n2 c2) rfl
  have ca3 := S0.out.2.1.cell (j := 3) (u := .slice a3 n3 c3) rfl
  have ca4 := S0.out.2.1.cell (j := 4) (u := .slice a4 n4 c4) rfl
  have ca5 := S0.out.2.1.cell (j := 5) (u := .slice a5 n5 c5) rfl
  go_enter Tryz.func34, Tryz.ntmps34
  go_wp2_with fail
  clear ca0 ca1 ca2 ca3 ca4 ca5
  refine (CO.out _ S0.out.1).mono ?_
  rintro e w1 ⟨rfl, hb⟩
  have S1 := Lib.hid (S0.out.below hb)
  clear hb S0
  cases q1 with
  | false =>
    go_wp2_with fail
    go_ret
    exact ⟨ret_bool (by rw [HR.out]; rfl), S1.out.1⟩
  | true =>
    have cb0 := S1.out.2.2.cell (j := 0) (u := .int .i64 su) rfl
    have cb1 := S1.out.2.2.cell (j := 1) (u := .int .i64 iu) rfl
    have cb2 := S1.out.2.2.cell (j := 2) (u := .slice b2 m2 d2) rfl
    have cb3 := S1.out.2.2.cell (j := 3) (u := .slice b3 m3 d3) rfl
    have cb4 := S1.out.2.2.cell (j := 4) (u := .slice b4 m4 d4) rfl
    have cb5 := S1.out.2.2.cell (j := 5) (u := .slice b5 m5 d5) rfl
    go_wp2_with fail
    clear cb0 cb1 cb2 cb3 cb4 cb5
    refine (CP.out _ S1.out.1).mono ?_
    rintro e w2 ⟨rfl, hb⟩
    have S2 := Lib.hid (S1.out.below hb)
    clear hb S1
    cases q2 with
    | false =>
      go_wp2_with fail
      go_ret
      exact ⟨ret_bool (by rw [HR.out]; rfl), S2.out.1⟩
    | true =>
      have ca0 := S2.out.2.1.cell (j := 0) (u := .int .i64 st) rfl
      have ca1 := S2.out.2.1.cell (j := 1) (u := .int .i64 it) rfl
      have ca2 := S2.out.2.1.cell (j := 2) (u := .slice a2 n2 c2) rfl
      have ca3 := S2.out.2.1.cell (j := 3) (u := .slice a3 n3 c3) rfl
      have ca4 := S2.out.2.1.cell (j := 4) (u := .slice a4 n4 c4) rfl
      have ca5 := S2.out.2.1.cell (j := 5) (u := .slice a5 n5 c5) rfl
      have cb0 := S2.out.2.2.cell (j := 0) (u := .int .i64 su) rfl
      have cb1 := S2.out.2.2.cell (j := 1) (u := .int .i64 iu) rfl
      have cb2 := S2.out.2.2.cell (j := 2) (u := .slice b2 m2 d2) rfl
      have cb3 := S2.out.2.2.cell (j := 3) (u := .slice b3 m3 d3) rfl
      have cb4 := S2.out.2.2.cell (j := 4) (u := .slice b4 m4 d4) rfl
      have cb5 := S2.out.2.2.cell (j := 5) (u := .slice b5 m5 d5) rfl
      go_wp2_with fail
      clear ca0 ca1 ca2 ca3 ca4 ca5 cb0 cb1 cb2 cb3 cb4 cb5
      refine (CI.out _ S2.out.1).mono ?_
      rintro e w3 ⟨rfl, hb⟩
      have S3 := Lib.hid (S2.out.below hb)
      clear hb S2
      cases q3 with
      | false =>
        go_wp2_with fail
        go_ret
        exact ⟨ret_bool (by rw [HR.out]; rfl), S3.out.1⟩
      | true =>
        have ca0 := S3.out.2.1.cell (j := 0) (u := .int .i64 st) rfl
        have ca1 := S3.out.2.1.cell (j := 1) (u := .int .i64 it) rfl
        have ca2 := S3.out.2.1.cell (j := 2) (u := .slice a2 n2 c2) rfl
        have ca3 := S3.out.2.1.cell (j := 3) (u := .slice a3 n3 c3) rfl
        have ca4 := S3.out.2.1.cell (j := 4) (u := .slice a4 n4 c4) rfl
        have ca5 := S3.out.2.1.cell (j := 5) (u := .slice a5 n5 c5) rfl
        have cb0 := S3.out.2.2.cell (j := 0) (u := .int .i64 su) rfl
        have cb1 := S3.out.2.2.cell (j := 1) (u := .int .i64 iu) rfl
        have cb2 := S3.out.2.2.cell (j := 2) (u := .slice b2 m2 d2) rfl
        have cb3 := S3.out.2.2.cell (j := 3) (u := .slice b3 m3 d3) rfl
        have cb4 := S3.out.2.2.cell (j := 4) (u := .slice b4 m4 d4) rfl
        have cb5 := S3.out.2.2.cell (j := 5) (u := .slice b5 m5 d5) rfl
        go_wp2_with fail
        clear ca0 ca1 ca2 ca3 ca4 ca5 cb0 cb1 cb2 cb3 cb4 cb5
        refine (CU.out _ S3.out.1).mono ?_
        rintro e w4 ⟨rfl, hb⟩
        have S4 := Lib.hid (S3.out.below hb)
        clear hb S3
        have HR2 : Hid (r = q4) := by
          have := HR.out
          simpa [Hid] using this
        go_wp2_with fail
        go_ret
        exact ⟨ret_bool HR2.out.symm, S4.out.1⟩

set_option maxRecDepth 20000 in
set_option maxHeartbeats 3200000 in
theorem specLetters_any (a b : IaD) (v u : Value) (w : World) (h : IaRow w a v) (k : IaRow w b u) (fa : Small a) (fb : Small b) :
    Calls Tryz.prog 30 #[v, u] w fun e w' => e = .returned (.bool (lettersB a b)) ∧ Below w.heap.size w w' := by
  have CO : Hid (∀ W, Below w.heap.size w W → Calls Tryz.prog 63 #[v] W fun e w' => e = .returned (.bool (iaOkB a)) ∧ Below W.heap.size W w') := fun W hW => specIaOk_any a v W (h.below hW) fa.1 fa.2.1 fa.2.2.1 fa.2.2.2
  have CP : Hid (∀ W, Below w.heap.size w W → Calls Tryz.prog 63 #[u] W fun e w' => e = .returned (.bool (iaOkB b)) ∧ Below W.heap.size W w') := fun W hW => specIaOk_any b u W (k.below hW) fb.1 fb.2.1 fb.2.2.1 fb.2.2.2
  obtain ⟨q1, hq1⟩ : ∃ q, q = iaOkB a := ⟨_, rfl⟩
  obtain ⟨q2, hq2⟩ : ∃ q, q = iaOkB b := ⟨_, rfl⟩
  obtain ⟨q3, hq3⟩ : ∃ q, q = inB b.ins a.ins := ⟨_, rfl⟩
  obtain ⟨q4, hq4⟩ : ∃ q, q = inB a.outs b.outs := ⟨_, rfl⟩
  obtain ⟨r, hr⟩ : ∃ r, r = lettersB a b := ⟨_, rfl⟩
  rw [← hr]
  have HR : Hid (r = (q1 && q2 && q3 && q4)) := by
    unfold Hid
    rw [hr, hq1, hq2, hq3, hq4]
    rfl
  rw [← hq1] at CO
  rw [← hq2] at CP
  clear hq1 hq2 hr
  obtain ⟨a2, n2, c2, a3, n3, c3, a4, n4, c4, a5, n5, c5, rfl, r2, r3, r4, r5⟩ := h
  obtain ⟨b2, m2, d2, b3, m3, d3, b4, m4, d4, b5, m5, d5, rfl, q2, q3, q4, q5⟩ := k
  obtain ⟨st, it, ins, outs, hids, steps⟩ := a
  obtain ⟨su, iu, jns, juts, jids, jteps⟩ := b
  obtain ⟨f2, f3, f4, f5⟩ := fa
  obtain ⟨g2, g3, g4, g5⟩ := fb
  simp only at r2 r3 r4 r5 q2 q3 q4 q5 f2 f3 f4 f5 g2 g3 g4 g5
  have HA : Hid (∀ W, Below w.heap.size w W → IaRow W ⟨st, it, ins, outs, hids, steps⟩ (.agg #[.int .i64 st, .int .i64 it, .slice a2 n2 c2, .slice a3 n3 c3, .slice a4 n4 c4, .slice a5 n5 c5])) := fun W hW => IaRow.below ⟨a2, n2, c2, a3, n3, c3, a4, n4, c4, a5, n5, c5, rfl, r2, r3, r4, r5⟩ hW
  have HB : Hid (∀ W, Below w.heap.size w W → IaRow W ⟨su, iu, jns, juts, jids, jteps⟩ (.agg #[.int .i64 su, .int .i64 iu, .slice b2 m2 d2, .slice b3 m3 d3, .slice b4 m4 d4, .slice b5 m5 d5])) := fun W hW => IaRow.below ⟨b2, m2, d2, b3, m3, d3, b4, m4, d4, b5, m5, d5, rfl, q2, q3, q4, q5⟩ hW
  have S0 := Lib.hid (Box2.start w (iaC st it a2 n2 c2 a3 n3 c3 a4 n4 c4 a5 n5 c5) (iaC su iu b2 m2 d2 b3 m3 d3 b4 m4 d4 b5 m5 d5) 31)
  have e2 := r2.1
  have e3 := r3.1
  have e4 := r4.1
  have k2 := q2.1
  have k3 := q3.1
  have k4 := q4.1
  rw [e2] at f2
  rw [e3] at f3
  rw [e4] at f4
  rw [k2] at g2
  rw [k3] at g3
  rw [k4] at g4
  have R2 := Lib.hid r2
  have R3 := Lib.hid r3
  have R4 := Lib.hid r4
  have R5 := Lib.hid r5
  have Q2 := Lib.hid q2
  have Q3 := Lib.hid q3
  have Q4 := Lib.hid q4
  have Q5 := Lib.hid q5
  clear r2 r3 r4 r5 q2 q3 q4 q5
  simp only at hq3 hq4
  have CI : Hid (∀ W, Below w.heap.size w W → Calls Tryz.prog 48 #[.slice b2 m2 d2, .slice a2 n2 c2] W fun e w' => e = .returned (.bool (inB jns ins)) ∧ Below W.heap.size W w') := fun W hW =>
    (specSetIn_any b2 a2 m2 d2 n2 c2 jns ins W (Q2.out.below hW) (R2.out.below hW) (by omega) (by omega)).mono fun e w' h => ⟨h.1, by rw [h.2]; exact Below.refl _ _⟩
  have CU : Hid (∀ W, Below w.heap.size w W → Calls Tryz.prog 48 #[.slice a3 n3 c3, .slice b3 m3 d3] W fun e w' => e = .returned (.bool (inB outs juts)) ∧ Below W.heap.size W w') := fun W hW =>
    (specSetIn_any a3 b3 n3 c3 m3 d3 outs juts W (R3.out.below hW) (Q3.out.below hW) (by omega) (by omega)).mono fun e w' h => ⟨h.1, by rw [h.2]; exact Below.refl _ _⟩
  rw [← hq3] at CI
  rw [← hq4] at CU
  clear HA HB hq3 hq4 R2 R3 R4 R5 Q2 Q3 Q4 Q5 f2 f3 f4 f5 g2 g3 g4 g5 e2 e3 e4 k2 k3 k4
  have ca0 := S0.out.2.1.cell (j := 0) (u := .int .i64 st) rfl
  have ca1 := S0.out.2.1.cell (j := 1) (u := .int .i64 it) rfl
  have ca2 := S0.out.2.1.cell (j := 2) (u := .slice a2 n2 c2) rfl
  have ca3 := S0.out.2.1.cell (j := 3) (u := .slice a3 n3 c3) rfl
  have ca4 := S0.out.2.1.cell (j := 4) (u := .slice a4 n4 c4) rfl
  have ca5 := S0.out.2.1.cell (j := 5) (u := .slice a5 n5 c5) rfl
  go_enter Tryz.func30, Tryz.ntmps30
  go_wp2_with fail
  clear ca0 ca1 ca2 ca3 ca4 ca5
  refine (CO.out _ S0.out.1).mono ?_
  rintro e w1 ⟨rfl, hb⟩
  have S1 := Lib.hid (S0.out.below hb)
  clear hb S0
  cases q1 with
  | false =>
    go_wp2_with fail
    go_ret
    exact ⟨ret_bool (by rw [HR.out]; rfl), S1.out.1⟩
  | true =>
    have cb0 := S1.out.2.2.cell (j := 0) (u := .int .i64 su) rfl
    have cb1 := S1.out.2.2.cell (j := 1) (u := .int .i64 iu) rfl
    have cb2 := S1.out.2.2.cell (j := 2) (u := .slice b2 m2 d2) rfl
    have cb3 := S1.out.2.2.cell (j := 3) (u := .slice b3 m3 d3) rfl
    have cb4 := S1.out.2.2.cell (j := 4) (u := .slice b4 m4 d4) rfl
    have cb5 := S1.out.2.2.cell (j := 5) (u := .slice b5 m5 d5) rfl
    go_wp2_with fail
    clear cb0 cb1 cb2 cb3 cb4 cb5
    refine (CP.out _ S1.out.1).mono ?_
    rintro e w2 ⟨rfl, hb⟩
    have S2 := Lib.hid (S1.out.below hb)
    clear hb S1
    cases q2 with
    | false =>
      go_wp2_with fail
      go_ret
      exact ⟨ret_bool (by rw [HR.out]; rfl), S2.out.1⟩
    | true =>
      have ca0 := S2.out.2.1.cell (j := 0) (u := .int .i64 st) rfl
      have ca1 := S2.out.2.1.cell (j := 1) (u := .int .i64 it) rfl
      have ca2 := S2.out.2.1.cell (j := 2) (u := .slice a2 n2 c2) rfl
      have ca3 := S2.out.2.1.cell (j := 3) (u := .slice a3 n3 c3) rfl
      have ca4 := S2.out.2.1.cell (j := 4) (u := .slice a4 n4 c4) rfl
      have ca5 := S2.out.2.1.cell (j := 5) (u := .slice a5 n5 c5) rfl
      have cb0 := S2.out.2.2.cell (j := 0) (u := .int .i64 su) rfl
      have cb1 := S2.out.2.2.cell (j := 1) (u := .int .i64 iu) rfl
      have cb2 := S2.out.2.2.cell (j := 2) (u := .slice b2 m2 d2) rfl
      have cb3 := S2.out.2.2.cell (j := 3) (u := .slice b3 m3 d3) rfl
      have cb4 := S2.out.2.2.cell (j := 4) (u := .slice b4 m4 d4) rfl
      have cb5 := S2.out.2.2.cell (j := 5) (u := .slice b5 m5 d5) rfl
      go_wp2_with fail
      clear ca0 ca1 ca2 ca3 ca4 ca5 cb0 cb1 cb2 cb3 cb4 cb5
      refine (CI.out _ S2.out.1).mono ?_
      rintro e w3 ⟨rfl, hb⟩
      have S3 := Lib.hid (S2.out.below hb)
      clear hb S2
      cases q3 with
      | false =>
        go_wp2_with fail
        go_ret
        exact ⟨ret_bool (by rw [HR.out]; rfl), S3.out.1⟩
      | true =>
        have ca0 := S3.out.2.1.cell (j := 0) (u := .int .i64 st) rfl
        have ca1 := S3.out.2.1.cell (j := 1) (u := .int .i64 it) rfl
        have ca2 := S3.out.2.1.cell (j := 2) (u := .slice a2 n2 c2) rfl
        have ca3 := S3.out.2.1.cell (j := 3) (u := .slice a3 n3 c3) rfl
        have ca4 := S3.out.2.1.cell (j := 4) (u := .slice a4 n4 c4) rfl
        have ca5 := S3.out.2.1.cell (j := 5) (u := .slice a5 n5 c5) rfl
        have cb0 := S3.out.2.2.cell (j := 0) (u := .int .i64 su) rfl
        have cb1 := S3.out.2.2.cell (j := 1) (u := .int .i64 iu) rfl
        have cb2 := S3.out.2.2.cell (j := 2) (u := .slice b2 m2 d2) rfl
        have cb3 := S3.out.2.2.cell (j := 3) (u := .slice b3 m3 d3) rfl
        have cb4 := S3.out.2.2.cell (j := 4) (u := .slice b4 m4 d4) rfl
        have cb5 := S3.out.2.2.cell (j := 5) (u := .slice b5 m5 d5) rfl
        go_wp2_with fail
        clear ca0 ca1 ca2 ca3 ca4 ca5 cb0 cb1 cb2 cb3 cb4 cb5
        refine (CU.out _ S3.out.1).mono ?_
        rintro e w4 ⟨rfl, hb⟩
        have S4 := Lib.hid (S3.out.below hb)
        clear hb S3
        have HR2 : Hid (r = q4) := by
          have := HR.out
          simpa [Hid] using this
        go_wp2_with fail
        go_ret
        exact ⟨ret_bool HR2.out.symm, S4.out.1⟩

end Go.Proofs.YtdbgjgeglgipiaaGreat
