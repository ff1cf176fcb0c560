/-
  Contracts of the model's and the program's Says. Conditions: lists of at most 2^20 elements.
-/
import Derived.Test.YtdbgjgeglgipiaaSpecRuns
import Derived.Test.YtdbgjgeglgipiaaImplRuns
import Derived.Test.YtdbgjgeglgipiaaActs
import Derived.Test.YtdbgjgeglgipiaaRisen
namespace Go.Proofs.Ytdbgjgeglgipiaa
open Go.RowKit

/-- Does the automaton say the trace? -/
def saysB (a : IaD) (tr : List Int) : Bool := inB tr (joinOf a.ins a.outs) && decide (0 < (if iaOkB a && [a.init].all (stateB a) then runsOf a [a.init] tr else []).length)

theorem saysB_off {a : IaD} {tr : List Int} (h : iaOkB a = false) : saysB a tr = false := by
  unfold saysB
  rw [h]
  simp

set_option maxRecDepth 20000 in
set_option maxHeartbeats 1600000 in
theorem implSays_any (a : IaD) (v : Value) (ta : Option Addr) (tn tc : Nat) (tr : List Int) (w : World) (h : IaRow w a v) (f2 : a.ins.length ≤ 1048576) (f3 : a.outs.length ≤ 1048576) (f4 : a.hids.length ≤ 1048576) (f5 : a.steps.length ≤ 1048576) (rt : Row w ta tn tr) (htn : tn ≤ 1048576) :
    Calls Try.prog 9 #[v, .slice ta tn tc] w fun e w' => e = .returned (.bool (saysB a tr)) ∧ Below w.heap.size w w' := by
  obtain ⟨J, hJ⟩ : ∃ J, J = joinOf a.ins a.outs := ⟨_, rfl⟩
  obtain ⟨q, hq⟩ : ∃ q, q = inB tr J := ⟨_, rfl⟩
  obtain ⟨L, hL⟩ : ∃ L, L = (if iaOkB a && [a.init].all (stateB a) then runsOf a [a.init] tr else []) := ⟨_, rfl⟩
  have CR : Hid (∀ W fa fc, Below w.heap.size w W → Row W fa 1 [a.init] → Calls Try.prog 26 #[v, .slice fa 1 fc, .slice ta tn tc] W fun e w' => ∃ ad c, e = .returned (.slice ad L.length c) ∧ Below W.heap.size W w') := fun W fa fc hW hf => by
    rw [hL]
    refine (implRuns_any a v fa 1 fc [a.init] ta tn tc tr W (h.below hW) f2 f3 f4 f5 hf (by omega) (rt.below hW) htn).mono ?_
    rintro e w' ⟨v', rfl, ho, hb⟩
    obtain ⟨ad, c, rfl⟩ := ho.form
    exact ⟨ad, c, rfl, hb⟩
  obtain ⟨r, hr⟩ : ∃ r, r = saysB a tr := ⟨_, rfl⟩
  have HR : Hid (r = (q && decide (0 < L.length))) := by
    unfold Hid
    rw [hr, hq, hL, hJ]
    rfl
  rw [← hr]
  obtain ⟨a2, n2, c2, a3, n3, c3, a4, n4, c4, a5, n5, c5, rfl, r2, r3, r4, r5⟩ := h
  obtain ⟨st, it, ins, outs, hids, steps⟩ := a
  simp only at r2 r3 r4 r5 f2 f3 f4 f5 hJ CR
  have e2 := r2.1
  have e3 := r3.1
  have CJ : Hid (∀ W, Below w.heap.size w W → Calls Try.prog 25 #[.slice a2 n2 c2, .slice a3 n3 c3] W fun e w' => ∃ ad c, e = .returned (.slice ad J.length c) ∧ Row w' ad J.length J ∧ Below W.heap.size W w') := fun W hW => by
    rw [hJ]
    refine (implSetJoin_any a2 a3 n2 c2 n3 c3 ins outs W (r2.below hW) (r3.below hW) (by omega) (by omega)).mono ?_
    rintro e w' ⟨v', rfl, ho, hb⟩
    obtain ⟨ad, c, rfl⟩ := ho.form
    exact ⟨ad, c, rfl, ho.row.2.2.2, hb⟩
  have hJn : J.length ≤ 2097152 := by
    have := join_len ins outs
    rw [hJ]
    omega
  have CI : Hid (∀ W ad c, Below w.heap.size w W → Row W ad J.length J → Calls Try.prog 24 #[.slice ta tn tc, .slice ad J.length c] W fun e w' => e = .returned (.bool q) ∧ Below W.heap.size W w') := fun W ad c hW hj => by
    rw [hq]
    exact implSetIn_any ta ad tn tc J.length c tr J W (rt.below hW) hj (by omega) hJn
  obtain ⟨m, hm⟩ : ∃ m, m = J.length := ⟨_, rfl⟩
  obtain ⟨k, hk⟩ : ∃ k, k = L.length := ⟨_, rfl⟩
  rw [← hm] at CJ CI
  rw [← hk] at CR HR
  have V0 := Lib.hid (VarIs.new w #[.int .i64 st, .int .i64 it, .slice a2 n2 c2, .slice a3 n3 c3, .slice a4 n4 c4, .slice a5 n5 c5] 30 rfl)
  have B0 : Hid (Below w.heap.size w (w.alloc (.cells #[.int .i64 st, .int .i64 it, .slice a2 n2 c2, .slice a3 n3 c3, .slice a4 n4 c4, .slice a5 n5 c5] 30))) := (Below.refl _ _).alloc (Nat.le_refl _) _
  clear hq hL hJ hr hm hk e2 e3 hJn r2 r3 r4 r5 f2 f3 f4 f5 rt
  go_enter Try.func9, Try.ntmps9
  have m2 := V0.out.cell (j := 2) rfl
  have m3 := V0.out.cell (j := 3) rfl
  go_wp2_with fail
  clear m2 m3
  refine (CJ.out _ B0.out).mono ?_
  rintro e w1 ⟨ad, c, rfl, hj, hb⟩
  have B1 : Hid (Below w.heap.size w w1) := B0.out.trans (hb.mono B0.out.size)
  have V1 := Lib.hid (V0.out.below hb)
  have HJ := Lib.hid hj
  clear hb hj V0 B0
  go_wp2_with fail
  refine (CI.out _ _ _ B1.out HJ.out).mono ?_
  rintro e w2 ⟨rfl, hb⟩
  have B2 : Hid (Below w.heap.size w w2) := B1.out.trans (hb.mono B1.out.size)
  have V2 := Lib.hid (V1.out.below hb)
  clear hb V1 B1 HJ CI CJ
  cases q with
  | false =>
    have hr0 : r = false := by rw [HR.out]; rfl
    clear HR
    subst hr0
    go_wp2_with fail
    go_ret
    exact ⟨rfl, B2.out⟩
  | true =>
    have m0 := V2.out.cell (j := 0) rfl
    have m1 := V2.out.cell (j := 1) rfl
    have m2 := V2.out.cell (j := 2) rfl
    have m3 := V2.out.cell (j := 3) rfl
    have m4 := V2.out.cell (j := 4) rfl
    have m5 := V2.out.cell (j := 5) rfl
    have B3 : Hid (Below w.heap.size w (w2.alloc (.cells #[.int .i64 it] 3))) := B2.out.alloc B2.out.size _
    have HF : Hid (Row (w2.alloc (.cells #[.int .i64 it] 3)) (some ⟨w2.heap.size, 0, none⟩) 1 [it]) := row_one w2 it _ rfl
    go_wp2_with fail
    clear m0 m1 m2 m3 m4 m5
    refine (CR.out _ _ _ B3.out HF.out).mono ?_
    rintro e w3 ⟨ad3, c3, rfl, hb⟩
    have B4 : Hid (Below w.heap.size w w3) := B3.out.trans (hb.mono B3.out.size)
    clear hb B3 HF V2 CR
    by_cases hk0 : k = 0
    · have hr0 : r = false := by rw [HR.out, hk0]; rfl
      clear HR
      subst hr0 hk0
      go_wp2_with fail
      go_ret
      exact ⟨rfl, B4.out⟩
    · have hr0 : r = true := by rw [HR.out]; simp; omega
      clear HR
      subst hr0
      go_wp2_with fail
      go_ret
      exact ⟨ret_bool (by simp only [decide_eq_true_eq]; omega), B4.out⟩

set_option maxRecDepth 20000 in
set_option maxHeartbeats 1600000 in
theorem specSays_any (a : IaD) (v : Value) (ta : Option Addr) (tn tc : Nat) (tr : List Int) (w : World) (h : IaRow w a v) (f2 : a.ins.length ≤ 1048576) (f3 : a.outs.length ≤ 1048576) (f4 : a.hids.length ≤ 1048576) (f5 : a.steps.length ≤ 1048576) (rt : Row w ta tn tr) (htn : tn ≤ 1048576) :
    Calls Try.prog 6 #[v, .slice ta tn tc] w fun e w' => e = .returned (.bool (saysB a tr)) ∧ Below w.heap.size w w' := by
  have CO : Hid (∀ W, Below w.heap.size w W → Calls Try.prog 19 #[v] W fun e w' => e = .returned (.bool (iaOkB a)) ∧ Below W.heap.size W w') := fun W hW => specIaOk_any a v W (h.below hW) f2 f3 f4 f5
  have HOFF := Lib.hid (fun h => saysB_off (a := a) (tr := tr) h)
  obtain ⟨qo, hqo⟩ : ∃ q, q = iaOkB a := ⟨_, rfl⟩
  obtain ⟨J, hJ⟩ : ∃ J, J = joinOf a.ins a.outs := ⟨_, rfl⟩
  obtain ⟨q, hq⟩ : ∃ q, q = inB tr J := ⟨_, rfl⟩
  obtain ⟨L, hL⟩ : ∃ L, L = (if iaOkB a && [a.init].all (stateB a) then runsOf a [a.init] tr else []) := ⟨_, rfl⟩
  have CR : Hid (∀ W fa fc, Below w.heap.size w W → Row W fa 1 [a.init] → Calls Try.prog 22 #[v, .slice fa 1 fc, .slice ta tn tc] W fun e w' => ∃ ad c, e = .returned (.slice ad L.length c) ∧ Below W.heap.size W w') := fun W fa fc hW hf => by
    rw [hL]
    refine (specRuns_any a v fa 1 fc [a.init] ta tn tc tr W (h.below hW) f2 f3 f4 f5 hf (by omega) (rt.below hW) htn).mono ?_
    rintro e w' ⟨g, c, rfl, ho, hb⟩
    exact ⟨_, c, rfl, hb⟩
  obtain ⟨r, hr⟩ : ∃ r, r = saysB a tr := ⟨_, rfl⟩
  have HR : Hid (r = (q && decide (0 < L.length))) := by
    unfold Hid
    rw [hr, hq, hL, hJ]
    rfl
  rw [← hr] at HOFF ⊢
  rw [← hqo] at CO HOFF
  obtain ⟨a2, n2, c2, a3, n3, c3, a4, n4, c4, a5, n5, c5, rfl, r2, r3, r4, r5⟩ := h
  obtain ⟨st, it, ins, outs, hids, steps⟩ := a
  simp only at r2 r3 r4 r5 f2 f3 f4 f5 hJ CR
  have e2 := r2.1
  have e3 := r3.1
  have CJ : Hid (∀ W, Below w.heap.size w W → Calls Try.prog 21 #[.slice a2 n2 c2, .slice a3 n3 c3] W fun e w' => ∃ ad c, e = .returned (.slice ad J.length c) ∧ Row w' ad J.length J ∧ Below W.heap.size W w') := fun W hW => by
    rw [hJ]
    refine (specSetJoin_any a2 a3 n2 c2 n3 c3 ins outs W (r2.below hW) (r3.below hW) (by omega) (by omega)).mono ?_
    rintro e w' ⟨g, c, rfl, ho, hb⟩
    exact ⟨_, c, rfl, ho.row.2.2.2, hb⟩
  have hJn : J.length ≤ 2097152 := by
    have := join_len ins outs
    rw [hJ]
    omega
  have CI : Hid (∀ W ad c, Below w.heap.size w W → Row W ad J.length J → Calls Try.prog 20 #[.slice ta tn tc, .slice ad J.length c] W fun e w' => e = .returned (.bool q) ∧ Below W.heap.size W w') := fun W ad c hW hj => by
    rw [hq]
    refine (specSetIn_any ta ad tn tc J.length c tr J W (rt.below hW) hj (by omega) hJn).mono ?_
    rintro e w' ⟨rfl, rfl⟩
    exact ⟨rfl, Below.refl _ _⟩
  obtain ⟨m, hm⟩ : ∃ m, m = J.length := ⟨_, rfl⟩
  obtain ⟨k, hk⟩ : ∃ k, k = L.length := ⟨_, rfl⟩
  rw [← hm] at CJ CI
  rw [← hk] at CR HR
  have V0 := Lib.hid (VarIs.new w #[.int .i64 st, .int .i64 it, .slice a2 n2 c2, .slice a3 n3 c3, .slice a4 n4 c4, .slice a5 n5 c5] 30 rfl)
  have B0 : Hid (Below w.heap.size w (w.alloc (.cells #[.int .i64 st, .int .i64 it, .slice a2 n2 c2, .slice a3 n3 c3, .slice a4 n4 c4, .slice a5 n5 c5] 30))) := (Below.refl _ _).alloc (Nat.le_refl _) _
  clear hq hL hJ hr hm hk e2 e3 hJn r2 r3 r4 r5 f2 f3 f4 f5 rt hqo
  go_enter Try.func6, Try.ntmps6
  have m0 := V0.out.cell (j := 0) rfl
  have m1 := V0.out.cell (j := 1) rfl
  have m2 := V0.out.cell (j := 2) rfl
  have m3 := V0.out.cell (j := 3) rfl
  have m4 := V0.out.cell (j := 4) rfl
  have m5 := V0.out.cell (j := 5) rfl
  go_wp2_with fail
  clear m0 m1 m2 m3 m4 m5
  refine (CO.out _ B0.out).mono ?_
  rintro e wo ⟨rfl, hb⟩
  have BO : Hid (Below w.heap.size w wo) := B0.out.trans (hb.mono B0.out.size)
  have VO := Lib.hid (V0.out.below hb)
  clear hb V0 B0 CO
  cases qo with
  | false =>
    have hr0 : r = false := HOFF.out rfl
    clear HR HOFF
    subst hr0
    go_wp2_with fail
    go_ret
    exact ⟨rfl, BO.out⟩
  | true =>
    clear HOFF
    have m2 := VO.out.cell (j := 2) rfl
    have m3 := VO.out.cell (j := 3) rfl
    go_wp2_with fail
    clear m2 m3
    refine (CJ.out _ BO.out).mono ?_
    rintro e w1 ⟨ad, c, rfl, hj, hb⟩
    have B1 : Hid (Below w.heap.size w w1) := BO.out.trans (hb.mono BO.out.size)
    have V1 := Lib.hid (VO.out.below hb)
    have HJ := Lib.hid hj
    clear hb hj VO BO
    go_wp2_with fail
    refine (CI.out _ _ _ B1.out HJ.out).mono ?_
    rintro e w2 ⟨rfl, hb⟩
    have B2 : Hid (Below w.heap.size w w2) := B1.out.trans (hb.mono B1.out.size)
    have V2 := Lib.hid (V1.out.below hb)
    clear hb V1 B1 HJ CI CJ
    cases q with
    | false =>
      have hr0 : r = false := by rw [HR.out]; rfl
      clear HR
      subst hr0
      go_wp2_with fail
      go_ret
      exact ⟨rfl, B2.out⟩
    | true =>
      have m0 := V2.out.cell (j := 0) rfl
      have m1 := V2.out.cell (j := 1) rfl
      have m2 := V2.out.cell (j := 2) rfl
      have m3 := V2.out.cell (j := 3) rfl
      have m4 := V2.out.cell (j := 4) rfl
      have m5 := V2.out.cell (j := 5) rfl
      have B3 : Hid (Below w.heap.size w (w2.alloc (.cells #[.int .i64 it] 3))) := B2.out.alloc B2.out.size _
      have HF : Hid (Row (w2.alloc (.cells #[.int .i64 it] 3)) (some ⟨w2.heap.size, 0, none⟩) 1 [it]) := row_one w2 it _ rfl
      go_wp2_with fail
      clear m0 m1 m2 m3 m4 m5
      refine (CR.out _ _ _ B3.out HF.out).mono ?_
      rintro e w3 ⟨ad3, c3, rfl, hb⟩
      have B4 : Hid (Below w.heap.size w w3) := B3.out.trans (hb.mono B3.out.size)
      clear hb B3 HF V2 CR
      by_cases hk0 : k = 0
      · have hr0 : r = false := by rw [HR.out, hk0]; rfl
        clear HR
        subst hr0 hk0
        go_wp2_with fail
        go_ret
        exact ⟨rfl, B4.out⟩
      · have hr0 : r = true := by rw [HR.out]; simp; omega
        clear HR
        subst hr0
        go_wp2_with fail
        go_ret
        exact ⟨ret_bool (by simp only [decide_eq_true_eq]; omega), B4.out⟩

end Go.Proofs.Ytdbgjgeglgipiaa
