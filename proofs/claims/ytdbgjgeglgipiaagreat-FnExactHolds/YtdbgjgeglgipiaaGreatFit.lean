/-
  Contracts of Fit, of the program and of the model. Conditions: the automata's lists have at most 2^20 elements.
-/
import Derived.Test.YtdbgjgeglgipiaaGreatTwo
import Derived.Test.YtdbgjgeglgipiaaGreatRisen
namespace Go.Proofs.YtdbgjgeglgipiaaGreat
open Go.RowKit

theorem OwnRes.slice {w : World} {xs : List Int} {e : Ending} {w' : World} (h : OwnRes w w.heap.size xs e w') : ∃ a c, e = .returned (.slice a xs.length c) ∧ Below w.heap.size w w' := by
  obtain ⟨g, c, he, _, hb⟩ := h
  exact ⟨_, c, he, hb⟩

/-- Right sets hold actions alone. -/
theorem setOk_low {s : List Int} (h : setOkB s = true) : ∀ x ∈ s, 0 ≤ x ∧ x ≤ 11 := fun _ hx => setOk_small h hx

theorem iaOk_sets {a : IaD} (h : iaOkB a = true) : setOkB a.ins = true ∧ setOkB a.outs = true ∧ setOkB a.hids = true := by
  simp only [iaOkB, setsB, Bool.and_eq_true] at h
  exact ⟨h.1.1.2.1.1.1, h.1.1.2.1.1.2, h.1.1.2.1.2⟩

/-- What rises within the actions has at most twelve. -/
theorem rise_low12 {L : List Int} (hr : L.Pairwise (· < ·)) (hl : ∀ y ∈ L, 0 ≤ y ∧ y ≤ 11) : L.length ≤ 12 := by
  have h := rises_len (ys := [0, 1, 2, 3, 4, 5, 6, 7, 8, 9, 10, 11]) hr (fun y hy => by
    obtain ⟨h0, h1⟩ := hl y hy
    have : y = 0 ∨ y = 1 ∨ y = 2 ∨ y = 3 ∨ y = 4 ∨ y = 5 ∨ y = 6 ∨ y = 7 ∨ y = 8 ∨ y = 9 ∨ y = 10 ∨ y = 11 := by omega
    simpa using this)
  simpa using h

theorem mem_actsOf {a : IaD} {x : Int} : x ∈ actsOf a ↔ x ∈ a.ins ∨ x ∈ a.outs ∨ x ∈ a.hids := by
  unfold actsOf
  rw [mem_joinOf, mem_joinOf, or_assoc]

theorem actsOf_low {a : IaD} (h : iaOkB a = true) : (actsOf a).length ≤ 12 := by
  obtain ⟨s1, s2, s3⟩ := iaOk_sets h
  refine rise_low12 (putAll_rises (putAll_rises List.Pairwise.nil)) (fun y hy => ?_)
  rcases mem_actsOf.1 hy with h | h | h
  · exact setOk_low s1 y h
  · exact setOk_low s2 y h
  · exact setOk_low s3 y h

theorem fitActs_sum (a b : IaD) : fitActs a b = decide ((meetOf a.ins b.ins).length + (meetOf a.outs b.outs).length + (meetOf a.hids (actsOf b)).length + (meetOf b.hids (actsOf a)).length = 0) := by
  unfold fitActs
  rw [Bool.eq_iff_iff]
  simp only [Bool.and_eq_true, decide_eq_true_eq]
  omega

set_option maxRecDepth 20000 in
set_option maxHeartbeats 6400000 in
theorem actsFit_any (a b : IaD) (v u : Value) (w : World) (h : IaRow w a v) (k : IaRow w b u) (fa : Small a) (fb : Small b) (oka : iaOkB a = true) (okb : iaOkB b = true) :
    Calls Tryz.prog 80 #[v, u] w fun e w' => e = .returned (.bool (fitActs a b)) ∧ Below w.heap.size w w' := by
  obtain ⟨a2, n2, c2, a3, n3, c3, a4, n4, c4, a5, n5, c5, rfl, r2, r3, r4, r5⟩ := h
  obtain ⟨b2, m2, d2, b3, m3, d3, b4, m4, d4, b5, m5, d5, rfl, q2, q3, q4, q5⟩ := k
  obtain ⟨st, it, ins, outs, hids, steps⟩ := a
  obtain ⟨su, iu, jns, juts, jids, jteps⟩ := b
  obtain ⟨f2, f3, f4, f5⟩ := fa
  obtain ⟨g2, g3, g4, g5⟩ := fb
  simp only at r2 r3 r4 r5 q2 q3 q4 q5 f2 f3 f4 f5 g2 g3 g4 g5
  have HA : Hid (∀ W, Below w.heap.size w W → IaRow W ⟨st, it, ins, outs, hids, steps⟩ (.agg #[.int .i64 st, .int .i64 it, .slice a2 n2 c2, .slice a3 n3 c3, .slice a4 n4 c4, .slice a5 n5 c5])) := fun W hW => IaRow.below ⟨a2, n2, c2, a3, n3, c3, a4, n4, c4, a5, n5, c5, rfl, r2, r3, r4, r5⟩ hW
  have HB : Hid (∀ W, Below w.heap.size w W → IaRow W ⟨su, iu, jns, juts, jids, jteps⟩ (.agg #[.int .i64 su, .int .i64 iu, .slice b2 m2 d2, .slice b3 m3 d3, .slice b4 m4 d4, .slice b5 m5 d5])) := fun W hW => IaRow.below ⟨b2, m2, d2, b3, m3, d3, b4, m4, d4, b5, m5, d5, rfl, q2, q3, q4, q5⟩ hW
  have S0 := Lib.hid (Box2.start w (iaC st it a2 n2 c2 a3 n3 c3 a4 n4 c4 a5 n5 c5) (iaC su iu b2 m2 d2 b3 m3 d3 b4 m4 d4 b5 m5 d5) 31)
  have e2 := r2.1
  have e3 := r3.1
  have e4 := r4.1
  have k2 := q2.1
  have k3 := q3.1
  have k4 := q4.1
  rw [e2] at f2
  rw [e3] at f3
  rw [e4] at f4
  rw [k2] at g2
  rw [k3] at g3
  rw [k4] at g4
  have R2 := Lib.hid r2
  have R3 := Lib.hid r3
  have R4 := Lib.hid r4
  have R5 := Lib.hid r5
  have Q2 := Lib.hid q2
  have Q3 := Lib.hid q3
  have Q4 := Lib.hid q4
  have Q5 := Lib.hid q5
  clear r2 r3 r4 r5 q2 q3 q4 q5
  have okaCB : (actsOf ⟨su, iu, jns, juts, jids, jteps⟩ : List Int).length ≤ 2097152 := by
    have h1 : (actsOf ⟨su, iu, jns, juts, jids, jteps⟩).length ≤ 12 := actsOf_low okb
    omega
  have okaCA : (actsOf ⟨st, it, ins, outs, hids, steps⟩ : List Int).length ≤ 2097152 := by
    have h1 : (actsOf ⟨st, it, ins, outs, hids, steps⟩).length ≤ 12 := actsOf_low oka
    omega
  obtain ⟨x1, hx1⟩ : ∃ q, q = (meetOf ins jns).length := ⟨_, rfl⟩
  obtain ⟨x2, hx2⟩ : ∃ q, q = (meetOf outs juts).length := ⟨_, rfl⟩
  obtain ⟨x3, hx3⟩ : ∃ q, q = (meetOf hids (actsOf ⟨su, iu, jns, juts, jids, jteps⟩)).length := ⟨_, rfl⟩
  obtain ⟨x4, hx4⟩ : ∃ q, q = (meetOf jids (actsOf ⟨st, it, ins, outs, hids, steps⟩)).length := ⟨_, rfl⟩
  have l1 : x1 ≤ 1048576 := by have := meet_len ins jns; omega
  have l2 : x2 ≤ 1048576 := by have := meet_len outs juts; omega
  have l3 : x3 ≤ 1048576 := by have := meet_len hids (actsOf ⟨su, iu, jns, juts, jids, jteps⟩); omega
  have l4 : x4 ≤ 1048576 := by have := meet_len jids (actsOf ⟨st, it, ins, outs, hids, steps⟩); omega
  have M1 : Hid (∀ W, Box2 w W w.heap.size (w.heap.size + 1) 31 (iaC st it a2 n2 c2 a3 n3 c3 a4 n4 c4 a5 n5 c5) (iaC su iu b2 m2 d2 b3 m3 d3 b4 m4 d4 b5 m5 d5) → Calls Tryz.prog 81 #[.slice a2 n2 c2, .slice b2 m2 d2] W fun e w' => ∃ ad cc, e = .returned (.slice ad x1 cc) ∧ Box2 w w' w.heap.size (w.heap.size + 1) 31 (iaC st it a2 n2 c2 a3 n3 c3 a4 n4 c4 a5 n5 c5) (iaC su iu b2 m2 d2 b3 m3 d3 b4 m4 d4 b5 m5 d5)) := fun W hW => by
    rw [hx1]
    exact (implSetMeet_any a2 b2 n2 c2 m2 d2 ins jns W (R2.out.below hW.1) (Q2.out.below hW.1) (by omega) (by omega)).mono fun e w' h => by
      obtain ⟨ad, cc, he, hb⟩ := RowRes.slice h
      exact ⟨ad, cc, he, hW.below hb⟩
  have M2 : Hid (∀ W, Box2 w W w.heap.size (w.heap.size + 1) 31 (iaC st it a2 n2 c2 a3 n3 c3 a4 n4 c4 a5 n5 c5) (iaC su iu b2 m2 d2 b3 m3 d3 b4 m4 d4 b5 m5 d5) → Calls Tryz.prog 81 #[.slice a3 n3 c3, .slice b3 m3 d3] W fun e w' => ∃ ad cc, e = .returned (.slice ad x2 cc) ∧ Box2 w w' w.heap.size (w.heap.size + 1) 31 (iaC st it a2 n2 c2 a3 n3 c3 a4 n4 c4 a5 n5 c5) (iaC su iu b2 m2 d2 b3 m3 d3 b4 m4 d4 b5 m5 d5)) := fun W hW => by
    rw [hx2]
    exact (implSetMeet_any a3 b3 n3 c3 m3 d3 outs juts W (R3.out.below hW.1) (Q3.out.below hW.1) (by omega) (by omega)).mono fun e w' h => by
      obtain ⟨ad, cc, he, hb⟩ := RowRes.slice h
      exact ⟨ad, cc, he, hW.below hb⟩
  have CB : Hid (∀ W, Box2 w W w.heap.size (w.heap.size + 1) 31 (iaC st it a2 n2 c2 a3 n3 c3 a4 n4 c4 a5 n5 c5) (iaC su iu b2 m2 d2 b3 m3 d3 b4 m4 d4 b5 m5 d5) → Calls Tryz.prog 104 #[.agg #[.int .i64 su, .int .i64 iu, .slice b2 m2 d2, .slice b3 m3 d3, .slice b4 m4 d4, .slice b5 m5 d5]] W fun e w' => ∃ ad n cc, e = .returned (.slice ad n cc) ∧ Row w' ad n (actsOf ⟨su, iu, jns, juts, jids, jteps⟩) ∧ n ≤ 2097152 ∧ Box2 w w' w.heap.size (w.heap.size + 1) 31 (iaC st it a2 n2 c2 a3 n3 c3 a4 n4 c4 a5 n5 c5) (iaC su iu b2 m2 d2 b3 m3 d3 b4 m4 d4 b5 m5 d5)) := fun W hW => by
    have hc := implActsOf_any ⟨su, iu, jns, juts, jids, jteps⟩ _ W (HB.out W hW.1) (by rw [k2]; exact g2) (by rw [k3]; exact g3) (by rw [k4]; exact g4) g5
    rw [if_pos okb] at hc
    refine hc.mono fun e w' h => ?_
    obtain ⟨v, he, ho, hb⟩ := h
    obtain ⟨ad, cc, rfl⟩ := ho.form
    exact ⟨_, _, _, he, ho.row.2.2.2, okaCB, hW.below hb⟩
  have M3 : Hid (∀ W ad n cc, Row W ad n (actsOf ⟨su, iu, jns, juts, jids, jteps⟩) → n ≤ 2097152 → Box2 w W w.heap.size (w.heap.size + 1) 31 (iaC st it a2 n2 c2 a3 n3 c3 a4 n4 c4 a5 n5 c5) (iaC su iu b2 m2 d2 b3 m3 d3 b4 m4 d4 b5 m5 d5) → Calls Tryz.prog 81 #[.slice a4 n4 c4, .slice ad n cc] W fun e w' => ∃ ad cc, e = .returned (.slice ad x3 cc) ∧ Box2 w w' w.heap.size (w.heap.size + 1) 31 (iaC st it a2 n2 c2 a3 n3 c3 a4 n4 c4 a5 n5 c5) (iaC su iu b2 m2 d2 b3 m3 d3 b4 m4 d4 b5 m5 d5)) := fun W ad n cc hr hn hW => by
    rw [hx3]
    exact (implSetMeet_any a4 ad n4 c4 n cc hids (actsOf ⟨su, iu, jns, juts, jids, jteps⟩) W (R4.out.below hW.1) hr (by omega) hn).mono fun e w' h => by
      obtain ⟨ad, cc, he, hb⟩ := RowRes.slice h
      exact ⟨ad, cc, he, hW.below hb⟩
  have CA : Hid (∀ W, Box2 w W w.heap.size (w.heap.size + 1) 31 (iaC st it a2 n2 c2 a3 n3 c3 a4 n4 c4 a5 n5 c5) (iaC su iu b2 m2 d2 b3 m3 d3 b4 m4 d4 b5 m5 d5) → Calls Tryz.prog 104 #[.agg #[.int .i64 st, .int .i64 it, .slice a2 n2 c2, .slice a3 n3 c3, .slice a4 n4 c4, .slice a5 n5 c5]] W fun e w' => ∃ ad n cc, e = .returned (.slice ad n cc) ∧ Row w' ad n (actsOf ⟨st, it, ins, outs, hids, steps⟩) ∧ n ≤ 2097152 ∧ Box2 w w' w.heap.size (w.heap.size + 1) 31 (iaC st it a2 n2 c2 a3 n3 c3 a4 n4 c4 a5 n5 c5) (iaC su iu b2 m2 d2 b3 m3 d3 b4 m4 d4 b5 m5 d5)) := fun W hW => by
    have hc := implActsOf_any ⟨st, it, ins, outs, hids, steps⟩ _ W (HA.out W hW.1) (by rw [e2]; exact f2) (by rw [e3]; exact f3) (by rw [e4]; exact f4) f5
    rw [if_pos oka] at hc
    refine hc.mono fun e w' h => ?_
    obtain ⟨v, he, ho, hb⟩ := h
    obtain ⟨ad, cc, rfl⟩ := ho.form
    exact ⟨_, _, _, he, ho.row.2.2.2, okaCA, hW.below hb⟩
  have M4 : Hid (∀ W ad n cc, Row W ad n (actsOf ⟨st, it, ins, outs, hids, steps⟩) → n ≤ 2097152 → Box2 w W w.heap.size (w.heap.size + 1) 31 (iaC st it a2 n2 c2 a3 n3 c3 a4 n4 c4 a5 n5 c5) (iaC su iu b2 m2 d2 b3 m3 d3 b4 m4 d4 b5 m5 d5) → Calls Tryz.prog 81 #[.slice b4 m4 d4, .slice ad n cc] W fun e w' => ∃ ad cc, e = .returned (.slice ad x4 cc) ∧ Box2 w w' w.heap.size (w.heap.size + 1) 31 (iaC st it a2 n2 c2 a3 n3 c3 a4 n4 c4 a5 n5 c5) (iaC su iu b2 m2 d2 b3 m3 d3 b4 m4 d4 b5 m5 d5)) := fun W ad n cc hr hn hW => by
    rw [hx4]
    exact (implSetMeet_any b4 ad m4 d4 n cc jids (actsOf ⟨st, it, ins, outs, hids, steps⟩) W (Q4.out.below hW.1) hr (by omega) hn).mono fun e w' h => by
      obtain ⟨ad, cc, he, hb⟩ := RowRes.slice h
      exact ⟨ad, cc, he, hW.below hb⟩
  obtain ⟨r, hr⟩ : ∃ r, r = fitActs ⟨st, it, ins, outs, hids, steps⟩ ⟨su, iu, jns, juts, jids, jteps⟩ := ⟨_, rfl⟩
  rw [← hr]
  have HR : Hid (r = (decide (x1 = 0) && decide (x2 = 0) && decide (x3 = 0) && decide (x4 = 0))) := by
    unfold Hid
    rw [hr, hx1, hx2, hx3, hx4]
    rfl
  clear hr hx1 hx2 hx3 hx4 HA HB
  go_enter Tryz.func80, Tryz.ntmps80
  go_wp2_with fail
  have SD := S0.out.drew
  clear S0
  by_cases hz : x1 = 0
  · subst hz
    by_cases hz : x2 = 0
    · subst hz
      by_cases hz : x3 = 0
      · subst hz
        by_cases hz : x4 = 0
        · subst hz
          refine wp_region_held_drew (S := fun w' => Box2 w w' w.heap.size (w.heap.size + 1) 31 (iaC st it a2 n2 c2 a3 n3 c3 a4 n4 c4 a5 n5 c5) (iaC su iu b2 m2 d2 b3 m3 d3 b4 m4 d4 b5 m5 d5)) (by kernel_rfl) SD (fun hHeld => ?_)
          change wpAnyH _ _ _ _ _ 35 (Array.replicate 35 false) _ _
          refine take_op 0 5 (.pointer (some ⟨w.heap.size, 2, none⟩)) (fuel := 34) rfl rfl (by kernel_rfl) (by kernel_rfl) (by kernel_rfl) (fun _ _ _ h => h) (by rfl) (fun w hSw => by go_simp) hHeld ?_
          simp only [Act.put, List.setIfInBounds_toArray, List.set_cons_zero, List.set_cons_succ]
          refine take_op 1 6 (.slice a2 n2 c2) (fuel := 33) rfl rfl (by kernel_rfl) (by kernel_rfl) (by kernel_rfl) (fun _ _ _ h => h) (by rfl) (fun w hSw => by have m := hSw.2.1.cell (j := 2) (u := .slice a2 n2 c2) rfl; go_simp) hHeld ?_
          simp only [Act.put, List.setIfInBounds_toArray, List.set_cons_zero, List.set_cons_succ]
          refine take_op 2 7 (.pointer (some ⟨w.heap.size + 1, 2, none⟩)) (fuel := 32) rfl rfl (by kernel_rfl) (by kernel_rfl) (by kernel_rfl) (fun _ _ _ h => h) (by rfl) (fun w hSw => by go_simp) hHeld ?_
          simp only [Act.put, List.setIfInBounds_toArray, List.set_cons_zero, List.set_cons_succ]
          refine take_op 3 8 (.slice b2 m2 d2) (fuel := 31) rfl rfl (by kernel_rfl) (by kernel_rfl) (by kernel_rfl) (fun _ _ _ h => h) (by rfl) (fun w hSw => by have m := hSw.2.2.cell (j := 2) (u := .slice b2 m2 d2) rfl; go_simp) hHeld ?_
          simp only [Act.put, List.setIfInBounds_toArray, List.set_cons_zero, List.set_cons_succ]
          refine wpAnyH_ready (rs := [4]) (fuel := 30) (by kernel_rfl) (by simp) ?_
          refine AllReadyH.cons rfl (fun K hK => ?_) AllReadyH.nil
          go_simp
          refine (M1.out _ hHeld).mono ?_
          rintro e w1 ⟨ad1, cc1, rfl, hS⟩
          go_wp2_with fail
          refine hK.out _ _ hS (fun hHeld => ?_)
          clear hK K
          refine take_op 5 10 (.int .i64 0) (fuel := 29) rfl rfl (by kernel_rfl) (by kernel_rfl) (by kernel_rfl) (fun _ _ _ h => h) (by rfl) (fun w hSw => by go_simp) hHeld ?_
          simp only [Act.put, List.setIfInBounds_toArray, List.set_cons_zero, List.set_cons_succ]
          refine take_op 6 11 (.bool true) (fuel := 28) rfl rfl (by kernel_rfl) (by kernel_rfl) (by kernel_rfl) (fun _ _ _ h => h) (by rfl) (fun w hSw => by go_simp) hHeld ?_
          simp only [Act.put, List.setIfInBounds_toArray, List.set_cons_zero, List.set_cons_succ]
          refine take_op 7 12 (.bool true) (fuel := 27) rfl rfl (by kernel_rfl) (by kernel_rfl) (by kernel_rfl) (fun _ _ _ h => h) (by rfl) (fun w hSw => by go_simp) hHeld ?_
          simp only [Act.put, List.setIfInBounds_toArray, List.set_cons_zero, List.set_cons_succ]
          refine take_op 8 13 (.pointer (some ⟨w.heap.size, 3, none⟩)) (fuel := 26) rfl rfl (by kernel_rfl) (by kernel_rfl) (by kernel_rfl) (fun _ _ _ h => h) (by rfl) (fun w hSw => by go_simp) hHeld ?_
          simp only [Act.put, List.setIfInBounds_toArray, List.set_cons_zero, List.set_cons_succ]
          refine take_op 9 14 (.slice a3 n3 c3) (fuel := 25) rfl rfl (by kernel_rfl) (by kernel_rfl) (by kernel_rfl) (fun _ _ _ h => h) (by rfl) (fun w hSw => by have m := hSw.2.1.cell (j := 3) (u := .slice a3 n3 c3) rfl; go_simp) hHeld ?_
          simp only [Act.put, List.setIfInBounds_toArray, List.set_cons_zero, List.set_cons_succ]
          refine take_op 10 15 (.pointer (some ⟨w.heap.size + 1, 3, none⟩)) (fuel := 24) rfl rfl (by kernel_rfl) (by kernel_rfl) (by kernel_rfl) (fun _ _ _ h => h) (by rfl) (fun w hSw => by go_simp) hHeld ?_
          simp only [Act.put, List.setIfInBounds_toArray, List.set_cons_zero, List.set_cons_succ]
          refine take_op 11 16 (.slice b3 m3 d3) (fuel := 23) rfl rfl (by kernel_rfl) (by kernel_rfl) (by kernel_rfl) (fun _ _ _ h => h) (by rfl) (fun w hSw => by have m := hSw.2.2.cell (j := 3) (u := .slice b3 m3 d3) rfl; go_simp) hHeld ?_
          simp only [Act.put, List.setIfInBounds_toArray, List.set_cons_zero, List.set_cons_succ]
          refine wpAnyH_ready (rs := [12]) (fuel := 22) (by kernel_rfl) (by simp) ?_
          refine AllReadyH.cons rfl (fun K hK => ?_) AllReadyH.nil
          go_simp
          refine (M2.out _ hHeld).mono ?_
          rintro e w2 ⟨ad2, cc2, rfl, hS⟩
          go_wp2_with fail
          refine hK.out _ _ hS (fun hHeld => ?_)
          clear hK K
          refine take_op 13 18 (.int .i64 0) (fuel := 21) rfl rfl (by kernel_rfl) (by kernel_rfl) (by kernel_rfl) (fun _ _ _ h => h) (by rfl) (fun w hSw => by go_simp) hHeld ?_
          simp only [Act.put, List.setIfInBounds_toArray, List.set_cons_zero, List.set_cons_succ]
          refine take_op 14 19 (.bool true) (fuel := 20) rfl rfl (by kernel_rfl) (by kernel_rfl) (by kernel_rfl) (fun _ _ _ h => h) (by rfl) (fun w hSw => by go_simp) hHeld ?_
          simp only [Act.put, List.setIfInBounds_toArray, List.set_cons_zero, List.set_cons_succ]
          refine take_op 15 20 (.bool true) (fuel := 19) rfl rfl (by kernel_rfl) (by kernel_rfl) (by kernel_rfl) (fun _ _ _ h => h) (by rfl) (fun w hSw => by go_simp) hHeld ?_
          simp only [Act.put, List.setIfInBounds_toArray, List.set_cons_zero, List.set_cons_succ]
          refine take_op 16 21 (.bool true) (fuel := 18) rfl rfl (by kernel_rfl) (by kernel_rfl) (by kernel_rfl) (fun _ _ _ h => h) (by rfl) (fun w hSw => by go_simp) hHeld ?_
          simp only [Act.put, List.setIfInBounds_toArray, List.set_cons_zero, List.set_cons_succ]
          refine take_op 17 22 (.pointer (some ⟨w.heap.size, 4, none⟩)) (fuel := 17) rfl rfl (by kernel_rfl) (by kernel_rfl) (by kernel_rfl) (fun _ _ _ h => h) (by rfl) (fun w hSw => by go_simp) hHeld ?_
          simp only [Act.put, List.setIfInBounds_toArray, List.set_cons_zero, List.set_cons_succ]
          refine take_op 18 23 (.slice a4 n4 c4) (fuel := 16) rfl rfl (by kernel_rfl) (by kernel_rfl) (by kernel_rfl) (fun _ _ _ h => h) (by rfl) (fun w hSw => by have m := hSw.2.1.cell (j := 4) (u := .slice a4 n4 c4) rfl; go_simp) hHeld ?_
          simp only [Act.put, List.setIfInBounds_toArray, List.set_cons_zero, List.set_cons_succ]
          refine take_yields 19 24 (.agg #[.int .i64 su, .int .i64 iu, .slice b2 m2 d2, .slice b3 m3 d3, .slice b4 m4 d4, .slice b5 m5 d5]) (fuel := 15) rfl rfl (by kernel_rfl) (by kernel_rfl) (by kernel_rfl) (fun _ _ _ h => h) (yieldsIf_load_mid (by rfl) _ _ rfl (w.heap.size + 1) 0 rfl (iaC su iu b2 m2 d2 b3 m3 d3 b4 m4 d4 b5 m5 d5).toList _ (fun w hw => hw.2.2.range) Tryz.underlying31 rfl (by kernel_rfl)) hHeld ?_
          simp only [Act.put, List.setIfInBounds_toArray, List.set_cons_zero, List.set_cons_succ]
          refine wpAnyH_ready (rs := [20]) (fuel := 14) (by kernel_rfl) (by simp) ?_
          refine AllReadyH.cons rfl (fun K hK => ?_) AllReadyH.nil
          go_simp
          refine (CB.out _ hHeld).mono ?_
          rintro e w3 ⟨ad3, n3x, cc3, rfl, hr3, hn3, hS⟩
          go_wp2_with fail
          refine hK.out _ _ hS (fun hHeld => ?_)
          clear hK K
          refine wpAnyH_ready (rs := [21]) (fuel := 13) (by kernel_rfl) (by simp) ?_
          refine AllReadyH.cons rfl (fun K hK => ?_) AllReadyH.nil
          go_simp
          refine (M3.out _ _ _ _ hr3 hn3 hHeld).mono ?_
          rintro e w4 ⟨ad4, cc4, rfl, hS⟩
          clear hr3
          go_wp2_with fail
          refine hK.out _ _ hS (fun hHeld => ?_)
          clear hK K
          refine take_op 22 27 (.int .i64 0) (fuel := 12) rfl rfl (by kernel_rfl) (by kernel_rfl) (by kernel_rfl) (fun _ _ _ h => h) (by rfl) (fun w hSw => by go_simp) hHeld ?_
          simp only [Act.put, List.setIfInBounds_toArray, List.set_cons_zero, List.set_cons_succ]
          refine take_op 23 28 (.bool true) (fuel := 11) rfl rfl (by kernel_rfl) (by kernel_rfl) (by kernel_rfl) (fun _ _ _ h => h) (by rfl) (fun w hSw => by go_simp) hHeld ?_
          simp only [Act.put, List.setIfInBounds_toArray, List.set_cons_zero, List.set_cons_succ]
          refine take_op 24 29 (.bool true) (fuel := 10) rfl rfl (by kernel_rfl) (by kernel_rfl) (by kernel_rfl) (fun _ _ _ h => h) (by rfl) (fun w hSw => by go_simp) hHeld ?_
          simp only [Act.put, List.setIfInBounds_toArray, List.set_cons_zero, List.set_cons_succ]
          refine take_op 25 30 (.bool true) (fuel := 9) rfl rfl (by kernel_rfl) (by kernel_rfl) (by kernel_rfl) (fun _ _ _ h => h) (by rfl) (fun w hSw => by go_simp) hHeld ?_
          simp only [Act.put, List.setIfInBounds_toArray, List.set_cons_zero, List.set_cons_succ]
          refine take_op 26 31 (.pointer (some ⟨w.heap.size + 1, 4, none⟩)) (fuel := 8) rfl rfl (by kernel_rfl) (by kernel_rfl) (by kernel_rfl) (fun _ _ _ h => h) (by rfl) (fun w hSw => by go_simp) hHeld ?_
          simp only [Act.put, List.setIfInBounds_toArray, List.set_cons_zero, List.set_cons_succ]
          refine take_op 27 32 (.slice b4 m4 d4) (fuel := 7) rfl rfl (by kernel_rfl) (by kernel_rfl) (by kernel_rfl) (fun _ _ _ h => h) (by rfl) (fun w hSw => by have m := hSw.2.2.cell (j := 4) (u := .slice b4 m4 d4) rfl; go_simp) hHeld ?_
          simp only [Act.put, List.setIfInBounds_toArray, List.set_cons_zero, List.set_cons_succ]
          refine take_yields 28 33 (.agg #[.int .i64 st, .int .i64 it, .slice a2 n2 c2, .slice a3 n3 c3, .slice a4 n4 c4, .slice a5 n5 c5]) (fuel := 6) rfl rfl (by kernel_rfl) (by kernel_rfl) (by kernel_rfl) (fun _ _ _ h => h) (yieldsIf_load_mid (by rfl) _ _ rfl (w.heap.size) 0 rfl (iaC st it a2 n2 c2 a3 n3 c3 a4 n4 c4 a5 n5 c5).toList _ (fun w hw => hw.2.1.range) Tryz.underlying31 rfl (by kernel_rfl)) hHeld ?_
          simp only [Act.put, List.setIfInBounds_toArray, List.set_cons_zero, List.set_cons_succ]
          refine wpAnyH_ready (rs := [29]) (fuel := 5) (by kernel_rfl) (by simp) ?_
          refine AllReadyH.cons rfl (fun K hK => ?_) AllReadyH.nil
          go_simp
          refine (CA.out _ hHeld).mono ?_
          rintro e w5 ⟨ad5, n5x, cc5, rfl, hr5, hn5, hS⟩
          go_wp2_with fail
          refine hK.out _ _ hS (fun hHeld => ?_)
          clear hK K
          refine wpAnyH_ready (rs := [30]) (fuel := 4) (by kernel_rfl) (by simp) ?_
          refine AllReadyH.cons rfl (fun K hK => ?_) AllReadyH.nil
          go_simp
          refine (M4.out _ _ _ _ hr5 hn5 hHeld).mono ?_
          rintro e w6 ⟨ad6, cc6, rfl, hS⟩
          clear hr5
          go_wp2_with fail
          refine hK.out _ _ hS (fun hHeld => ?_)
          clear hK K
          refine take_op 31 36 (.int .i64 0) (fuel := 3) rfl rfl (by kernel_rfl) (by kernel_rfl) (by kernel_rfl) (fun _ _ _ h => h) (by rfl) (fun w hSw => by go_simp) hHeld ?_
          simp only [Act.put, List.setIfInBounds_toArray, List.set_cons_zero, List.set_cons_succ]
          refine take_op 32 37 (.bool true) (fuel := 2) rfl rfl (by kernel_rfl) (by kernel_rfl) (by kernel_rfl) (fun _ _ _ h => h) (by rfl) (fun w hSw => by go_simp) hHeld ?_
          simp only [Act.put, List.setIfInBounds_toArray, List.set_cons_zero, List.set_cons_succ]
          refine take_op 33 38 (.bool true) (fuel := 1) rfl rfl (by kernel_rfl) (by kernel_rfl) (by kernel_rfl) (fun _ _ _ h => h) (by rfl) (fun w hSw => by go_simp) hHeld ?_
          simp only [Act.put, List.setIfInBounds_toArray, List.set_cons_zero, List.set_cons_succ]
          refine take_op 34 4 (.bool true) (fuel := 0) rfl rfl (by kernel_rfl) (by kernel_rfl) (by kernel_rfl) (fun _ _ _ h => h) (by rfl) (fun w hSw => by go_simp) hHeld ?_
          simp only [Act.put, List.setIfInBounds_toArray, List.set_cons_zero, List.set_cons_succ]
          refine wpAnyH_done (by kernel_rfl) ?_ _
          go_wp2_with fail
          go_ret
          exact ⟨ret_bool (by rw [HR.out]; try simp), hHeld.1⟩
        · have hd : (((x4 : Nat) : Int) == 0) = false := by simp; omega
          have HZ := Lib.hid hz
          clear hz
          refine wp_region_held_drew (S := fun w' => Box2 w w' w.heap.size (w.heap.size + 1) 31 (iaC st it a2 n2 c2 a3 n3 c3 a4 n4 c4 a5 n5 c5) (iaC su iu b2 m2 d2 b3 m3 d3 b4 m4 d4 b5 m5 d5)) (by kernel_rfl) SD (fun hHeld => ?_)
          change wpAnyH _ _ _ _ _ 35 (Array.replicate 35 false) _ _
          refine take_op 0 5 (.pointer (some ⟨w.heap.size, 2, none⟩)) (fuel := 34) rfl rfl (by kernel_rfl) (by kernel_rfl) (by kernel_rfl) (fun _ _ _ h => h) (by rfl) (fun w hSw => by go_simp) hHeld ?_
          simp only [Act.put, List.setIfInBounds_toArray, List.set_cons_zero, List.set_cons_succ]
          refine take_op 1 6 (.slice a2 n2 c2) (fuel := 33) rfl rfl (by kernel_rfl) (by kernel_rfl) (by kernel_rfl) (fun _ _ _ h => h) (by rfl) (fun w hSw => by have m := hSw.2.1.cell (j := 2) (u := .slice a2 n2 c2) rfl; go_simp) hHeld ?_
          simp only [Act.put, List.setIfInBounds_toArray, List.set_cons_zero, List.set_cons_succ]
          refine take_op 2 7 (.pointer (some ⟨w.heap.size + 1, 2, none⟩)) (fuel := 32) rfl rfl (by kernel_rfl) (by kernel_rfl) (by kernel_rfl) (fun _ _ _ h => h) (by rfl) (fun w hSw => by go_simp) hHeld ?_
          simp only [Act.put, List.setIfInBounds_toArray, List.set_cons_zero, List.set_cons_succ]
          refine take_op 3 8 (.slice b2 m2 d2) (fuel := 31) rfl rfl (by kernel_rfl) (by kernel_rfl) (by kernel_rfl) (fun _ _ _ h => h) (by rfl) (fun w hSw => by have m := hSw.2.2.cell (j := 2) (u := .slice b2 m2 d2) rfl; go_simp) hHeld ?_
          simp only [Act.put, List.setIfInBounds_toArray, List.set_cons_zero, List.set_cons_succ]
          refine wpAnyH_ready (rs := [4]) (fuel := 30) (by kernel_rfl) (by simp) ?_
          refine AllReadyH.cons rfl (fun K hK => ?_) AllReadyH.nil
          go_simp
          refine (M1.out _ hHeld).mono ?_
          rintro e w1 ⟨ad1, cc1, rfl, hS⟩
          go_wp2_with fail
          refine hK.out _ _ hS (fun hHeld => ?_)
          clear hK K
          refine take_op 5 10 (.int .i64 0) (fuel := 29) rfl rfl (by kernel_rfl) (by kernel_rfl) (by kernel_rfl) (fun _ _ _ h => h) (by rfl) (fun w hSw => by go_simp) hHeld ?_
          simp only [Act.put, List.setIfInBounds_toArray, List.set_cons_zero, List.set_cons_succ]
          refine take_op 6 11 (.bool true) (fuel := 28) rfl rfl (by kernel_rfl) (by kernel_rfl) (by kernel_rfl) (fun _ _ _ h => h) (by rfl) (fun w hSw => by go_simp) hHeld ?_
          simp only [Act.put, List.setIfInBounds_toArray, List.set_cons_zero, List.set_cons_succ]
          refine take_op 7 12 (.bool true) (fuel := 27) rfl rfl (by kernel_rfl) (by kernel_rfl) (by kernel_rfl) (fun _ _ _ h => h) (by rfl) (fun w hSw => by go_simp) hHeld ?_
          simp only [Act.put, List.setIfInBounds_toArray, List.set_cons_zero, List.set_cons_succ]
          refine take_op 8 13 (.pointer (some ⟨w.heap.size, 3, none⟩)) (fuel := 26) rfl rfl (by kernel_rfl) (by kernel_rfl) (by kernel_rfl) (fun _ _ _ h => h) (by rfl) (fun w hSw => by go_simp) hHeld ?_
          simp only [Act.put, List.setIfInBounds_toArray, List.set_cons_zero, List.set_cons_succ]
          refine take_op 9 14 (.slice a3 n3 c3) (fuel := 25) rfl rfl (by kernel_rfl) (by kernel_rfl) (by kernel_rfl) (fun _ _ _ h => h) (by rfl) (fun w hSw => by have m := hSw.2.1.cell (j := 3) (u := .slice a3 n3 c3) rfl; go_simp) hHeld ?_
          simp only [Act.put, List.setIfInBounds_toArray, List.set_cons_zero, List.set_cons_succ]
          refine take_op 10 15 (.pointer (some ⟨w.heap.size + 1, 3, none⟩)) (fuel := 24) rfl rfl (by kernel_rfl) (by kernel_rfl) (by kernel_rfl) (fun _ _ _ h => h) (by rfl) (fun w hSw => by go_simp) hHeld ?_
          simp only [Act.put, List.setIfInBounds_toArray, List.set_cons_zero, List.set_cons_succ]
          refine take_op 11 16 (.slice b3 m3 d3) (fuel := 23) rfl rfl (by kernel_rfl) (by kernel_rfl) (by kernel_rfl) (fun _ _ _ h => h) (by rfl) (fun w hSw => by have m := hSw.2.2.cell (j := 3) (u := .slice b3 m3 d3) rfl; go_simp) hHeld ?_
          simp only [Act.put, List.setIfInBounds_toArray, List.set_cons_zero, List.set_cons_succ]
          refine wpAnyH_ready (rs := [12]) (fuel := 22) (by kernel_rfl) (by simp) ?_
          refine AllReadyH.cons rfl (fun K hK => ?_) AllReadyH.nil
          go_simp
          refine (M2.out _ hHeld).mono ?_
          rintro e w2 ⟨ad2, cc2, rfl, hS⟩
          go_wp2_with fail
          refine hK.out _ _ hS (fun hHeld => ?_)
          clear hK K
          refine take_op 13 18 (.int .i64 0) (fuel := 21) rfl rfl (by kernel_rfl) (by kernel_rfl) (by kernel_rfl) (fun _ _ _ h => h) (by rfl) (fun w hSw => by go_simp) hHeld ?_
          simp only [Act.put, List.setIfInBounds_toArray, List.set_cons_zero, List.set_cons_succ]
          refine take_op 14 19 (.bool true) (fuel := 20) rfl rfl (by kernel_rfl) (by kernel_rfl) (by kernel_rfl) (fun _ _ _ h => h) (by rfl) (fun w hSw => by go_simp) hHeld ?_
          simp only [Act.put, List.setIfInBounds_toArray, List.set_cons_zero, List.set_cons_succ]
          refine take_op 15 20 (.bool true) (fuel := 19) rfl rfl (by kernel_rfl) (by kernel_rfl) (by kernel_rfl) (fun _ _ _ h => h) (by rfl) (fun w hSw => by go_simp) hHeld ?_
          simp only [Act.put, List.setIfInBounds_toArray, List.set_cons_zero, List.set_cons_succ]
          refine take_op 16 21 (.bool true) (fuel := 18) rfl rfl (by kernel_rfl) (by kernel_rfl) (by kernel_rfl) (fun _ _ _ h => h) (by rfl) (fun w hSw => by go_simp) hHeld ?_
          simp only [Act.put, List.setIfInBounds_toArray, List.set_cons_zero, List.set_cons_succ]
          refine take_op 17 22 (.pointer (some ⟨w.heap.size, 4, none⟩)) (fuel := 17) rfl rfl (by kernel_rfl) (by kernel_rfl) (by kernel_rfl) (fun _ _ _ h => h) (by rfl) (fun w hSw => by go_simp) hHeld ?_
          simp only [Act.put, List.setIfInBounds_toArray, List.set_cons_zero, List.set_cons_succ]
          refine take_op 18 23 (.slice a4 n4 c4) (fuel := 16) rfl rfl (by kernel_rfl) (by kernel_rfl) (by kernel_rfl) (fun _ _ _ h => h) (by rfl) (fun w hSw => by have m := hSw.2.1.cell (j := 4) (u := .slice a4 n4 c4) rfl; go_simp) hHeld ?_
          simp only [Act.put, List.setIfInBounds_toArray, List.set_cons_zero, List.set_cons_succ]
          refine take_yields 19 24 (.agg #[.int .i64 su, .int .i64 iu, .slice b2 m2 d2, .slice b3 m3 d3, .slice b4 m4 d4, .slice b5 m5 d5]) (fuel := 15) rfl rfl (by kernel_rfl) (by kernel_rfl) (by kernel_rfl) (fun _ _ _ h => h) (yieldsIf_load_mid (by rfl) _ _ rfl (w.heap.size + 1) 0 rfl (iaC su iu b2 m2 d2 b3 m3 d3 b4 m4 d4 b5 m5 d5).toList _ (fun w hw => hw.2.2.range) Tryz.underlying31 rfl (by kernel_rfl)) hHeld ?_
          simp only [Act.put, List.setIfInBounds_toArray, List.set_cons_zero, List.set_cons_succ]
          refine wpAnyH_ready (rs := [20]) (fuel := 14) (by kernel_rfl) (by simp) ?_
          refine AllReadyH.cons rfl (fun K hK => ?_) AllReadyH.nil
          go_simp
          refine (CB.out _ hHeld).mono ?_
          rintro e w3 ⟨ad3, n3x, cc3, rfl, hr3, hn3, hS⟩
          go_wp2_with fail
          refine hK.out _ _ hS (fun hHeld => ?_)
          clear hK K
          refine wpAnyH_ready (rs := [21]) (fuel := 13) (by kernel_rfl) (by simp) ?_
          refine AllReadyH.cons rfl (fun K hK => ?_) AllReadyH.nil
          go_simp
          refine (M3.out _ _ _ _ hr3 hn3 hHeld).mono ?_
          rintro e w4 ⟨ad4, cc4, rfl, hS⟩
          clear hr3
          go_wp2_with fail
          refine hK.out _ _ hS (fun hHeld => ?_)
          clear hK K
          refine take_op 22 27 (.int .i64 0) (fuel := 12) rfl rfl (by kernel_rfl) (by kernel_rfl) (by kernel_rfl) (fun _ _ _ h => h) (by rfl) (fun w hSw => by go_simp) hHeld ?_
          simp only [Act.put, List.setIfInBounds_toArray, List.set_cons_zero, List.set_cons_succ]
          refine take_op 23 28 (.bool true) (fuel := 11) rfl rfl (by kernel_rfl) (by kernel_rfl) (by kernel_rfl) (fun _ _ _ h => h) (by rfl) (fun w hSw => by go_simp) hHeld ?_
          simp only [Act.put, List.setIfInBounds_toArray, List.set_cons_zero, List.set_cons_succ]
          refine take_op 24 29 (.bool true) (fuel := 10) rfl rfl (by kernel_rfl) (by kernel_rfl) (by kernel_rfl) (fun _ _ _ h => h) (by rfl) (fun w hSw => by go_simp) hHeld ?_
          simp only [Act.put, List.setIfInBounds_toArray, List.set_cons_zero, List.set_cons_succ]
          refine take_op 25 30 (.bool true) (fuel := 9) rfl rfl (by kernel_rfl) (by kernel_rfl) (by kernel_rfl) (fun _ _ _ h => h) (by rfl) (fun w hSw => by go_simp) hHeld ?_
          simp only [Act.put, List.setIfInBounds_toArray, List.set_cons_zero, List.set_cons_succ]
          refine take_op 26 31 (.pointer (some ⟨w.heap.size + 1, 4, none⟩)) (fuel := 8) rfl rfl (by kernel_rfl) (by kernel_rfl) (by kernel_rfl) (fun _ _ _ h => h) (by rfl) (fun w hSw => by go_simp) hHeld ?_
          simp only [Act.put, List.setIfInBounds_toArray, List.set_cons_zero, List.set_cons_succ]
          refine take_op 27 32 (.slice b4 m4 d4) (fuel := 7) rfl rfl (by kernel_rfl) (by kernel_rfl) (by kernel_rfl) (fun _ _ _ h => h) (by rfl) (fun w hSw => by have m := hSw.2.2.cell (j := 4) (u := .slice b4 m4 d4) rfl; go_simp) hHeld ?_
          simp only [Act.put, List.setIfInBounds_toArray, List.set_cons_zero, List.set_cons_succ]
          refine take_yields 28 33 (.agg #[.int .i64 st, .int .i64 it, .slice a2 n2 c2, .slice a3 n3 c3, .slice a4 n4 c4, .slice a5 n5 c5]) (fuel := 6) rfl rfl (by kernel_rfl) (by kernel_rfl) (by kernel_rfl) (fun _ _ _ h => h) (yieldsIf_load_mid (by rfl) _ _ rfl (w.heap.size) 0 rfl (iaC st it a2 n2 c2 a3 n3 c3 a4 n4 c4 a5 n5 c5).toList _ (fun w hw => hw.2.1.range) Tryz.underlying31 rfl (by kernel_rfl)) hHeld ?_
          simp only [Act.put, List.setIfInBounds_toArray, List.set_cons_zero, List.set_cons_succ]
          refine wpAnyH_ready (rs := [29]) (fuel := 5) (by kernel_rfl) (by simp) ?_
          refine AllReadyH.cons rfl (fun K hK => ?_) AllReadyH.nil
          go_simp
          refine (CA.out _ hHeld).mono ?_
          rintro e w5 ⟨ad5, n5x, cc5, rfl, hr5, hn5, hS⟩
          go_wp2_with fail
          refine hK.out _ _ hS (fun hHeld => ?_)
          clear hK K
          refine wpAnyH_ready (rs := [30]) (fuel := 4) (by kernel_rfl) (by simp) ?_
          refine AllReadyH.cons rfl (fun K hK => ?_) AllReadyH.nil
          go_simp
          refine (M4.out _ _ _ _ hr5 hn5 hHeld).mono ?_
          rintro e w6 ⟨ad6, cc6, rfl, hS⟩
          clear hr5
          go_wp2_with fail
          refine hK.out _ _ hS (fun hHeld => ?_)
          clear hK K
          refine take_op 31 36 (.int .i64 ((x4 : Nat) : Int)) (fuel := 3) rfl rfl (by kernel_rfl) (by kernel_rfl) (by kernel_rfl) (fun _ _ _ h => h) (by rfl) (fun w hSw => by go_simp) hHeld ?_
          simp only [Act.put, List.setIfInBounds_toArray, List.set_cons_zero, List.set_cons_succ]
          refine take_op 32 37 (.bool false) (fuel := 2) rfl rfl (by kernel_rfl) (by kernel_rfl) (by kernel_rfl) (fun _ _ _ h => h) (by rfl) (fun w hSw => by go_simp) hHeld ?_
          simp only [Act.put, List.setIfInBounds_toArray, List.set_cons_zero, List.set_cons_succ]
          refine take_op 33 38 (.bool false) (fuel := 1) rfl rfl (by kernel_rfl) (by kernel_rfl) (by kernel_rfl) (fun _ _ _ h => h) (by rfl) (fun w hSw => by go_simp) hHeld ?_
          simp only [Act.put, List.setIfInBounds_toArray, List.set_cons_zero, List.set_cons_succ]
          refine take_op 34 4 (.bool false) (fuel := 0) rfl rfl (by kernel_rfl) (by kernel_rfl) (by kernel_rfl) (fun _ _ _ h => h) (by rfl) (fun w hSw => by go_simp) hHeld ?_
          simp only [Act.put, List.setIfInBounds_toArray, List.set_cons_zero, List.set_cons_succ]
          refine wpAnyH_done (by kernel_rfl) ?_ _
          go_wp2_with fail
          go_ret
          exact ⟨ret_bool (by rw [HR.out, decide_eq_false HZ.out]; try simp), hHeld.1⟩
      · have hd : (((x3 : Nat) : Int) == 0) = false := by simp; omega
        have HZ := Lib.hid hz
        clear hz
        refine wp_region_held_drew (S := fun w' => Box2 w w' w.heap.size (w.heap.size + 1) 31 (iaC st it a2 n2 c2 a3 n3 c3 a4 n4 c4 a5 n5 c5) (iaC su iu b2 m2 d2 b3 m3 d3 b4 m4 d4 b5 m5 d5)) (by kernel_rfl) SD (fun hHeld => ?_)
        change wpAnyH _ _ _ _ _ 35 (Array.replicate 35 false) _ _
        refine take_op 0 5 (.pointer (some ⟨w.heap.size, 2, none⟩)) (fuel := 34) rfl rfl (by kernel_rfl) (by kernel_rfl) (by kernel_rfl) (fun _ _ _ h => h) (by rfl) (fun w hSw => by go_simp) hHeld ?_
        simp only [Act.put, List.setIfInBounds_toArray, List.set_cons_zero, List.set_cons_succ]
        refine take_op 1 6 (.slice a2 n2 c2) (fuel := 33) rfl rfl (by kernel_rfl) (by kernel_rfl) (by kernel_rfl) (fun _ _ _ h => h) (by rfl) (fun w hSw => by have m := hSw.2.1.cell (j := 2) (u := .slice a2 n2 c2) rfl; go_simp) hHeld ?_
        simp only [Act.put, List.setIfInBounds_toArray, List.set_cons_zero, List.set_cons_succ]
        refine take_op 2 7 (.pointer (some ⟨w.heap.size + 1, 2, none⟩)) (fuel := 32) rfl rfl (by kernel_rfl) (by kernel_rfl) (by kernel_rfl) (fun _ _ _ h => h) (by rfl) (fun w hSw => by go_simp) hHeld ?_
        simp only [Act.put, List.setIfInBounds_toArray, List.set_cons_zero, List.set_cons_succ]
        refine take_op 3 8 (.slice b2 m2 d2) (fuel := 31) rfl rfl (by kernel_rfl) (by kernel_rfl) (by kernel_rfl) (fun _ _ _ h => h) (by rfl) (fun w hSw => by have m := hSw.2.2.cell (j := 2) (u := .slice b2 m2 d2) rfl; go_simp) hHeld ?_
        simp only [Act.put, List.setIfInBounds_toArray, List.set_cons_zero, List.set_cons_succ]
        refine wpAnyH_ready (rs := [4]) (fuel := 30) (by kernel_rfl) (by simp) ?_
        refine AllReadyH.cons rfl (fun K hK => ?_) AllReadyH.nil
        go_simp
        refine (M1.out _ hHeld).mono ?_
        rintro e w1 ⟨ad1, cc1, rfl, hS⟩
        go_wp2_with fail
        refine hK.out _ _ hS (fun hHeld => ?_)
        clear hK K
        refine take_op 5 10 (.int .i64 0) (fuel := 29) rfl rfl (by kernel_rfl) (by kernel_rfl) (by kernel_rfl) (fun _ _ _ h => h) (by rfl) (fun w hSw => by go_simp) hHeld ?_
        simp only [Act.put, List.setIfInBounds_toArray, List.set_cons_zero, List.set_cons_succ]
        refine take_op 6 11 (.bool true) (fuel := 28) rfl rfl (by kernel_rfl) (by kernel_rfl) (by kernel_rfl) (fun _ _ _ h => h) (by rfl) (fun w hSw => by go_simp) hHeld ?_
        simp only [Act.put, List.setIfInBounds_toArray, List.set_cons_zero, List.set_cons_succ]
        refine take_op 7 12 (.bool true) (fuel := 27) rfl rfl (by kernel_rfl) (by kernel_rfl) (by kernel_rfl) (fun _ _ _ h => h) (by rfl) (fun w hSw => by go_simp) hHeld ?_
        simp only [Act.put, List.setIfInBounds_toArray, List.set_cons_zero, List.set_cons_succ]
        refine take_op 8 13 (.pointer (some ⟨w.heap.size, 3, none⟩)) (fuel := 26) rfl rfl (by kernel_rfl) (by kernel_rfl) (by kernel_rfl) (fun _ _ _ h => h) (by rfl) (fun w hSw => by go_simp) hHeld ?_
        simp only [Act.put, List.setIfInBounds_toArray, List.set_cons_zero, List.set_cons_succ]
        refine take_op 9 14 (.slice a3 n3 c3) (fuel := 25) rfl rfl (by kernel_rfl) (by kernel_rfl) (by kernel_rfl) (fun _ _ _ h => h) (by rfl) (fun w hSw => by have m := hSw.2.1.cell (j := 3) (u := .slice a3 n3 c3) rfl; go_simp) hHeld ?_
        simp only [Act.put, List.setIfInBounds_toArray, List.set_cons_zero, List.set_cons_succ]
        refine take_op 10 15 (.pointer (some ⟨w.heap.size + 1, 3, none⟩)) (fuel := 24) rfl rfl (by kernel_rfl) (by kernel_rfl) (by kernel_rfl) (fun _ _ _ h => h) (by rfl) (fun w hSw => by go_simp) hHeld ?_
        simp only [Act.put, List.setIfInBounds_toArray, List.set_cons_zero, List.set_cons_succ]
        refine take_op 11 16 (.slice b3 m3 d3) (fuel := 23) rfl rfl (by kernel_rfl) (by kernel_rfl) (by kernel_rfl) (fun _ _ _ h => h) (by rfl) (fun w hSw => by have m := hSw.2.2.cell (j := 3) (u := .slice b3 m3 d3) rfl; go_simp) hHeld ?_
        simp only [Act.put, List.setIfInBounds_toArray, List.set_cons_zero, List.set_cons_succ]
        refine wpAnyH_ready (rs := [12]) (fuel := 22) (by kernel_rfl) (by simp) ?_
        refine AllReadyH.cons rfl (fun K hK => ?_) AllReadyH.nil
        go_simp
        refine (M2.out _ hHeld).mono ?_
        rintro e w2 ⟨ad2, cc2, rfl, hS⟩
        go_wp2_with fail
        refine hK.out _ _ hS (fun hHeld => ?_)
        clear hK K
        refine take_op 13 18 (.int .i64 0) (fuel := 21) rfl rfl (by kernel_rfl) (by kernel_rfl) (by kernel_rfl) (fun _ _ _ h => h) (by rfl) (fun w hSw => by go_simp) hHeld ?_
        simp only [Act.put, List.setIfInBounds_toArray, List.set_cons_zero, List.set_cons_succ]
        refine take_op 14 19 (.bool true) (fuel := 20) rfl rfl (by kernel_rfl) (by kernel_rfl) (by kernel_rfl) (fun _ _ _ h => h) (by rfl) (fun w hSw => by go_simp) hHeld ?_
        simp only [Act.put, List.setIfInBounds_toArray, List.set_cons_zero, List.set_cons_succ]
        refine take_op 15 20 (.bool true) (fuel := 19) rfl rfl (by kernel_rfl) (by kernel_rfl) (by kernel_rfl) (fun _ _ _ h => h) (by rfl) (fun w hSw => by go_simp) hHeld ?_
        simp only [Act.put, List.setIfInBounds_toArray, List.set_cons_zero, List.set_cons_succ]
        refine take_op 16 21 (.bool true) (fuel := 18) rfl rfl (by kernel_rfl) (by kernel_rfl) (by kernel_rfl) (fun _ _ _ h => h) (by rfl) (fun w hSw => by go_simp) hHeld ?_
        simp only [Act.put, List.setIfInBounds_toArray, List.set_cons_zero, List.set_cons_succ]
        refine take_op 17 22 (.pointer (some ⟨w.heap.size, 4, none⟩)) (fuel := 17) rfl rfl (by kernel_rfl) (by kernel_rfl) (by kernel_rfl) (fun _ _ _ h => h) (by rfl) (fun w hSw => by go_simp) hHeld ?_
        simp only [Act.put, List.setIfInBounds_toArray, List.set_cons_zero, List.set_cons_succ]
        refine take_op 18 23 (.slice a4 n4 c4) (fuel := 16) rfl rfl (by kernel_rfl) (by kernel_rfl) (by kernel_rfl) (fun _ _ _ h => h) (by rfl) (fun w hSw => by have m := hSw.2.1.cell (j := 4) (u := .slice a4 n4 c4) rfl; go_simp) hHeld ?_
        simp only [Act.put, List.setIfInBounds_toArray, List.set_cons_zero, List.set_cons_succ]
        refine take_yields 19 24 (.agg #[.int .i64 su, .int .i64 iu, .slice b2 m2 d2, .slice b3 m3 d3, .slice b4 m4 d4, .slice b5 m5 d5]) (fuel := 15) rfl rfl (by kernel_rfl) (by kernel_rfl) (by kernel_rfl) (fun _ _ _ h => h) (yieldsIf_load_mid (by rfl) _ _ rfl (w.heap.size + 1) 0 rfl (iaC su iu b2 m2 d2 b3 m3 d3 b4 m4 d4 b5 m5 d5).toList _ (fun w hw => hw.2.2.range) Tryz.underlying31 rfl (by kernel_rfl)) hHeld ?_
        simp only [Act.put, List.setIfInBounds_toArray, List.set_cons_zero, List.set_cons_succ]
        refine wpAnyH_ready (rs := [20]) (fuel := 14) (by kernel_rfl) (by simp) ?_
        refine AllReadyH.cons rfl (fun K hK => ?_) AllReadyH.nil
        go_simp
        refine (CB.out _ hHeld).mono ?_
        rintro e w3 ⟨ad3, n3x, cc3, rfl, hr3, hn3, hS⟩
        go_wp2_with fail
        refine hK.out _ _ hS (fun hHeld => ?_)
        clear hK K
        refine wpAnyH_ready (rs := [21]) (fuel := 13) (by kernel_rfl) (by simp) ?_
        refine AllReadyH.cons rfl (fun K hK => ?_) AllReadyH.nil
        go_simp
        refine (M3.out _ _ _ _ hr3 hn3 hHeld).mono ?_
        rintro e w4 ⟨ad4, cc4, rfl, hS⟩
        clear hr3
        go_wp2_with fail
        refine hK.out _ _ hS (fun hHeld => ?_)
        clear hK K
        refine take_op 22 27 (.int .i64 ((x3 : Nat) : Int)) (fuel := 12) rfl rfl (by kernel_rfl) (by kernel_rfl) (by kernel_rfl) (fun _ _ _ h => h) (by rfl) (fun w hSw => by go_simp) hHeld ?_
        simp only [Act.put, List.setIfInBounds_toArray, List.set_cons_zero, List.set_cons_succ]
        refine take_op 23 28 (.bool false) (fuel := 11) rfl rfl (by kernel_rfl) (by kernel_rfl) (by kernel_rfl) (fun _ _ _ h => h) (by rfl) (fun w hSw => by go_simp) hHeld ?_
        simp only [Act.put, List.setIfInBounds_toArray, List.set_cons_zero, List.set_cons_succ]
        refine take_op 24 29 (.bool false) (fuel := 10) rfl rfl (by kernel_rfl) (by kernel_rfl) (by kernel_rfl) (fun _ _ _ h => h) (by rfl) (fun w hSw => by go_simp) hHeld ?_
        simp only [Act.put, List.setIfInBounds_toArray, List.set_cons_zero, List.set_cons_succ]
        refine take_op 25 30 (.bool false) (fuel := 9) rfl rfl (by kernel_rfl) (by kernel_rfl) (by kernel_rfl) (fun _ _ _ h => h) (by rfl) (fun w hSw => by go_simp) hHeld ?_
        simp only [Act.put, List.setIfInBounds_toArray, List.set_cons_zero, List.set_cons_succ]
        refine skip_op 26 31 (fuel := 8) rfl rfl (by kernel_rfl) (by kernel_rfl) (by kernel_rfl) (fun _ _ _ h => h) (by rfl) hHeld ?_
        simp only [Act.put, List.setIfInBounds_toArray, List.set_cons_zero, List.set_cons_succ]
        refine skip_op 27 32 (fuel := 7) rfl rfl (by kernel_rfl) (by kernel_rfl) (by kernel_rfl) (fun _ _ _ h => h) (by rfl) hHeld ?_
        simp only [Act.put, List.setIfInBounds_toArray, List.set_cons_zero, List.set_cons_succ]
        refine skip_op 28 33 (fuel := 6) rfl rfl (by kernel_rfl) (by kernel_rfl) (by kernel_rfl) (fun _ _ _ h => h) (by rfl) hHeld ?_
        simp only [Act.put, List.setIfInBounds_toArray, List.set_cons_zero, List.set_cons_succ]
        refine skip_op 29 34 (fuel := 5) rfl rfl (by kernel_rfl) (by kernel_rfl) (by kernel_rfl) (fun _ _ _ h => h) (by rfl) hHeld ?_
        simp only [Act.put, List.setIfInBounds_toArray, List.set_cons_zero, List.set_cons_succ]
        refine skip_op 30 35 (fuel := 4) rfl rfl (by kernel_rfl) (by kernel_rfl) (by kernel_rfl) (fun _ _ _ h => h) (by rfl) hHeld ?_
        simp only [Act.put, List.setIfInBounds_toArray, List.set_cons_zero, List.set_cons_succ]
        refine skip_op 31 36 (fuel := 3) rfl rfl (by kernel_rfl) (by kernel_rfl) (by kernel_rfl) (fun _ _ _ h => h) (by rfl) hHeld ?_
        simp only [Act.put, List.setIfInBounds_toArray, List.set_cons_zero, List.set_cons_succ]
        refine skip_op 32 37 (fuel := 2) rfl rfl (by kernel_rfl) (by kernel_rfl) (by kernel_rfl) (fun _ _ _ h => h) (by rfl) hHeld ?_
        simp only [Act.put, List.setIfInBounds_toArray, List.set_cons_zero, List.set_cons_succ]
        refine take_op 33 38 (.bool false) (fuel := 1) rfl rfl (by kernel_rfl) (by kernel_rfl) (by kernel_rfl) (fun _ _ _ h => h) (by rfl) (fun w hSw => by go_simp) hHeld ?_
        simp only [Act.put, List.setIfInBounds_toArray, List.set_cons_zero, List.set_cons_succ]
        refine take_op 34 4 (.bool false) (fuel := 0) rfl rfl (by kernel_rfl) (by kernel_rfl) (by kernel_rfl) (fun _ _ _ h => h) (by rfl) (fun w hSw => by go_simp) hHeld ?_
        simp only [Act.put, List.setIfInBounds_toArray, List.set_cons_zero, List.set_cons_succ]
        refine wpAnyH_done (by kernel_rfl) ?_ _
        go_wp2_with fail
        go_ret
        exact ⟨ret_bool (by rw [HR.out, decide_eq_false HZ.out]; try simp), hHeld.1⟩
    · have hd : (((x2 : Nat) : Int) == 0) = false := by simp; omega
      have HZ := Lib.hid hz
      clear hz
      refine wp_region_held_drew (S := fun w' => Box2 w w' w.heap.size (w.heap.size + 1) 31 (iaC st it a2 n2 c2 a3 n3 c3 a4 n4 c4 a5 n5 c5) (iaC su iu b2 m2 d2 b3 m3 d3 b4 m4 d4 b5 m5 d5)) (by kernel_rfl) SD (fun hHeld => ?_)
      change wpAnyH _ _ _ _ _ 35 (Array.replicate 35 false) _ _
      refine take_op 0 5 (.pointer (some ⟨w.heap.size, 2, none⟩)) (fuel := 34) rfl rfl (by kernel_rfl) (by kernel_rfl) (by kernel_rfl) (fun _ _ _ h => h) (by rfl) (fun w hSw => by go_simp) hHeld ?_
      simp only [Act.put, List.setIfInBounds_toArray, List.set_cons_zero, List.set_cons_succ]
      refine take_op 1 6 (.slice a2 n2 c2) (fuel := 33) rfl rfl (by kernel_rfl) (by kernel_rfl) (by kernel_rfl) (fun _ _ _ h => h) (by rfl) (fun w hSw => by have m := hSw.2.1.cell (j := 2) (u := .slice a2 n2 c2) rfl; go_simp) hHeld ?_
      simp only [Act.put, List.setIfInBounds_toArray, List.set_cons_zero, List.set_cons_succ]
      refine take_op 2 7 (.pointer (some ⟨w.heap.size + 1, 2, none⟩)) (fuel := 32) rfl rfl (by kernel_rfl) (by kernel_rfl) (by kernel_rfl) (fun _ _ _ h => h) (by rfl) (fun w hSw => by go_simp) hHeld ?_
      simp only [Act.put, List.setIfInBounds_toArray, List.set_cons_zero, List.set_cons_succ]
      refine take_op 3 8 (.slice b2 m2 d2) (fuel := 31) rfl rfl (by kernel_rfl) (by kernel_rfl) (by kernel_rfl) (fun _ _ _ h => h) (by rfl) (fun w hSw => by have m := hSw.2.2.cell (j := 2) (u := .slice b2 m2 d2) rfl; go_simp) hHeld ?_
      simp only [Act.put, List.setIfInBounds_toArray, List.set_cons_zero, List.set_cons_succ]
      refine wpAnyH_ready (rs := [4]) (fuel := 30) (by kernel_rfl) (by simp) ?_
      refine AllReadyH.cons rfl (fun K hK => ?_) AllReadyH.nil
      go_simp
      refine (M1.out _ hHeld).mono ?_
      rintro e w1 ⟨ad1, cc1, rfl, hS⟩
      go_wp2_with fail
      refine hK.out _ _ hS (fun hHeld => ?_)
      clear hK K
      refine take_op 5 10 (.int .i64 0) (fuel := 29) rfl rfl (by kernel_rfl) (by kernel_rfl) (by kernel_rfl) (fun _ _ _ h => h) (by rfl) (fun w hSw => by go_simp) hHeld ?_
      simp only [Act.put, List.setIfInBounds_toArray, List.set_cons_zero, List.set_cons_succ]
      refine take_op 6 11 (.bool true) (fuel := 28) rfl rfl (by kernel_rfl) (by kernel_rfl) (by kernel_rfl) (fun _ _ _ h => h) (by rfl) (fun w hSw => by go_simp) hHeld ?_
      simp only [Act.put, List.setIfInBounds_toArray, List.set_cons_zero, List.set_cons_succ]
      refine take_op 7 12 (.bool true) (fuel := 27) rfl rfl (by kernel_rfl) (by kernel_rfl) (by kernel_rfl) (fun _ _ _ h => h) (by rfl) (fun w hSw => by go_simp) hHeld ?_
      simp only [Act.put, List.setIfInBounds_toArray, List.set_cons_zero, List.set_cons_succ]
      refine take_op 8 13 (.pointer (some ⟨w.heap.size, 3, none⟩)) (fuel := 26) rfl rfl (by kernel_rfl) (by kernel_rfl) (by kernel_rfl) (fun _ _ _ h => h) (by rfl) (fun w hSw => by go_simp) hHeld ?_
      simp only [Act.put, List.setIfInBounds_toArray, List.set_cons_zero, List.set_cons_succ]
      refine take_op 9 14 (.slice a3 n3 c3) (fuel := 25) rfl rfl (by kernel_rfl) (by kernel_rfl) (by kernel_rfl) (fun _ _ _ h => h) (by rfl) (fun w hSw => by have m := hSw.2.1.cell (j := 3) (u := .slice a3 n3 c3) rfl; go_simp) hHeld ?_
      simp only [Act.put, List.setIfInBounds_toArray, List.set_cons_zero, List.set_cons_succ]
      refine take_op 10 15 (.pointer (some ⟨w.heap.size + 1, 3, none⟩)) (fuel := 24) rfl rfl (by kernel_rfl) (by kernel_rfl) (by kernel_rfl) (fun _ _ _ h => h) (by rfl) (fun w hSw => by go_simp) hHeld ?_
      simp only [Act.put, List.setIfInBounds_toArray, List.set_cons_zero, List.set_cons_succ]
      refine take_op 11 16 (.slice b3 m3 d3) (fuel := 23) rfl rfl (by kernel_rfl) (by kernel_rfl) (by kernel_rfl) (fun _ _ _ h => h) (by rfl) (fun w hSw => by have m := hSw.2.2.cell (j := 3) (u := .slice b3 m3 d3) rfl; go_simp) hHeld ?_
      simp only [Act.put, List.setIfInBounds_toArray, List.set_cons_zero, List.set_cons_succ]
      refine wpAnyH_ready (rs := [12]) (fuel := 22) (by kernel_rfl) (by simp) ?_
      refine AllReadyH.cons rfl (fun K hK => ?_) AllReadyH.nil
      go_simp
      refine (M2.out _ hHeld).mono ?_
      rintro e w2 ⟨ad2, cc2, rfl, hS⟩
      go_wp2_with fail
      refine hK.out _ _ hS (fun hHeld => ?_)
      clear hK K
      refine take_op 13 18 (.int .i64 ((x2 : Nat) : Int)) (fuel := 21) rfl rfl (by kernel_rfl) (by kernel_rfl) (by kernel_rfl) (fun _ _ _ h => h) (by rfl) (fun w hSw => by go_simp) hHeld ?_
      simp only [Act.put, List.setIfInBounds_toArray, List.set_cons_zero, List.set_cons_succ]
      refine take_op 14 19 (.bool false) (fuel := 20) rfl rfl (by kernel_rfl) (by kernel_rfl) (by kernel_rfl) (fun _ _ _ h => h) (by rfl) (fun w hSw => by go_simp) hHeld ?_
      simp only [Act.put, List.setIfInBounds_toArray, List.set_cons_zero, List.set_cons_succ]
      refine take_op 15 20 (.bool false) (fuel := 19) rfl rfl (by kernel_rfl) (by kernel_rfl) (by kernel_rfl) (fun _ _ _ h => h) (by rfl) (fun w hSw => by go_simp) hHeld ?_
      simp only [Act.put, List.setIfInBounds_toArray, List.set_cons_zero, List.set_cons_succ]
      refine take_op 16 21 (.bool false) (fuel := 18) rfl rfl (by kernel_rfl) (by kernel_rfl) (by kernel_rfl) (fun _ _ _ h => h) (by rfl) (fun w hSw => by go_simp) hHeld ?_
      simp only [Act.put, List.setIfInBounds_toArray, List.set_cons_zero, List.set_cons_succ]
      refine skip_op 17 22 (fuel := 17) rfl rfl (by kernel_rfl) (by kernel_rfl) (by kernel_rfl) (fun _ _ _ h => h) (by rfl) hHeld ?_
      simp only [Act.put, List.setIfInBounds_toArray, List.set_cons_zero, List.set_cons_succ]
      refine skip_op 18 23 (fuel := 16) rfl rfl (by kernel_rfl) (by kernel_rfl) (by kernel_rfl) (fun _ _ _ h => h) (by rfl) hHeld ?_
      simp only [Act.put, List.setIfInBounds_toArray, List.set_cons_zero, List.set_cons_succ]
      refine skip_op 19 24 (fuel := 15) rfl rfl (by kernel_rfl) (by kernel_rfl) (by kernel_rfl) (fun _ _ _ h => h) (by rfl) hHeld ?_
      simp only [Act.put, List.setIfInBounds_toArray, List.set_cons_zero, List.set_cons_succ]
      refine skip_op 20 25 (fuel := 14) rfl rfl (by kernel_rfl) (by kernel_rfl) (by kernel_rfl) (fun _ _ _ h => h) (by rfl) hHeld ?_
      simp only [Act.put, List.setIfInBounds_toArray, List.set_cons_zero, List.set_cons_succ]
      refine skip_op 21 26 (fuel := 13) rfl rfl (by kernel_rfl) (by kernel_rfl) (by kernel_rfl) (fun _ _ _ h => h) (by rfl) hHeld ?_
      simp only [Act.put, List.setIfInBounds_toArray, List.set_cons_zero, List.set_cons_succ]
      refine skip_op 22 27 (fuel := 12) rfl rfl (by kernel_rfl) (by kernel_rfl) (by kernel_rfl) (fun _ _ _ h => h) (by rfl) hHeld ?_
      simp only [Act.put, List.setIfInBounds_toArray, List.set_cons_zero, List.set_cons_succ]
      refine skip_op 23 28 (fuel := 11) rfl rfl (by kernel_rfl) (by kernel_rfl) (by kernel_rfl) (fun _ _ _ h => h) (by rfl) hHeld ?_
      simp only [Act.put, List.setIfInBounds_toArray, List.set_cons_zero, List.set_cons_succ]
      refine take_op 24 29 (.bool false) (fuel := 10) rfl rfl (by kernel_rfl) (by kernel_rfl) (by kernel_rfl) (fun _ _ _ h => h) (by rfl) (fun w hSw => by go_simp) hHeld ?_
      simp only [Act.put, List.setIfInBounds_toArray, List.set_cons_zero, List.set_cons_succ]
      refine take_op 25 30 (.bool false) (fuel := 9) rfl rfl (by kernel_rfl) (by kernel_rfl) (by kernel_rfl) (fun _ _ _ h => h) (by rfl) (fun w hSw => by go_simp) hHeld ?_
      simp only [Act.put, List.setIfInBounds_toArray, List.set_cons_zero, List.set_cons_succ]
      refine skip_op 26 31 (fuel := 8) rfl rfl (by kernel_rfl) (by kernel_rfl) (by kernel_rfl) (fun _ _ _ h => h) (by rfl) hHeld ?_
      simp only [Act.put, List.setIfInBounds_toArray, List.set_cons_zero, List.set_cons_succ]
      refine skip_op 27 32 (fuel := 7) rfl rfl (by kernel_rfl) (by kernel_rfl) (by kernel_rfl) (fun _ _ _ h => h) (by rfl) hHeld ?_
      simp only [Act.put, List.setIfInBounds_toArray, List.set_cons_zero, List.set_cons_succ]
      refine skip_op 28 33 (fuel := 6) rfl rfl (by kernel_rfl) (by kernel_rfl) (by kernel_rfl) (fun _ _ _ h => h) (by rfl) hHeld ?_
      simp only [Act.put, List.setIfInBounds_toArray, List.set_cons_zero, List.set_cons_succ]
      refine skip_op 29 34 (fuel := 5) rfl rfl (by kernel_rfl) (by kernel_rfl) (by kernel_rfl) (fun _ _ _ h => h) (by rfl) hHeld ?_
      simp only [Act.put, List.setIfInBounds_toArray, List.set_cons_zero, List.set_cons_succ]
      refine skip_op 30 35 (fuel := 4) rfl rfl (by kernel_rfl) (by kernel_rfl) (by kernel_rfl) (fun _ _ _ h => h) (by rfl) hHeld ?_
      simp only [Act.put, List.setIfInBounds_toArray, List.set_cons_zero, List.set_cons_succ]
      refine skip_op 31 36 (fuel := 3) rfl rfl (by kernel_rfl) (by kernel_rfl) (by kernel_rfl) (fun _ _ _ h => h) (by rfl) hHeld ?_
      simp only [Act.put, List.setIfInBounds_toArray, List.set_cons_zero, List.set_cons_succ]
      refine skip_op 32 37 (fuel := 2) rfl rfl (by kernel_rfl) (by kernel_rfl) (by kernel_rfl) (fun _ _ _ h => h) (by rfl) hHeld ?_
      simp only [Act.put, List.setIfInBounds_toArray, List.set_cons_zero, List.set_cons_succ]
      refine take_op 33 38 (.bool false) (fuel := 1) rfl rfl (by kernel_rfl) (by kernel_rfl) (by kernel_rfl) (fun _ _ _ h => h) (by rfl) (fun w hSw => by go_simp) hHeld ?_
      simp only [Act.put, List.setIfInBounds_toArray, List.set_cons_zero, List.set_cons_succ]
      refine take_op 34 4 (.bool false) (fuel := 0) rfl rfl (by kernel_rfl) (by kernel_rfl) (by kernel_rfl) (fun _ _ _ h => h) (by rfl) (fun w hSw => by go_simp) hHeld ?_
      simp only [Act.put, List.setIfInBounds_toArray, List.set_cons_zero, List.set_cons_succ]
      refine wpAnyH_done (by kernel_rfl) ?_ _
      go_wp2_with fail
      go_ret
      exact ⟨ret_bool (by rw [HR.out, decide_eq_false HZ.out]; try simp), hHeld.1⟩
  · have hd : (((x1 : Nat) : Int) == 0) = false := by simp; omega
    have HZ := Lib.hid hz
    clear hz
    refine wp_region_held_drew (S := fun w' => Box2 w w' w.heap.size (w.heap.size + 1) 31 (iaC st it a2 n2 c2 a3 n3 c3 a4 n4 c4 a5 n5 c5) (iaC su iu b2 m2 d2 b3 m3 d3 b4 m4 d4 b5 m5 d5)) (by kernel_rfl) SD (fun hHeld => ?_)
    change wpAnyH _ _ _ _ _ 35 (Array.replicate 35 false) _ _
    refine take_op 0 5 (.pointer (some ⟨w.heap.size, 2, none⟩)) (fuel := 34) rfl rfl (by kernel_rfl) (by kernel_rfl) (by kernel_rfl) (fun _ _ _ h => h) (by rfl) (fun w hSw => by go_simp) hHeld ?_
    simp only [Act.put, List.setIfInBounds_toArray, List.set_cons_zero, List.set_cons_succ]
    refine take_op 1 6 (.slice a2 n2 c2) (fuel := 33) rfl rfl (by kernel_rfl) (by kernel_rfl) (by kernel_rfl) (fun _ _ _ h => h) (by rfl) (fun w hSw => by have m := hSw.2.1.cell (j := 2) (u := .slice a2 n2 c2) rfl; go_simp) hHeld ?_
    simp only [Act.put, List.setIfInBounds_toArray, List.set_cons_zero, List.set_cons_succ]
    refine take_op 2 7 (.pointer (some ⟨w.heap.size + 1, 2, none⟩)) (fuel := 32) rfl rfl (by kernel_rfl) (by kernel_rfl) (by kernel_rfl) (fun _ _ _ h => h) (by rfl) (fun w hSw => by go_simp) hHeld ?_
    simp only [Act.put, List.setIfInBounds_toArray, List.set_cons_zero, List.set_cons_succ]
    refine take_op 3 8 (.slice b2 m2 d2) (fuel := 31) rfl rfl (by kernel_rfl) (by kernel_rfl) (by kernel_rfl) (fun _ _ _ h => h) (by rfl) (fun w hSw => by have m := hSw.2.2.cell (j := 2) (u := .slice b2 m2 d2) rfl; go_simp) hHeld ?_
    simp only [Act.put, List.setIfInBounds_toArray, List.set_cons_zero, List.set_cons_succ]
    refine wpAnyH_ready (rs := [4]) (fuel := 30) (by kernel_rfl) (by simp) ?_
    refine AllReadyH.cons rfl (fun K hK => ?_) AllReadyH.nil
    go_simp
    refine (M1.out _ hHeld).mono ?_
    rintro e w1 ⟨ad1, cc1, rfl, hS⟩
    go_wp2_with fail
    refine hK.out _ _ hS (fun hHeld => ?_)
    clear hK K
    refine take_op 5 10 (.int .i64 ((x1 : Nat) : Int)) (fuel := 29) rfl rfl (by kernel_rfl) (by kernel_rfl) (by kernel_rfl) (fun _ _ _ h => h) (by rfl) (fun w hSw => by go_simp) hHeld ?_
    simp only [Act.put, List.setIfInBounds_toArray, List.set_cons_zero, List.set_cons_succ]
    refine take_op 6 11 (.bool false) (fuel := 28) rfl rfl (by kernel_rfl) (by kernel_rfl) (by kernel_rfl) (fun _ _ _ h => h) (by rfl) (fun w hSw => by go_simp) hHeld ?_
    simp only [Act.put, List.setIfInBounds_toArray, List.set_cons_zero, List.set_cons_succ]
    refine take_op 7 12 (.bool false) (fuel := 27) rfl rfl (by kernel_rfl) (by kernel_rfl) (by kernel_rfl) (fun _ _ _ h => h) (by rfl) (fun w hSw => by go_simp) hHeld ?_
    simp only [Act.put, List.setIfInBounds_toArray, List.set_cons_zero, List.set_cons_succ]
    refine skip_op 8 13 (fuel := 26) rfl rfl (by kernel_rfl) (by kernel_rfl) (by kernel_rfl) (fun _ _ _ h => h) (by rfl) hHeld ?_
    simp only [Act.put, List.setIfInBounds_toArray, List.set_cons_zero, List.set_cons_succ]
    refine skip_op 9 14 (fuel := 25) rfl rfl (by kernel_rfl) (by kernel_rfl) (by kernel_rfl) (fun _ _ _ h => h) (by rfl) hHeld ?_
    simp only [Act.put, List.setIfInBounds_toArray, List.set_cons_zero, List.set_cons_succ]
    refine skip_op 10 15 (fuel := 24) rfl rfl (by kernel_rfl) (by kernel_rfl) (by kernel_rfl) (fun _ _ _ h => h) (by rfl) hHeld ?_
    simp only [Act.put, List.setIfInBounds_toArray, List.set_cons_zero, List.set_cons_succ]
    refine skip_op 11 16 (fuel := 23) rfl rfl (by kernel_rfl) (by kernel_rfl) (by kernel_rfl) (fun _ _ _ h => h) (by rfl) hHeld ?_
    simp only [Act.put, List.setIfInBounds_toArray, List.set_cons_zero, List.set_cons_succ]
    refine skip_op 12 17 (fuel := 22) rfl rfl (by kernel_rfl) (by kernel_rfl) (by kernel_rfl) (fun _ _ _ h => h) (by rfl) hHeld ?_
    simp only [Act.put, List.setIfInBounds_toArray, List.set_cons_zero, List.set_cons_succ]
    refine skip_op 13 18 (fuel := 21) rfl rfl (by kernel_rfl) (by kernel_rfl) (by kernel_rfl) (fun _ _ _ h => h) (by rfl) hHeld ?_
    simp only [Act.put, List.setIfInBounds_toArray, List.set_cons_zero, List.set_cons_succ]
    refine skip_op 14 19 (fuel := 20) rfl rfl (by kernel_rfl) (by kernel_rfl) (by kernel_rfl) (fun _ _ _ h => h) (by rfl) hHeld ?_
    simp only [Act.put, List.setIfInBounds_toArray, List.set_cons_zero, List.set_cons_succ]
    refine take_op 15 20 (.bool false) (fuel := 19) rfl rfl (by kernel_rfl) (by kernel_rfl) (by kernel_rfl) (fun _ _ _ h => h) (by rfl) (fun w hSw => by go_simp) hHeld ?_
    simp only [Act.put, List.setIfInBounds_toArray, List.set_cons_zero, List.set_cons_succ]
    refine take_op 16 21 (.bool false) (fuel := 18) rfl rfl (by kernel_rfl) (by kernel_rfl) (by kernel_rfl) (fun _ _ _ h => h) (by rfl) (fun w hSw => by go_simp) hHeld ?_
    simp only [Act.put, List.setIfInBounds_toArray, List.set_cons_zero, List.set_cons_succ]
    refine skip_op 17 22 (fuel := 17) rfl rfl (by kernel_rfl) (by kernel_rfl) (by kernel_rfl) (fun _ _ _ h => h) (by rfl) hHeld ?_
    simp only [Act.put, List.setIfInBounds_toArray, List.set_cons_zero, List.set_cons_succ]
    refine skip_op 18 23 (fuel := 16) rfl rfl (by kernel_rfl) (by kernel_rfl) (by kernel_rfl) (fun _ _ _ h => h) (by rfl) hHeld ?_
    simp only [Act.put, List.setIfInBounds_toArray, List.set_cons_zero, List.set_cons_succ]
    refine skip_op 19 24 (fuel := 15) rfl rfl (by kernel_rfl) (by kernel_rfl) (by kernel_rfl) (fun _ _ _ h => h) (by rfl) hHeld ?_
    simp only [Act.put, List.setIfInBounds_toArray, List.set_cons_zero, List.set_cons_succ]
    refine skip_op 20 25 (fuel := 14) rfl rfl (by kernel_rfl) (by kernel_rfl) (by kernel_rfl) (fun _ _ _ h => h) (by rfl) hHeld ?_
    simp only [Act.put, List.setIfInBounds_toArray, List.set_cons_zero, List.set_cons_succ]
    refine skip_op 21 26 (fuel := 13) rfl rfl (by kernel_rfl) (by kernel_rfl) (by kernel_rfl) (fun _ _ _ h => h) (by rfl) hHeld ?_
    simp only [Act.put, List.setIfInBounds_toArray, List.set_cons_zero, List.set_cons_succ]
    refine skip_op 22 27 (fuel := 12) rfl rfl (by kernel_rfl) (by kernel_rfl) (by kernel_rfl) (fun _ _ _ h => h) (by rfl) hHeld ?_
    simp only [Act.put, List.setIfInBounds_toArray, List.set_cons_zero, List.set_cons_succ]
    refine skip_op 23 28 (fuel := 11) rfl rfl (by kernel_rfl) (by kernel_rfl) (by kernel_rfl) (fun _ _ _ h => h) (by rfl) hHeld ?_
    simp only [Act.put, List.setIfInBounds_toArray, List.set_cons_zero, List.set_cons_succ]
    refine take_op 24 29 (.bool false) (fuel := 10) rfl rfl (by kernel_rfl) (by kernel_rfl) (by kernel_rfl) (fun _ _ _ h => h) (by rfl) (fun w hSw => by go_simp) hHeld ?_
    simp only [Act.put, List.setIfInBounds_toArray, List.set_cons_zero, List.set_cons_succ]
    refine take_op 25 30 (.bool false) (fuel := 9) rfl rfl (by kernel_rfl) (by kernel_rfl) (by kernel_rfl) (fun _ _ _ h => h) (by rfl) (fun w hSw => by go_simp) hHeld ?_
    simp only [Act.put, List.setIfInBounds_toArray, List.set_cons_zero, List.set_cons_succ]
    refine skip_op 26 31 (fuel := 8) rfl rfl (by kernel_rfl) (by kernel_rfl) (by kernel_rfl) (fun _ _ _ h => h) (by rfl) hHeld ?_
    simp only [Act.put, List.setIfInBounds_toArray, List.set_cons_zero, List.set_cons_succ]
    refine skip_op 27 32 (fuel := 7) rfl rfl (by kernel_rfl) (by kernel_rfl) (by kernel_rfl) (fun _ _ _ h => h) (by rfl) hHeld ?_
    simp only [Act.put, List.setIfInBounds_toArray, List.set_cons_zero, List.set_cons_succ]
    refine skip_op 28 33 (fuel := 6) rfl rfl (by kernel_rfl) (by kernel_rfl) (by kernel_rfl) (fun _ _ _ h => h) (by rfl) hHeld ?_
    simp only [Act.put, List.setIfInBounds_toArray, List.set_cons_zero, List.set_cons_succ]
    refine skip_op 29 34 (fuel := 5) rfl rfl (by kernel_rfl) (by kernel_rfl) (by kernel_rfl) (fun _ _ _ h => h) (by rfl) hHeld ?_
    simp only [Act.put, List.setIfInBounds_toArray, List.set_cons_zero, List.set_cons_succ]
    refine skip_op 30 35 (fuel := 4) rfl rfl (by kernel_rfl) (by kernel_rfl) (by kernel_rfl) (fun _ _ _ h => h) (by rfl) hHeld ?_
    simp only [Act.put, List.setIfInBounds_toArray, List.set_cons_zero, List.set_cons_succ]
    refine skip_op 31 36 (fuel := 3) rfl rfl (by kernel_rfl) (by kernel_rfl) (by kernel_rfl) (fun _ _ _ h => h) (by rfl) hHeld ?_
    simp only [Act.put, List.setIfInBounds_toArray, List.set_cons_zero, List.set_cons_succ]
    refine skip_op 32 37 (fuel := 2) rfl rfl (by kernel_rfl) (by kernel_rfl) (by kernel_rfl) (fun _ _ _ h => h) (by rfl) hHeld ?_
    simp only [Act.put, List.setIfInBounds_toArray, List.set_cons_zero, List.set_cons_succ]
    refine take_op 33 38 (.bool false) (fuel := 1) rfl rfl (by kernel_rfl) (by kernel_rfl) (by kernel_rfl) (fun _ _ _ h => h) (by rfl) (fun w hSw => by go_simp) hHeld ?_
    simp only [Act.put, List.setIfInBounds_toArray, List.set_cons_zero, List.set_cons_succ]
    refine take_op 34 4 (.bool false) (fuel := 0) rfl rfl (by kernel_rfl) (by kernel_rfl) (by kernel_rfl) (fun _ _ _ h => h) (by rfl) (fun w hSw => by go_simp) hHeld ?_
    simp only [Act.put, List.setIfInBounds_toArray, List.set_cons_zero, List.set_cons_succ]
    refine wpAnyH_done (by kernel_rfl) ?_ _
    go_wp2_with fail
    go_ret
    exact ⟨ret_bool (by rw [HR.out, decide_eq_false HZ.out]; try simp), hHeld.1⟩

set_option maxRecDepth 20000 in
set_option maxHeartbeats 3200000 in
theorem implFit_any (a b : IaD) (v u : Value) (w : World) (h : IaRow w a v) (k : IaRow w b u) (fa : Small a) (fb : Small b) :
    Calls Tryz.prog 49 #[v, u] w fun e w' => e = .returned (.bool (fitB a b)) ∧ Below w.heap.size w w' := by
  have CO : Hid (∀ W, Below w.heap.size w W → Calls Tryz.prog 69 #[v] W fun e w' => e = .returned (.bool (iaOkB a)) ∧ Below W.heap.size W w') := fun W hW => implIaOk_any a v W (h.below hW) fa.1 fa.2.1 fa.2.2.1 fa.2.2.2
  have CP : Hid (∀ W, Below w.heap.size w W → Calls Tryz.prog 69 #[u] W fun e w' => e = .returned (.bool (iaOkB b)) ∧ Below W.heap.size W w') := fun W hW => implIaOk_any b u W (k.below hW) fb.1 fb.2.1 fb.2.2.1 fb.2.2.2
  have CF : Hid (∀ W, Below w.heap.size w W → iaOkB a = true → iaOkB b = true → Calls Tryz.prog 80 #[v, u] W fun e w' => e = .returned (.bool (fitActs a b)) ∧ Below W.heap.size W w') := fun W hW oka okb => actsFit_any a b v u W (h.below hW) (k.below hW) fa fb oka okb
  obtain ⟨q1, hq1⟩ : ∃ q, q = iaOkB a := ⟨_, rfl⟩
  obtain ⟨q2, hq2⟩ : ∃ q, q = iaOkB b := ⟨_, rfl⟩
  obtain ⟨q3, hq3⟩ : ∃ q, q = fitActs a b := ⟨_, rfl⟩
  obtain ⟨r, hr⟩ : ∃ r, r = fitB a b := ⟨_, rfl⟩
  rw [← hr]
  have HR : Hid (r = (q1 && q2 && q3 && decide (a.states * b.states ≤ 40))) := by
    unfold Hid
    rw [hr, hq1, hq2, hq3]
    rfl
  have HQ1 : Hid (q1 = true → iaOkB a = true) := fun e => by rw [← hq1]; exact e
  have HQ2 : Hid (q2 = true → iaOkB b = true) := fun e => by rw [← hq2]; exact e
  rw [← hq1] at CO
  rw [← hq2] at CP
  rw [← hq3] at CF
  clear hq1 hq2 hq3 hr
  obtain ⟨a2, n2, c2, a3, n3, c3, a4, n4, c4, a5, n5, c5, rfl, r2, r3, r4, r5⟩ := h
  obtain ⟨b2, m2, d2, b3, m3, d3, b4, m4, d4, b5, m5, d5, rfl, p2, p3, p4, p5⟩ := k
  obtain ⟨st, it, ins, outs, hids, steps⟩ := a
  obtain ⟨su, iu, jns, juts, jids, jteps⟩ := b
  obtain ⟨f2, f3, f4, f5⟩ := fa
  obtain ⟨g2, g3, g4, g5⟩ := fb
  simp only at r2 r3 r4 r5 p2 p3 p4 p5 f2 f3 f4 f5 g2 g3 g4 g5
  have HA : Hid (∀ W, Below w.heap.size w W → IaRow W ⟨st, it, ins, outs, hids, steps⟩ (.agg #[.int .i64 st, .int .i64 it, .slice a2 n2 c2, .slice a3 n3 c3, .slice a4 n4 c4, .slice a5 n5 c5])) := fun W hW => IaRow.below ⟨a2, n2, c2, a3, n3, c3, a4, n4, c4, a5, n5, c5, rfl, r2, r3, r4, r5⟩ hW
  have HB : Hid (∀ W, Below w.heap.size w W → IaRow W ⟨su, iu, jns, juts, jids, jteps⟩ (.agg #[.int .i64 su, .int .i64 iu, .slice b2 m2 d2, .slice b3 m3 d3, .slice b4 m4 d4, .slice b5 m5 d5])) := fun W hW => IaRow.below ⟨b2, m2, d2, b3, m3, d3, b4, m4, d4, b5, m5, d5, rfl, p2, p3, p4, p5⟩ hW
  have S0 := Lib.hid (Box2.start w (iaC st it a2 n2 c2 a3 n3 c3 a4 n4 c4 a5 n5 c5) (iaC su iu b2 m2 d2 b3 m3 d3 b4 m4 d4 b5 m5 d5) 31)
  clear HA HB r2 r3 r4 r5 p2 p3 p4 p5 f2 f3 f4 f5 g2 g3 g4 g5
  have ca0 := S0.out.2.1.cell (j := 0) (u := .int .i64 st) rfl
  have ca1 := S0.out.2.1.cell (j := 1) (u := .int .i64 it) rfl
  have ca2 := S0.out.2.1.cell (j := 2) (u := .slice a2 n2 c2) rfl
  have ca3 := S0.out.2.1.cell (j := 3) (u := .slice a3 n3 c3) rfl
  have ca4 := S0.out.2.1.cell (j := 4) (u := .slice a4 n4 c4) rfl
  have ca5 := S0.out.2.1.cell (j := 5) (u := .slice a5 n5 c5) rfl
  go_enter Tryz.func49, Tryz.ntmps49
  go_wp2_with fail
  clear ca0 ca1 ca2 ca3 ca4 ca5
  refine (CO.out _ S0.out.1).mono ?_
  rintro e w1 ⟨rfl, hb⟩
  have S1 := Lib.hid (S0.out.below hb)
  clear hb S0
  cases q1 with
  | false =>
    go_wp2_with fail
    go_ret
    exact ⟨ret_bool (by rw [HR.out]; rfl), S1.out.1⟩
  | true =>
    have cb0 := S1.out.2.2.cell (j := 0) (u := .int .i64 su) rfl
    have cb1 := S1.out.2.2.cell (j := 1) (u := .int .i64 iu) rfl
    have cb2 := S1.out.2.2.cell (j := 2) (u := .slice b2 m2 d2) rfl
    have cb3 := S1.out.2.2.cell (j := 3) (u := .slice b3 m3 d3) rfl
    have cb4 := S1.out.2.2.cell (j := 4) (u := .slice b4 m4 d4) rfl
    have cb5 := S1.out.2.2.cell (j := 5) (u := .slice b5 m5 d5) rfl
    go_wp2_with fail
    clear cb0 cb1 cb2 cb3 cb4 cb5
    refine (CP.out _ S1.out.1).mono ?_
    rintro e w2 ⟨rfl, hb⟩
    have S2 := Lib.hid (S1.out.below hb)
    clear hb S1
    cases q2 with
    | false =>
      go_wp2_with fail
      go_ret
      exact ⟨ret_bool (by rw [HR.out]; rfl), S2.out.1⟩
    | true =>
      have oka := HQ1.out (by simp)
      have okb := HQ2.out (by simp)
      have b1 := iaOk_states oka
      have b2x := iaOk_states okb
      simp only at b1 b2x
      obtain ⟨u1, u2⟩ := mul_low b1 b2x
      have ca0 := S2.out.2.1.cell (j := 0) (u := .int .i64 st) rfl
      have ca1 := S2.out.2.1.cell (j := 1) (u := .int .i64 it) rfl
      have ca2 := S2.out.2.1.cell (j := 2) (u := .slice a2 n2 c2) rfl
      have ca3 := S2.out.2.1.cell (j := 3) (u := .slice a3 n3 c3) rfl
      have ca4 := S2.out.2.1.cell (j := 4) (u := .slice a4 n4 c4) rfl
      have ca5 := S2.out.2.1.cell (j := 5) (u := .slice a5 n5 c5) rfl
      have cb0 := S2.out.2.2.cell (j := 0) (u := .int .i64 su) rfl
      have cb1 := S2.out.2.2.cell (j := 1) (u := .int .i64 iu) rfl
      have cb2 := S2.out.2.2.cell (j := 2) (u := .slice b2 m2 d2) rfl
      have cb3 := S2.out.2.2.cell (j := 3) (u := .slice b3 m3 d3) rfl
      have cb4 := S2.out.2.2.cell (j := 4) (u := .slice b4 m4 d4) rfl
      have cb5 := S2.out.2.2.cell (j := 5) (u := .slice b5 m5 d5) rfl
      go_wp2_with fail
      clear ca0 ca1 ca2 ca3 ca4 ca5 cb0 cb1 cb2 cb3 cb4 cb5
      refine (CF.out _ S2.out.1 oka okb).mono ?_
      rintro e w3 ⟨rfl, hb⟩
      have S3 := Lib.hid (S2.out.below hb)
      clear hb S2
      cases q3 with
      | false =>
        go_wp2_with fail
        go_ret
        exact ⟨ret_bool (by rw [HR.out]; rfl), S3.out.1⟩
      | true =>
        have m0 := S3.out.2.1.cell (j := 0) (u := .int .i64 st) rfl
        have k0 := S3.out.2.2.cell (j := 0) (u := .int .i64 su) rfl
        have hw : IntKind.i64.wrap (st * su) = st * su := Go.IntWalk.i64_in _ (by omega)
        have HR2 : Hid (r = decide (st * su ≤ 40)) := by
          have := HR.out
          simpa [Hid] using this
        go_wp2_with fail
        go_ret
        exact ⟨ret_bool HR2.out.symm, S3.out.1⟩

set_option maxRecDepth 20000 in
set_option maxHeartbeats 6400000 in
theorem specFit_any (a b : IaD) (v u : Value) (w : World) (h : IaRow w a v) (k : IaRow w b u) (fa : Small a) (fb : Small b) :
    Calls Tryz.prog 40 #[v, u] w fun e w' => e = .returned (.bool (fitB a b)) ∧ Below w.heap.size w w' := by
  have CO : Hid (∀ W, Below w.heap.size w W → Calls Tryz.prog 63 #[v] W fun e w' => e = .returned (.bool (iaOkB a)) ∧ Below W.heap.size W w') := fun W hW => specIaOk_any a v W (h.below hW) fa.1 fa.2.1 fa.2.2.1 fa.2.2.2
  have CP : Hid (∀ W, Below w.heap.size w W → Calls Tryz.prog 63 #[u] W fun e w' => e = .returned (.bool (iaOkB b)) ∧ Below W.heap.size W w') := fun W hW => specIaOk_any b u W (k.below hW) fb.1 fb.2.1 fb.2.2.1 fb.2.2.2
  obtain ⟨y1, hy1⟩ : ∃ q, q = iaOkB a := ⟨_, rfl⟩
  obtain ⟨y2, hy2⟩ : ∃ q, q = iaOkB b := ⟨_, rfl⟩
  obtain ⟨r, hr⟩ : ∃ r, r = fitB a b := ⟨_, rfl⟩
  rw [← hr]
  have HR : Hid (r = (y1 && y2 && fitActs a b && decide (a.states * b.states ≤ 40))) := by
    unfold Hid
    rw [hr, hy1, hy2]
    rfl
  have HQ1 : Hid (y1 = true → iaOkB a = true) := fun e => by rw [← hy1]; exact e
  have HQ2 : Hid (y2 = true → iaOkB b = true) := fun e => by rw [← hy2]; exact e
  rw [← hy1] at CO
  rw [← hy2] at CP
  clear hy1 hy2 hr
  obtain ⟨a2, n2, c2, a3, n3, c3, a4, n4, c4, a5, n5, c5, rfl, r2, r3, r4, r5⟩ := h
  obtain ⟨b2, m2, d2, b3, m3, d3, b4, m4, d4, b5, m5, d5, rfl, q2, q3, q4, q5⟩ := k
  obtain ⟨st, it, ins, outs, hids, steps⟩ := a
  obtain ⟨su, iu, jns, juts, jids, jteps⟩ := b
  obtain ⟨f2, f3, f4, f5⟩ := fa
  obtain ⟨g2, g3, g4, g5⟩ := fb
  simp only at r2 r3 r4 r5 q2 q3 q4 q5 f2 f3 f4 f5 g2 g3 g4 g5
  have HA : Hid (∀ W, Below w.heap.size w W → IaRow W ⟨st, it, ins, outs, hids, steps⟩ (.agg #[.int .i64 st, .int .i64 it, .slice a2 n2 c2, .slice a3 n3 c3, .slice a4 n4 c4, .slice a5 n5 c5])) := fun W hW => IaRow.below ⟨a2, n2, c2, a3, n3, c3, a4, n4, c4, a5, n5, c5, rfl, r2, r3, r4, r5⟩ hW
  have HB : Hid (∀ W, Below w.heap.size w W → IaRow W ⟨su, iu, jns, juts, jids, jteps⟩ (.agg #[.int .i64 su, .int .i64 iu, .slice b2 m2 d2, .slice b3 m3 d3, .slice b4 m4 d4, .slice b5 m5 d5])) := fun W hW => IaRow.below ⟨b2, m2, d2, b3, m3, d3, b4, m4, d4, b5, m5, d5, rfl, q2, q3, q4, q5⟩ hW
  have S0 := Lib.hid (Box2.start w (iaC st it a2 n2 c2 a3 n3 c3 a4 n4 c4 a5 n5 c5) (iaC su iu b2 m2 d2 b3 m3 d3 b4 m4 d4 b5 m5 d5) 31)
  have e2 := r2.1
  have e3 := r3.1
  have e4 := r4.1
  have k2 := q2.1
  have k3 := q3.1
  have k4 := q4.1
  rw [e2] at f2
  rw [e3] at f3
  rw [e4] at f4
  rw [k2] at g2
  rw [k3] at g3
  rw [k4] at g4
  have R2 := Lib.hid r2
  have R3 := Lib.hid r3
  have R4 := Lib.hid r4
  have R5 := Lib.hid r5
  have Q2 := Lib.hid q2
  have Q3 := Lib.hid q3
  have Q4 := Lib.hid q4
  have Q5 := Lib.hid q5
  clear r2 r3 r4 r5 q2 q3 q4 q5
  have ca0 := S0.out.2.1.cell (j := 0) (u := .int .i64 st) rfl
  have ca1 := S0.out.2.1.cell (j := 1) (u := .int .i64 it) rfl
  have ca2 := S0.out.2.1.cell (j := 2) (u := .slice a2 n2 c2) rfl
  have ca3 := S0.out.2.1.cell (j := 3) (u := .slice a3 n3 c3) rfl
  have ca4 := S0.out.2.1.cell (j := 4) (u := .slice a4 n4 c4) rfl
  have ca5 := S0.out.2.1.cell (j := 5) (u := .slice a5 n5 c5) rfl
  go_enter Tryz.func40, Tryz.ntmps40
  go_wp2_with fail
  clear ca0 ca1 ca2 ca3 ca4 ca5
  refine (CO.out _ S0.out.1).mono ?_
  rintro e w1 ⟨rfl, hb⟩
  have S1 := Lib.hid (S0.out.below hb)
  clear hb S0
  cases y1 with
  | false =>
    go_wp2_with fail
    go_ret
    exact ⟨ret_bool (by rw [HR.out]; rfl), S1.out.1⟩
  | true =>
    have cb0 := S1.out.2.2.cell (j := 0) (u := .int .i64 su) rfl
    have cb1 := S1.out.2.2.cell (j := 1) (u := .int .i64 iu) rfl
    have cb2 := S1.out.2.2.cell (j := 2) (u := .slice b2 m2 d2) rfl
    have cb3 := S1.out.2.2.cell (j := 3) (u := .slice b3 m3 d3) rfl
    have cb4 := S1.out.2.2.cell (j := 4) (u := .slice b4 m4 d4) rfl
    have cb5 := S1.out.2.2.cell (j := 5) (u := .slice b5 m5 d5) rfl
    go_wp2_with fail
    clear cb0 cb1 cb2 cb3 cb4 cb5
    refine (CP.out _ S1.out.1).mono ?_
    rintro e w2 ⟨rfl, hb⟩
    have S2 := Lib.hid (S1.out.below hb)
    clear hb S1
    cases y2 with
    | false =>
      go_wp2_with fail
      go_ret
      exact ⟨ret_bool (by rw [HR.out]; rfl), S2.out.1⟩
    | true =>
      have oka := HQ1.out (by simp)
      have okb := HQ2.out (by simp)
      have b1 := iaOk_states oka
      have b2x := iaOk_states okb
      simp only at b1 b2x
      obtain ⟨u1, u2⟩ := mul_low b1 b2x
      have m0 := S2.out.2.1.cell (j := 0) (u := .int .i64 st) rfl
      have l0 := S2.out.2.2.cell (j := 0) (u := .int .i64 su) rfl
      have hw : IntKind.i64.wrap (st * su) = st * su := Go.IntWalk.i64_in _ (by omega)
      have HR1 : Hid (r = (fitActs ⟨st, it, ins, outs, hids, steps⟩ ⟨su, iu, jns, juts, jids, jteps⟩ && decide (st * su ≤ 40))) := by
        have := HR.out
        simpa [Hid] using this
      by_cases hbig : st * su ≤ 40
      · have hng : ¬ 40 < st * su := by omega
        have HR3 : Hid (r = fitActs ⟨st, it, ins, outs, hids, steps⟩ ⟨su, iu, jns, juts, jids, jteps⟩) := by
          have := HR1.out
          rw [decide_eq_true hbig, Bool.and_true] at this
          exact this
        clear HR HR1
        go_wp2_with fail
        clear m0 l0 hw
        have SD := S2.out.drew
        clear S2
        have okaCB : (actsOf ⟨su, iu, jns, juts, jids, jteps⟩ : List Int).length ≤ 2097152 := by
          have h1 : (actsOf ⟨su, iu, jns, juts, jids, jteps⟩).length ≤ 12 := actsOf_low okb
          omega
        have okaCA : (actsOf ⟨st, it, ins, outs, hids, steps⟩ : List Int).length ≤ 2097152 := by
          have h1 : (actsOf ⟨st, it, ins, outs, hids, steps⟩).length ≤ 12 := actsOf_low oka
          omega
        obtain ⟨x1, hx1⟩ : ∃ q, q = (meetOf ins jns).length := ⟨_, rfl⟩
        obtain ⟨x2, hx2⟩ : ∃ q, q = (meetOf outs juts).length := ⟨_, rfl⟩
        obtain ⟨x3, hx3⟩ : ∃ q, q = (meetOf hids (actsOf ⟨su, iu, jns, juts, jids, jteps⟩)).length := ⟨_, rfl⟩
        obtain ⟨x4, hx4⟩ : ∃ q, q = (meetOf jids (actsOf ⟨st, it, ins, outs, hids, steps⟩)).length := ⟨_, rfl⟩
        have l1 : x1 ≤ 1048576 := by have := meet_len ins jns; omega
        have l2 : x2 ≤ 1048576 := by have := meet_len outs juts; omega
        have l3 : x3 ≤ 1048576 := by have := meet_len hids (actsOf ⟨su, iu, jns, juts, jids, jteps⟩); omega
        have l4 : x4 ≤ 1048576 := by have := meet_len jids (actsOf ⟨st, it, ins, outs, hids, steps⟩); omega
        have M1 : Hid (∀ W, Box2 w W w.heap.size (w.heap.size + 1) 31 (iaC st it a2 n2 c2 a3 n3 c3 a4 n4 c4 a5 n5 c5) (iaC su iu b2 m2 d2 b3 m3 d3 b4 m4 d4 b5 m5 d5) → Calls Tryz.prog 46 #[.slice a2 n2 c2, .slice b2 m2 d2] W fun e w' => ∃ ad cc, e = .returned (.slice ad x1 cc) ∧ Box2 w w' w.heap.size (w.heap.size + 1) 31 (iaC st it a2 n2 c2 a3 n3 c3 a4 n4 c4 a5 n5 c5) (iaC su iu b2 m2 d2 b3 m3 d3 b4 m4 d4 b5 m5 d5)) := fun W hW => by
          rw [hx1]
          exact (specSetMeet_any a2 b2 n2 c2 m2 d2 ins jns W (R2.out.below hW.1) (Q2.out.below hW.1) (by omega) (by omega)).mono fun e w' h => by
            obtain ⟨ad, cc, he, hb⟩ := OwnRes.slice h
            exact ⟨ad, cc, he, hW.below hb⟩
        have M2 : Hid (∀ W, Box2 w W w.heap.size (w.heap.size + 1) 31 (iaC st it a2 n2 c2 a3 n3 c3 a4 n4 c4 a5 n5 c5) (iaC su iu b2 m2 d2 b3 m3 d3 b4 m4 d4 b5 m5 d5) → Calls Tryz.prog 46 #[.slice a3 n3 c3, .slice b3 m3 d3] W fun e w' => ∃ ad cc, e = .returned (.slice ad x2 cc) ∧ Box2 w w' w.heap.size (w.heap.size + 1) 31 (iaC st it a2 n2 c2 a3 n3 c3 a4 n4 c4 a5 n5 c5) (iaC su iu b2 m2 d2 b3 m3 d3 b4 m4 d4 b5 m5 d5)) := fun W hW => by
          rw [hx2]
          exact (specSetMeet_any a3 b3 n3 c3 m3 d3 outs juts W (R3.out.below hW.1) (Q3.out.below hW.1) (by omega) (by omega)).mono fun e w' h => by
            obtain ⟨ad, cc, he, hb⟩ := OwnRes.slice h
            exact ⟨ad, cc, he, hW.below hb⟩
        have CB : Hid (∀ W, Box2 w W w.heap.size (w.heap.size + 1) 31 (iaC st it a2 n2 c2 a3 n3 c3 a4 n4 c4 a5 n5 c5) (iaC su iu b2 m2 d2 b3 m3 d3 b4 m4 d4 b5 m5 d5) → Calls Tryz.prog 77 #[.agg #[.int .i64 su, .int .i64 iu, .slice b2 m2 d2, .slice b3 m3 d3, .slice b4 m4 d4, .slice b5 m5 d5]] W fun e w' => ∃ ad n cc, e = .returned (.slice ad n cc) ∧ Row w' ad n (actsOf ⟨su, iu, jns, juts, jids, jteps⟩) ∧ n ≤ 2097152 ∧ Box2 w w' w.heap.size (w.heap.size + 1) 31 (iaC st it a2 n2 c2 a3 n3 c3 a4 n4 c4 a5 n5 c5) (iaC su iu b2 m2 d2 b3 m3 d3 b4 m4 d4 b5 m5 d5)) := fun W hW => by
          have hc := specActsOf_any ⟨su, iu, jns, juts, jids, jteps⟩ _ W (HB.out W hW.1) (by rw [k2]; exact g2) (by rw [k3]; exact g3) (by rw [k4]; exact g4) g5
          rw [if_pos okb] at hc
          refine hc.mono fun e w' h => ?_
          obtain ⟨g, cc, he, ho, hb⟩ := h
          exact ⟨_, _, _, he, ho.row.2.2.2, okaCB, hW.below hb⟩
        have M3 : Hid (∀ W ad n cc, Row W ad n (actsOf ⟨su, iu, jns, juts, jids, jteps⟩) → n ≤ 2097152 → Box2 w W w.heap.size (w.heap.size + 1) 31 (iaC st it a2 n2 c2 a3 n3 c3 a4 n4 c4 a5 n5 c5) (iaC su iu b2 m2 d2 b3 m3 d3 b4 m4 d4 b5 m5 d5) → Calls Tryz.prog 46 #[.slice a4 n4 c4, .slice ad n cc] W fun e w' => ∃ ad cc, e = .returned (.slice ad x3 cc) ∧ Box2 w w' w.heap.size (w.heap.size + 1) 31 (iaC st it a2 n2 c2 a3 n3 c3 a4 n4 c4 a5 n5 c5) (iaC su iu b2 m2 d2 b3 m3 d3 b4 m4 d4 b5 m5 d5)) := fun W ad n cc hr hn hW => by
          rw [hx3]
          exact (specSetMeet_any a4 ad n4 c4 n cc hids (actsOf ⟨su, iu, jns, juts, jids, jteps⟩) W (R4.out.below hW.1) hr (by omega) hn).mono fun e w' h => by
            obtain ⟨ad, cc, he, hb⟩ := OwnRes.slice h
            exact ⟨ad, cc, he, hW.below hb⟩
        have CA : Hid (∀ W, Box2 w W w.heap.size (w.heap.size + 1) 31 (iaC st it a2 n2 c2 a3 n3 c3 a4 n4 c4 a5 n5 c5) (iaC su iu b2 m2 d2 b3 m3 d3 b4 m4 d4 b5 m5 d5) → Calls Tryz.prog 77 #[.agg #[.int .i64 st, .int .i64 it, .slice a2 n2 c2, .slice a3 n3 c3, .slice a4 n4 c4, .slice a5 n5 c5]] W fun e w' => ∃ ad n cc, e = .returned (.slice ad n cc) ∧ Row w' ad n (actsOf ⟨st, it, ins, outs, hids, steps⟩) ∧ n ≤ 2097152 ∧ Box2 w w' w.heap.size (w.heap.size + 1) 31 (iaC st it a2 n2 c2 a3 n3 c3 a4 n4 c4 a5 n5 c5) (iaC su iu b2 m2 d2 b3 m3 d3 b4 m4 d4 b5 m5 d5)) := fun W hW => by
          have hc := specActsOf_any ⟨st, it, ins, outs, hids, steps⟩ _ W (HA.out W hW.1) (by rw [e2]; exact f2) (by rw [e3]; exact f3) (by rw [e4]; exact f4) f5
          rw [if_pos oka] at hc
          refine hc.mono fun e w' h => ?_
          obtain ⟨g, cc, he, ho, hb⟩ := h
          exact ⟨_, _, _, he, ho.row.2.2.2, okaCA, hW.below hb⟩
        have M4 : Hid (∀ W ad n cc, Row W ad n (actsOf ⟨st, it, ins, outs, hids, steps⟩) → n ≤ 2097152 → Box2 w W w.heap.size (w.heap.size + 1) 31 (iaC st it a2 n2 c2 a3 n3 c3 a4 n4 c4 a5 n5 c5) (iaC su iu b2 m2 d2 b3 m3 d3 b4 m4 d4 b5 m5 d5) → Calls Tryz.prog 46 #[.slice b4 m4 d4, .slice ad n cc] W fun e w' => ∃ ad cc, e = .returned (.slice ad x4 cc) ∧ Box2 w w' w.heap.size (w.heap.size + 1) 31 (iaC st it a2 n2 c2 a3 n3 c3 a4 n4 c4 a5 n5 c5) (iaC su iu b2 m2 d2 b3 m3 d3 b4 m4 d4 b5 m5 d5)) := fun W ad n cc hr hn hW => by
          rw [hx4]
          exact (specSetMeet_any b4 ad m4 d4 n cc jids (actsOf ⟨st, it, ins, outs, hids, steps⟩) W (Q4.out.below hW.1) hr (by omega) hn).mono fun e w' h => by
            obtain ⟨ad, cc, he, hb⟩ := OwnRes.slice h
            exact ⟨ad, cc, he, hW.below hb⟩
        have HR2 : Hid (r = decide (x1 + x2 + x3 + x4 = 0)) := by
          unfold Hid
          rw [HR3.out, hx1, hx2, hx3, hx4, fitActs_sum]
        clear HR3 hx1 hx2 hx3 hx4 HA HB oka okb
        by_cases hz : x1 + x2 + x3 + x4 = 0
        · obtain rfl : x1 = 0 := by omega
          obtain rfl : x2 = 0 := by omega
          obtain rfl : x3 = 0 := by omega
          obtain rfl : x4 = 0 := by omega
          refine wp_region_held_drew (S := fun w' => Box2 w w' w.heap.size (w.heap.size + 1) 31 (iaC st it a2 n2 c2 a3 n3 c3 a4 n4 c4 a5 n5 c5) (iaC su iu b2 m2 d2 b3 m3 d3 b4 m4 d4 b5 m5 d5)) (by kernel_rfl) SD (fun hHeld => ?_)
          change wpAnyH _ _ _ _ _ 29 (Array.replicate 29 false) _ _
          refine take_op 0 21 (.pointer (some ⟨w.heap.size, 2, none⟩)) (fuel := 28) rfl rfl (by kernel_rfl) (by kernel_rfl) (by kernel_rfl) (fun _ _ _ h => h) (by rfl) (fun w hSw => by go_simp) hHeld ?_
          simp only [Act.put, List.setIfInBounds_toArray, List.set_cons_zero, List.set_cons_succ]
          refine take_op 1 22 (.slice a2 n2 c2) (fuel := 27) rfl rfl (by kernel_rfl) (by kernel_rfl) (by kernel_rfl) (fun _ _ _ h => h) (by rfl) (fun w hSw => by have m := hSw.2.1.cell (j := 2) (u := .slice a2 n2 c2) rfl; go_simp) hHeld ?_
          simp only [Act.put, List.setIfInBounds_toArray, List.set_cons_zero, List.set_cons_succ]
          refine take_op 2 23 (.pointer (some ⟨w.heap.size + 1, 2, none⟩)) (fuel := 26) rfl rfl (by kernel_rfl) (by kernel_rfl) (by kernel_rfl) (fun _ _ _ h => h) (by rfl) (fun w hSw => by go_simp) hHeld ?_
          simp only [Act.put, List.setIfInBounds_toArray, List.set_cons_zero, List.set_cons_succ]
          refine take_op 3 24 (.slice b2 m2 d2) (fuel := 25) rfl rfl (by kernel_rfl) (by kernel_rfl) (by kernel_rfl) (fun _ _ _ h => h) (by rfl) (fun w hSw => by have m := hSw.2.2.cell (j := 2) (u := .slice b2 m2 d2) rfl; go_simp) hHeld ?_
          simp only [Act.put, List.setIfInBounds_toArray, List.set_cons_zero, List.set_cons_succ]
          refine take_op 6 27 (.pointer (some ⟨w.heap.size, 3, none⟩)) (fuel := 24) rfl rfl (by kernel_rfl) (by kernel_rfl) (by kernel_rfl) (fun _ _ _ h => h) (by rfl) (fun w hSw => by go_simp) hHeld ?_
          simp only [Act.put, List.setIfInBounds_toArray, List.set_cons_zero, List.set_cons_succ]
          refine take_op 7 28 (.slice a3 n3 c3) (fuel := 23) rfl rfl (by kernel_rfl) (by kernel_rfl) (by kernel_rfl) (fun _ _ _ h => h) (by rfl) (fun w hSw => by have m := hSw.2.1.cell (j := 3) (u := .slice a3 n3 c3) rfl; go_simp) hHeld ?_
          simp only [Act.put, List.setIfInBounds_toArray, List.set_cons_zero, List.set_cons_succ]
          refine take_op 8 29 (.pointer (some ⟨w.heap.size + 1, 3, none⟩)) (fuel := 22) rfl rfl (by kernel_rfl) (by kernel_rfl) (by kernel_rfl) (fun _ _ _ h => h) (by rfl) (fun w hSw => by go_simp) hHeld ?_
          simp only [Act.put, List.setIfInBounds_toArray, List.set_cons_zero, List.set_cons_succ]
          refine take_op 9 30 (.slice b3 m3 d3) (fuel := 21) rfl rfl (by kernel_rfl) (by kernel_rfl) (by kernel_rfl) (fun _ _ _ h => h) (by rfl) (fun w hSw => by have m := hSw.2.2.cell (j := 3) (u := .slice b3 m3 d3) rfl; go_simp) hHeld ?_
          simp only [Act.put, List.setIfInBounds_toArray, List.set_cons_zero, List.set_cons_succ]
          refine take_op 13 34 (.pointer (some ⟨w.heap.size, 4, none⟩)) (fuel := 20) rfl rfl (by kernel_rfl) (by kernel_rfl) (by kernel_rfl) (fun _ _ _ h => h) (by rfl) (fun w hSw => by go_simp) hHeld ?_
          simp only [Act.put, List.setIfInBounds_toArray, List.set_cons_zero, List.set_cons_succ]
          refine take_op 14 35 (.slice a4 n4 c4) (fuel := 19) rfl rfl (by kernel_rfl) (by kernel_rfl) (by kernel_rfl) (fun _ _ _ h => h) (by rfl) (fun w hSw => by have m := hSw.2.1.cell (j := 4) (u := .slice a4 n4 c4) rfl; go_simp) hHeld ?_
          simp only [Act.put, List.setIfInBounds_toArray, List.set_cons_zero, List.set_cons_succ]
          refine take_yields 15 36 (.agg #[.int .i64 su, .int .i64 iu, .slice b2 m2 d2, .slice b3 m3 d3, .slice b4 m4 d4, .slice b5 m5 d5]) (fuel := 18) rfl rfl (by kernel_rfl) (by kernel_rfl) (by kernel_rfl) (fun _ _ _ h => h) (yieldsIf_load_mid (by rfl) _ _ rfl (w.heap.size + 1) 0 rfl (iaC su iu b2 m2 d2 b3 m3 d3 b4 m4 d4 b5 m5 d5).toList _ (fun w hw => hw.2.2.range) Tryz.underlying31 rfl (by kernel_rfl)) hHeld ?_
          simp only [Act.put, List.setIfInBounds_toArray, List.set_cons_zero, List.set_cons_succ]
          refine take_op 20 41 (.pointer (some ⟨w.heap.size + 1, 4, none⟩)) (fuel := 17) rfl rfl (by kernel_rfl) (by kernel_rfl) (by kernel_rfl) (fun _ _ _ h => h) (by rfl) (fun w hSw => by go_simp) hHeld ?_
          simp only [Act.put, List.setIfInBounds_toArray, List.set_cons_zero, List.set_cons_succ]
          refine take_op 21 42 (.slice b4 m4 d4) (fuel := 16) rfl rfl (by kernel_rfl) (by kernel_rfl) (by kernel_rfl) (fun _ _ _ h => h) (by rfl) (fun w hSw => by have m := hSw.2.2.cell (j := 4) (u := .slice b4 m4 d4) rfl; go_simp) hHeld ?_
          simp only [Act.put, List.setIfInBounds_toArray, List.set_cons_zero, List.set_cons_succ]
          refine take_yields 22 43 (.agg #[.int .i64 st, .int .i64 it, .slice a2 n2 c2, .slice a3 n3 c3, .slice a4 n4 c4, .slice a5 n5 c5]) (fuel := 15) rfl rfl (by kernel_rfl) (by kernel_rfl) (by kernel_rfl) (fun _ _ _ h => h) (yieldsIf_load_mid (by rfl) _ _ rfl (w.heap.size) 0 rfl (iaC st it a2 n2 c2 a3 n3 c3 a4 n4 c4 a5 n5 c5).toList _ (fun w hw => hw.2.1.range) Tryz.underlying31 rfl (by kernel_rfl)) hHeld ?_
          simp only [Act.put, List.setIfInBounds_toArray, List.set_cons_zero, List.set_cons_succ]
          refine wpAnyH_ready (rs := [4]) (fuel := 14) (by kernel_rfl) (by simp) ?_
          refine AllReadyH.cons rfl (fun K hK => ?_) AllReadyH.nil
          go_simp
          refine (M1.out _ hHeld).mono ?_
          rintro e w1 ⟨ad1, cc1, rfl, hS⟩
          go_wp2_with fail
          refine hK.out _ _ hS (fun hHeld => ?_)
          clear hK K
          refine take_op 5 26 (.int .i64 0) (fuel := 13) rfl rfl (by kernel_rfl) (by kernel_rfl) (by kernel_rfl) (fun _ _ _ h => h) (by rfl) (fun w hSw => by go_simp) hHeld ?_
          simp only [Act.put, List.setIfInBounds_toArray, List.set_cons_zero, List.set_cons_succ]
          refine wpAnyH_ready (rs := [10]) (fuel := 12) (by kernel_rfl) (by simp) ?_
          refine AllReadyH.cons rfl (fun K hK => ?_) AllReadyH.nil
          go_simp
          refine (M2.out _ hHeld).mono ?_
          rintro e w2 ⟨ad2, cc2, rfl, hS⟩
          go_wp2_with fail
          refine hK.out _ _ hS (fun hHeld => ?_)
          clear hK K
          refine take_op 11 32 (.int .i64 0) (fuel := 11) rfl rfl (by kernel_rfl) (by kernel_rfl) (by kernel_rfl) (fun _ _ _ h => h) (by rfl) (fun w hSw => by go_simp) hHeld ?_
          simp only [Act.put, List.setIfInBounds_toArray, List.set_cons_zero, List.set_cons_succ]
          refine take_op 12 33 (.int .i64 0) (fuel := 10) rfl rfl (by kernel_rfl) (by kernel_rfl) (by kernel_rfl) (fun _ _ _ h => h) (by rfl) (fun w hSw => by go_simp; exact Go.IntWalk.i64_in _ (by omega)) hHeld ?_
          simp only [Act.put, List.setIfInBounds_toArray, List.set_cons_zero, List.set_cons_succ]
          refine wpAnyH_ready (rs := [16]) (fuel := 9) (by kernel_rfl) (by simp) ?_
          refine AllReadyH.cons rfl (fun K hK => ?_) AllReadyH.nil
          go_simp
          refine (CB.out _ hHeld).mono ?_
          rintro e w3 ⟨ad3, n3x, cc3, rfl, hr3, hn3, hS⟩
          go_wp2_with fail
          refine hK.out _ _ hS (fun hHeld => ?_)
          clear hK K
          refine wpAnyH_ready (rs := [17]) (fuel := 8) (by kernel_rfl) (by simp) ?_
          refine AllReadyH.cons rfl (fun K hK => ?_) AllReadyH.nil
          go_simp
          refine (M3.out _ _ _ _ hr3 hn3 hHeld).mono ?_
          rintro e w4 ⟨ad4, cc4, rfl, hS⟩
          clear hr3
          go_wp2_with fail
          refine hK.out _ _ hS (fun hHeld => ?_)
          clear hK K
          refine take_op 18 39 (.int .i64 0) (fuel := 7) rfl rfl (by kernel_rfl) (by kernel_rfl) (by kernel_rfl) (fun _ _ _ h => h) (by rfl) (fun w hSw => by go_simp) hHeld ?_
          simp only [Act.put, List.setIfInBounds_toArray, List.set_cons_zero, List.set_cons_succ]
          refine take_op 19 40 (.int .i64 0) (fuel := 6) rfl rfl (by kernel_rfl) (by kernel_rfl) (by kernel_rfl) (fun _ _ _ h => h) (by rfl) (fun w hSw => by go_simp; exact Go.IntWalk.i64_in _ (by omega)) hHeld ?_
          simp only [Act.put, List.setIfInBounds_toArray, List.set_cons_zero, List.set_cons_succ]
          refine wpAnyH_ready (rs := [23]) (fuel := 5) (by kernel_rfl) (by simp) ?_
          refine AllReadyH.cons rfl (fun K hK => ?_) AllReadyH.nil
          go_simp
          refine (CA.out _ hHeld).mono ?_
          rintro e w5 ⟨ad5, n5x, cc5, rfl, hr5, hn5, hS⟩
          go_wp2_with fail
          refine hK.out _ _ hS (fun hHeld => ?_)
          clear hK K
          refine wpAnyH_ready (rs := [24]) (fuel := 4) (by kernel_rfl) (by simp) ?_
          refine AllReadyH.cons rfl (fun K hK => ?_) AllReadyH.nil
          go_simp
          refine (M4.out _ _ _ _ hr5 hn5 hHeld).mono ?_
          rintro e w6 ⟨ad6, cc6, rfl, hS⟩
          clear hr5
          go_wp2_with fail
          refine hK.out _ _ hS (fun hHeld => ?_)
          clear hK K
          refine take_op 25 46 (.int .i64 0) (fuel := 3) rfl rfl (by kernel_rfl) (by kernel_rfl) (by kernel_rfl) (fun _ _ _ h => h) (by rfl) (fun w hSw => by go_simp) hHeld ?_
          simp only [Act.put, List.setIfInBounds_toArray, List.set_cons_zero, List.set_cons_succ]
          refine take_op 26 47 (.int .i64 0) (fuel := 2) rfl rfl (by kernel_rfl) (by kernel_rfl) (by kernel_rfl) (fun _ _ _ h => h) (by rfl) (fun w hSw => by go_simp; exact Go.IntWalk.i64_in _ (by omega)) hHeld ?_
          simp only [Act.put, List.setIfInBounds_toArray, List.set_cons_zero, List.set_cons_succ]
          refine take_op 27 48 (.bool true) (fuel := 1) rfl rfl (by kernel_rfl) (by kernel_rfl) (by kernel_rfl) (fun _ _ _ h => h) (by rfl) (fun w hSw => by go_simp) hHeld ?_
          simp only [Act.put, List.setIfInBounds_toArray, List.set_cons_zero, List.set_cons_succ]
          refine take_op 28 4 (.bool true) (fuel := 0) rfl rfl (by kernel_rfl) (by kernel_rfl) (by kernel_rfl) (fun _ _ _ h => h) (by rfl) (fun w hSw => by go_simp) hHeld ?_
          simp only [Act.put, List.setIfInBounds_toArray, List.set_cons_zero, List.set_cons_succ]
          refine wpAnyH_done (by kernel_rfl) ?_ _
          go_wp2_with fail
          go_ret
          exact ⟨ret_bool (by rw [HR2.out]; try simp), hHeld.1⟩
        · have hd : ((((x1 : Nat) : Int) + ((x2 : Nat) : Int) + ((x3 : Nat) : Int) + ((x4 : Nat) : Int)) == 0) = false := by simp; omega
          have HZ := Lib.hid hz
          clear hz
          refine wp_region_held_drew (S := fun w' => Box2 w w' w.heap.size (w.heap.size + 1) 31 (iaC st it a2 n2 c2 a3 n3 c3 a4 n4 c4 a5 n5 c5) (iaC su iu b2 m2 d2 b3 m3 d3 b4 m4 d4 b5 m5 d5)) (by kernel_rfl) SD (fun hHeld => ?_)
          change wpAnyH _ _ _ _ _ 29 (Array.replicate 29 false) _ _
          refine take_op 0 21 (.pointer (some ⟨w.heap.size, 2, none⟩)) (fuel := 28) rfl rfl (by kernel_rfl) (by kernel_rfl) (by kernel_rfl) (fun _ _ _ h => h) (by rfl) (fun w hSw => by go_simp) hHeld ?_
          simp only [Act.put, List.setIfInBounds_toArray, List.set_cons_zero, List.set_cons_succ]
          refine take_op 1 22 (.slice a2 n2 c2) (fuel := 27) rfl rfl (by kernel_rfl) (by kernel_rfl) (by kernel_rfl) (fun _ _ _ h => h) (by rfl) (fun w hSw => by have m := hSw.2.1.cell (j := 2) (u := .slice a2 n2 c2) rfl; go_simp) hHeld ?_
          simp only [Act.put, List.setIfInBounds_toArray, List.set_cons_zero, List.set_cons_succ]
          refine take_op 2 23 (.pointer (some ⟨w.heap.size + 1, 2, none⟩)) (fuel := 26) rfl rfl (by kernel_rfl) (by kernel_rfl) (by kernel_rfl) (fun _ _ _ h => h) (by rfl) (fun w hSw => by go_simp) hHeld ?_
          simp only [Act.put, List.setIfInBounds_toArray, List.set_cons_zero, List.set_cons_succ]
          refine take_op 3 24 (.slice b2 m2 d2) (fuel := 25) rfl rfl (by kernel_rfl) (by kernel_rfl) (by kernel_rfl) (fun _ _ _ h => h) (by rfl) (fun w hSw => by have m := hSw.2.2.cell (j := 2) (u := .slice b2 m2 d2) rfl; go_simp) hHeld ?_
          simp only [Act.put, List.setIfInBounds_toArray, List.set_cons_zero, List.set_cons_succ]
          refine take_op 6 27 (.pointer (some ⟨w.heap.size, 3, none⟩)) (fuel := 24) rfl rfl (by kernel_rfl) (by kernel_rfl) (by kernel_rfl) (fun _ _ _ h => h) (by rfl) (fun w hSw => by go_simp) hHeld ?_
          simp only [Act.put, List.setIfInBounds_toArray, List.set_cons_zero, List.set_cons_succ]
          refine take_op 7 28 (.slice a3 n3 c3) (fuel := 23) rfl rfl (by kernel_rfl) (by kernel_rfl) (by kernel_rfl) (fun _ _ _ h => h) (by rfl) (fun w hSw => by have m := hSw.2.1.cell (j := 3) (u := .slice a3 n3 c3) rfl; go_simp) hHeld ?_
          simp only [Act.put, List.setIfInBounds_toArray, List.set_cons_zero, List.set_cons_succ]
          refine take_op 8 29 (.pointer (some ⟨w.heap.size + 1, 3, none⟩)) (fuel := 22) rfl rfl (by kernel_rfl) (by kernel_rfl) (by kernel_rfl) (fun _ _ _ h => h) (by rfl) (fun w hSw => by go_simp) hHeld ?_
          simp only [Act.put, List.setIfInBounds_toArray, List.set_cons_zero, List.set_cons_succ]
          refine take_op 9 30 (.slice b3 m3 d3) (fuel := 21) rfl rfl (by kernel_rfl) (by kernel_rfl) (by kernel_rfl) (fun _ _ _ h => h) (by rfl) (fun w hSw => by have m := hSw.2.2.cell (j := 3) (u := .slice b3 m3 d3) rfl; go_simp) hHeld ?_
          simp only [Act.put, List.setIfInBounds_toArray, List.set_cons_zero, List.set_cons_succ]
          refine take_op 13 34 (.pointer (some ⟨w.heap.size, 4, none⟩)) (fuel := 20) rfl rfl (by kernel_rfl) (by kernel_rfl) (by kernel_rfl) (fun _ _ _ h => h) (by rfl) (fun w hSw => by go_simp) hHeld ?_
          simp only [Act.put, List.setIfInBounds_toArray, List.set_cons_zero, List.set_cons_succ]
          refine take_op 14 35 (.slice a4 n4 c4) (fuel := 19) rfl rfl (by kernel_rfl) (by kernel_rfl) (by kernel_rfl) (fun _ _ _ h => h) (by rfl) (fun w hSw => by have m := hSw.2.1.cell (j := 4) (u := .slice a4 n4 c4) rfl; go_simp) hHeld ?_
          simp only [Act.put, List.setIfInBounds_toArray, List.set_cons_zero, List.set_cons_succ]
          refine take_yields 15 36 (.agg #[.int .i64 su, .int .i64 iu, .slice b2 m2 d2, .slice b3 m3 d3, .slice b4 m4 d4, .slice b5 m5 d5]) (fuel := 18) rfl rfl (by kernel_rfl) (by kernel_rfl) (by kernel_rfl) (fun _ _ _ h => h) (yieldsIf_load_mid (by rfl) _ _ rfl (w.heap.size + 1) 0 rfl (iaC su iu b2 m2 d2 b3 m3 d3 b4 m4 d4 b5 m5 d5).toList _ (fun w hw => hw.2.2.range) Tryz.underlying31 rfl (by kernel_rfl)) hHeld ?_
          simp only [Act.put, List.setIfInBounds_toArray, List.set_cons_zero, List.set_cons_succ]
          refine take_op 20 41 (.pointer (some ⟨w.heap.size + 1, 4, none⟩)) (fuel := 17) rfl rfl (by kernel_rfl) (by kernel_rfl) (by kernel_rfl) (fun _ _ _ h => h) (by rfl) (fun w hSw => by go_simp) hHeld ?_
          simp only [Act.put, List.setIfInBounds_toArray, List.set_cons_zero, List.set_cons_succ]
          refine take_op 21 42 (.slice b4 m4 d4) (fuel := 16) rfl rfl (by kernel_rfl) (by kernel_rfl) (by kernel_rfl) (fun _ _ _ h => h) (by rfl) (fun w hSw => by have m := hSw.2.2.cell (j := 4) (u := .slice b4 m4 d4) rfl; go_simp) hHeld ?_
          simp only [Act.put, List.setIfInBounds_toArray, List.set_cons_zero, List.set_cons_succ]
          refine take_yields 22 43 (.agg #[.int .i64 st, .int .i64 it, .slice a2 n2 c2, .slice a3 n3 c3, .slice a4 n4 c4, .slice a5 n5 c5]) (fuel := 15) rfl rfl (by kernel_rfl) (by kernel_rfl) (by kernel_rfl) (fun _ _ _ h => h) (yieldsIf_load_mid (by rfl) _ _ rfl (w.heap.size) 0 rfl (iaC st it a2 n2 c2 a3 n3 c3 a4 n4 c4 a5 n5 c5).toList _ (fun w hw => hw.2.1.range) Tryz.underlying31 rfl (by kernel_rfl)) hHeld ?_
          simp only [Act.put, List.setIfInBounds_toArray, List.set_cons_zero, List.set_cons_succ]
          refine wpAnyH_ready (rs := [4]) (fuel := 14) (by kernel_rfl) (by simp) ?_
          refine AllReadyH.cons rfl (fun K hK => ?_) AllReadyH.nil
          go_simp
          refine (M1.out _ hHeld).mono ?_
          rintro e w1 ⟨ad1, cc1, rfl, hS⟩
          go_wp2_with fail
          refine hK.out _ _ hS (fun hHeld => ?_)
          clear hK K
          refine take_op 5 26 (.int .i64 ((x1 : Nat) : Int)) (fuel := 13) rfl rfl (by kernel_rfl) (by kernel_rfl) (by kernel_rfl) (fun _ _ _ h => h) (by rfl) (fun w hSw => by go_simp) hHeld ?_
          simp only [Act.put, List.setIfInBounds_toArray, List.set_cons_zero, List.set_cons_succ]
          refine wpAnyH_ready (rs := [10]) (fuel := 12) (by kernel_rfl) (by simp) ?_
          refine AllReadyH.cons rfl (fun K hK => ?_) AllReadyH.nil
          go_simp
          refine (M2.out _ hHeld).mono ?_
          rintro e w2 ⟨ad2, cc2, rfl, hS⟩
          go_wp2_with fail
          refine hK.out _ _ hS (fun hHeld => ?_)
          clear hK K
          refine take_op 11 32 (.int .i64 ((x2 : Nat) : Int)) (fuel := 11) rfl rfl (by kernel_rfl) (by kernel_rfl) (by kernel_rfl) (fun _ _ _ h => h) (by rfl) (fun w hSw => by go_simp) hHeld ?_
          simp only [Act.put, List.setIfInBounds_toArray, List.set_cons_zero, List.set_cons_succ]
          refine take_op 12 33 (.int .i64 (((x1 : Nat) : Int) + ((x2 : Nat) : Int))) (fuel := 10) rfl rfl (by kernel_rfl) (by kernel_rfl) (by kernel_rfl) (fun _ _ _ h => h) (by rfl) (fun w hSw => by go_simp; exact Go.IntWalk.i64_in _ (by constructor <;> omega)) hHeld ?_
          simp only [Act.put, List.setIfInBounds_toArray, List.set_cons_zero, List.set_cons_succ]
          refine wpAnyH_ready (rs := [16]) (fuel := 9) (by kernel_rfl) (by simp) ?_
          refine AllReadyH.cons rfl (fun K hK => ?_) AllReadyH.nil
          go_simp
          refine (CB.out _ hHeld).mono ?_
          rintro e w3 ⟨ad3, n3x, cc3, rfl, hr3, hn3, hS⟩
          go_wp2_with fail
          refine hK.out _ _ hS (fun hHeld => ?_)
          clear hK K
          refine wpAnyH_ready (rs := [17]) (fuel := 8) (by kernel_rfl) (by simp) ?_
          refine AllReadyH.cons rfl (fun K hK => ?_) AllReadyH.nil
          go_simp
          refine (M3.out _ _ _ _ hr3 hn3 hHeld).mono ?_
          rintro e w4 ⟨ad4, cc4, rfl, hS⟩
          clear hr3
          go_wp2_with fail
          refine hK.out _ _ hS (fun hHeld => ?_)
          clear hK K
          refine take_op 18 39 (.int .i64 ((x3 : Nat) : Int)) (fuel := 7) rfl rfl (by kernel_rfl) (by kernel_rfl) (by kernel_rfl) (fun _ _ _ h => h) (by rfl) (fun w hSw => by go_simp) hHeld ?_
          simp only [Act.put, List.setIfInBounds_toArray, List.set_cons_zero, List.set_cons_succ]
          refine take_op 19 40 (.int .i64 (((x1 : Nat) : Int) + ((x2 : Nat) : Int) + ((x3 : Nat) : Int))) (fuel := 6) rfl rfl (by kernel_rfl) (by kernel_rfl) (by kernel_rfl) (fun _ _ _ h => h) (by rfl) (fun w hSw => by go_simp; exact Go.IntWalk.i64_in _ (by constructor <;> omega)) hHeld ?_
          simp only [Act.put, List.setIfInBounds_toArray, List.set_cons_zero, List.set_cons_succ]
          refine wpAnyH_ready (rs := [23]) (fuel := 5) (by kernel_rfl) (by simp) ?_
          refine AllReadyH.cons rfl (fun K hK => ?_) AllReadyH.nil
          go_simp
          refine (CA.out _ hHeld).mono ?_
          rintro e w5 ⟨ad5, n5x, cc5, rfl, hr5, hn5, hS⟩
          go_wp2_with fail
          refine hK.out _ _ hS (fun hHeld => ?_)
          clear hK K
          refine wpAnyH_ready (rs := [24]) (fuel := 4) (by kernel_rfl) (by simp) ?_
          refine AllReadyH.cons rfl (fun K hK => ?_) AllReadyH.nil
          go_simp
          refine (M4.out _ _ _ _ hr5 hn5 hHeld).mono ?_
          rintro e w6 ⟨ad6, cc6, rfl, hS⟩
          clear hr5
          go_wp2_with fail
          refine hK.out _ _ hS (fun hHeld => ?_)
          clear hK K
          refine take_op 25 46 (.int .i64 ((x4 : Nat) : Int)) (fuel := 3) rfl rfl (by kernel_rfl) (by kernel_rfl) (by kernel_rfl) (fun _ _ _ h => h) (by rfl) (fun w hSw => by go_simp) hHeld ?_
          simp only [Act.put, List.setIfInBounds_toArray, List.set_cons_zero, List.set_cons_succ]
          refine take_op 26 47 (.int .i64 (((x1 : Nat) : Int) + ((x2 : Nat) : Int) + ((x3 : Nat) : Int) + ((x4 : Nat) : Int))) (fuel := 2) rfl rfl (by kernel_rfl) (by kernel_rfl) (by kernel_rfl) (fun _ _ _ h => h) (by rfl) (fun w hSw => by go_simp; exact Go.IntWalk.i64_in _ (by constructor <;> omega)) hHeld ?_
          simp only [Act.put, List.setIfInBounds_toArray, List.set_cons_zero, List.set_cons_succ]
          refine take_op 27 48 (.bool false) (fuel := 1) rfl rfl (by kernel_rfl) (by kernel_rfl) (by kernel_rfl) (fun _ _ _ h => h) (by rfl) (fun w hSw => by go_simp) hHeld ?_
          simp only [Act.put, List.setIfInBounds_toArray, List.set_cons_zero, List.set_cons_succ]
          refine take_op 28 4 (.bool false) (fuel := 0) rfl rfl (by kernel_rfl) (by kernel_rfl) (by kernel_rfl) (fun _ _ _ h => h) (by rfl) (fun w hSw => by go_simp) hHeld ?_
          simp only [Act.put, List.setIfInBounds_toArray, List.set_cons_zero, List.set_cons_succ]
          refine wpAnyH_done (by kernel_rfl) ?_ _
          go_wp2_with fail
          go_ret
          exact ⟨ret_bool (by rw [HR2.out, decide_eq_false HZ.out]; try simp), hHeld.1⟩
      · have hng : 40 < st * su := by omega
        go_wp2_with fail
        go_ret
        exact ⟨ret_bool (by rw [HR1.out, decide_eq_false (show ¬ st * su ≤ 40 by omega), Bool.and_false]), S2.out.1⟩

end Go.Proofs.YtdbgjgeglgipiaaGreat
