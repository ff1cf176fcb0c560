/-
  Contracts of Shared, of the program and of the model. Conditions: the automata's lists have at most 2^20 elements.
-/
import Derived.Test.YtdbgjgeglgipiaaGreatFit
namespace Go.Proofs.YtdbgjgeglgipiaaGreat
open Go.RowKit

set_option maxRecDepth 20000 in
set_option maxHeartbeats 3200000 in
theorem sharedActs_any (a b : IaD) (v u : Value) (w : World) (h : IaRow w a v) (k : IaRow w b u) (fa : Small a) (fb : Small b) :
    Calls Tryz.prog 50 #[v, u] w (RowRes w w.heap.size (shOf a b)) := by
  obtain ⟨a2, n2, c2, a3, n3, c3, a4, n4, c4, a5, n5, c5, rfl, r2, r3, r4, r5⟩ := h
  obtain ⟨b2, m2, d2, b3, m3, d3, b4, m4, d4, b5, m5, d5, rfl, q2, q3, q4, q5⟩ := k
  obtain ⟨st, it, ins, outs, hids, steps⟩ := a
  obtain ⟨su, iu, jns, juts, jids, jteps⟩ := b
  obtain ⟨f2, f3, f4, f5⟩ := fa
  obtain ⟨g2, g3, g4, g5⟩ := fb
  simp only at r2 r3 r4 r5 q2 q3 q4 q5 f2 f3 f4 f5 g2 g3 g4 g5
  have HA : Hid (∀ W, Below w.heap.size w W → IaRow W ⟨st, it, ins, outs, hids, steps⟩ (.agg #[.int .i64 st, .int .i64 it, .slice a2 n2 c2, .slice a3 n3 c3, .slice a4 n4 c4, .slice a5 n5 c5])) := fun W hW => IaRow.below ⟨a2, n2, c2, a3, n3, c3, a4, n4, c4, a5, n5, c5, rfl, r2, r3, r4, r5⟩ hW
  have HB : Hid (∀ W, Below w.heap.size w W → IaRow W ⟨su, iu, jns, juts, jids, jteps⟩ (.agg #[.int .i64 su, .int .i64 iu, .slice b2 m2 d2, .slice b3 m3 d3, .slice b4 m4 d4, .slice b5 m5 d5])) := fun W hW => IaRow.below ⟨b2, m2, d2, b3, m3, d3, b4, m4, d4, b5, m5, d5, rfl, q2, q3, q4, q5⟩ hW
  have S0 := Lib.hid (Box2.start w (iaC st it a2 n2 c2 a3 n3 c3 a4 n4 c4 a5 n5 c5) (iaC su iu b2 m2 d2 b3 m3 d3 b4 m4 d4 b5 m5 d5) 31)
  have e2 := r2.1
  have e3 := r3.1
  have e4 := r4.1
  have k2 := q2.1
  have k3 := q3.1
  have k4 := q4.1
  rw [e2] at f2
  rw [e3] at f3
  rw [e4] at f4
  rw [k2] at g2
  rw [k3] at g3
  rw [k4] at g4
  have R2 := Lib.hid r2
  have R3 := Lib.hid r3
  have R4 := Lib.hid r4
  have R5 := Lib.hid r5
  have Q2 := Lib.hid q2
  have Q3 := Lib.hid q3
  have Q4 := Lib.hid q4
  have Q5 := Lib.hid q5
  clear r2 r3 r4 r5 q2 q3 q4 q5
  have hlM1 : (meetOf ins juts).length ≤ 1048576 := by have := meet_len ins juts; omega
  have hlM2 : (meetOf outs jns).length ≤ 1048576 := by have := meet_len outs jns; omega
  have M1 : Hid (∀ W, Box2 w W w.heap.size (w.heap.size + 1) 31 (iaC st it a2 n2 c2 a3 n3 c3 a4 n4 c4 a5 n5 c5) (iaC su iu b2 m2 d2 b3 m3 d3 b4 m4 d4 b5 m5 d5) → Calls Tryz.prog 81 #[.slice a2 n2 c2, .slice b3 m3 d3] W fun e w' => ∃ ad n cc, e = .returned (.slice ad n cc) ∧ Row w' ad n (meetOf ins juts) ∧ n ≤ 1048576 ∧ Box2 w w' w.heap.size (w.heap.size + 1) 31 (iaC st it a2 n2 c2 a3 n3 c3 a4 n4 c4 a5 n5 c5) (iaC su iu b2 m2 d2 b3 m3 d3 b4 m4 d4 b5 m5 d5)) := fun W hW =>
    (implSetMeet_any a2 b3 n2 c2 m3 d3 ins juts W (R2.out.below hW.1) (Q3.out.below hW.1) (by omega) (by omega)).mono fun e w' h => by
      obtain ⟨v, he, ho, hb⟩ := h
      obtain ⟨ad, cc, rfl⟩ := ho.form
      exact ⟨_, _, _, he, ho.row.2.2.2, hlM1, hW.below hb⟩
  have M2 : Hid (∀ W ap np lp, Row W ap np lp → Box2 w W w.heap.size (w.heap.size + 1) 31 (iaC st it a2 n2 c2 a3 n3 c3 a4 n4 c4 a5 n5 c5) (iaC su iu b2 m2 d2 b3 m3 d3 b4 m4 d4 b5 m5 d5) → Calls Tryz.prog 81 #[.slice a3 n3 c3, .slice b2 m2 d2] W fun e w' => ∃ ad n cc, e = .returned (.slice ad n cc) ∧ Row w' ad n (meetOf outs jns) ∧ Row w' ap np lp ∧ n ≤ 1048576 ∧ Box2 w w' w.heap.size (w.heap.size + 1) 31 (iaC st it a2 n2 c2 a3 n3 c3 a4 n4 c4 a5 n5 c5) (iaC su iu b2 m2 d2 b3 m3 d3 b4 m4 d4 b5 m5 d5)) := fun W ap np lp hp hW =>
    (implSetMeet_any a3 b2 n3 c3 m2 d2 outs jns W (R3.out.below hW.1) (Q2.out.below hW.1) (by omega) (by omega)).mono fun e w' h => by
      obtain ⟨v, he, ho, hb⟩ := h
      obtain ⟨ad, cc, rfl⟩ := ho.form
      exact ⟨_, _, _, he, ho.row.2.2.2, hp.below hb, hlM2, hW.below hb⟩
  have MJ : Hid (∀ W ap np cp aq nq cq, Row W ap np (meetOf ins juts) → Row W aq nq (meetOf outs jns) → np ≤ 1048576 → nq ≤ 1048576 → Box2 w W w.heap.size (w.heap.size + 1) 31 (iaC st it a2 n2 c2 a3 n3 c3 a4 n4 c4 a5 n5 c5) (iaC su iu b2 m2 d2 b3 m3 d3 b4 m4 d4 b5 m5 d5) → Calls Tryz.prog 58 #[.slice ap np cp, .slice aq nq cq] W fun e w' => ∃ v, e = .returned v ∧ Owns w' w.heap.size v (shOf ⟨st, it, ins, outs, hids, steps⟩ ⟨su, iu, jns, juts, jids, jteps⟩).length (shOf ⟨st, it, ins, outs, hids, steps⟩ ⟨su, iu, jns, juts, jids, jteps⟩) ∧ Box2 w w' w.heap.size (w.heap.size + 1) 31 (iaC st it a2 n2 c2 a3 n3 c3 a4 n4 c4 a5 n5 c5) (iaC su iu b2 m2 d2 b3 m3 d3 b4 m4 d4 b5 m5 d5)) := fun W ap np cp aq nq cq hp hq h1 h2 hW =>
    (implSetJoin_any ap aq np cp nq cq (meetOf ins juts) (meetOf outs jns) W hp hq (by omega) (by omega)).mono fun e w' h => by
      obtain ⟨v, he, ho, hb⟩ := h
      exact ⟨v, he, ho.mono hW.1.size, hW.below hb⟩
  clear HA HB
  go_enter Tryz.func50, Tryz.ntmps50
  go_wp2_with fail
  have SD := S0.out.drew
  clear S0
  refine wp_region_held_drew (S := fun w' => Box2 w w' w.heap.size (w.heap.size + 1) 31 (iaC st it a2 n2 c2 a3 n3 c3 a4 n4 c4 a5 n5 c5) (iaC su iu b2 m2 d2 b3 m3 d3 b4 m4 d4 b5 m5 d5)) (by kernel_rfl) SD (fun hHeld => ?_)
  change wpAnyH _ _ _ _ _ 12 (Array.replicate 12 false) _ _
  refine take_op 0 5 (.pointer (some ⟨w.heap.size, 2, none⟩)) (fuel := 11) rfl rfl (by kernel_rfl) (by kernel_rfl) (by kernel_rfl) (fun _ _ _ h => h) (by rfl) (fun w hSw => by go_simp) hHeld ?_
  simp only [Act.put, List.setIfInBounds_toArray, List.set_cons_zero, List.set_cons_succ]
  refine take_op 1 6 (.slice a2 n2 c2) (fuel := 10) rfl rfl (by kernel_rfl) (by kernel_rfl) (by kernel_rfl) (fun _ _ _ h => h) (by rfl) (fun w hSw => by have m := hSw.2.1.cell (j := 2) (u := .slice a2 n2 c2) rfl; go_simp) hHeld ?_
  simp only [Act.put, List.setIfInBounds_toArray, List.set_cons_zero, List.set_cons_succ]
  refine take_op 2 7 (.pointer (some ⟨w.heap.size + 1, 3, none⟩)) (fuel := 9) rfl rfl (by kernel_rfl) (by kernel_rfl) (by kernel_rfl) (fun _ _ _ h => h) (by rfl) (fun w hSw => by go_simp) hHeld ?_
  simp only [Act.put, List.setIfInBounds_toArray, List.set_cons_zero, List.set_cons_succ]
  refine take_op 3 8 (.slice b3 m3 d3) (fuel := 8) rfl rfl (by kernel_rfl) (by kernel_rfl) (by kernel_rfl) (fun _ _ _ h => h) (by rfl) (fun w hSw => by have m := hSw.2.2.cell (j := 3) (u := .slice b3 m3 d3) rfl; go_simp) hHeld ?_
  simp only [Act.put, List.setIfInBounds_toArray, List.set_cons_zero, List.set_cons_succ]
  refine take_op 5 10 (.pointer (some ⟨w.heap.size, 3, none⟩)) (fuel := 7) rfl rfl (by kernel_rfl) (by kernel_rfl) (by kernel_rfl) (fun _ _ _ h => h) (by rfl) (fun w hSw => by go_simp) hHeld ?_
  simp only [Act.put, List.setIfInBounds_toArray, List.set_cons_zero, List.set_cons_succ]
  refine take_op 6 11 (.slice a3 n3 c3) (fuel := 6) rfl rfl (by kernel_rfl) (by kernel_rfl) (by kernel_rfl) (fun _ _ _ h => h) (by rfl) (fun w hSw => by have m := hSw.2.1.cell (j := 3) (u := .slice a3 n3 c3) rfl; go_simp) hHeld ?_
  simp only [Act.put, List.setIfInBounds_toArray, List.set_cons_zero, List.set_cons_succ]
  refine take_op 7 12 (.pointer (some ⟨w.heap.size + 1, 2, none⟩)) (fuel := 5) rfl rfl (by kernel_rfl) (by kernel_rfl) (by kernel_rfl) (fun _ _ _ h => h) (by rfl) (fun w hSw => by go_simp) hHeld ?_
  simp only [Act.put, List.setIfInBounds_toArray, List.set_cons_zero, List.set_cons_succ]
  refine take_op 8 13 (.slice b2 m2 d2) (fuel := 4) rfl rfl (by kernel_rfl) (by kernel_rfl) (by kernel_rfl) (fun _ _ _ h => h) (by rfl) (fun w hSw => by have m := hSw.2.2.cell (j := 2) (u := .slice b2 m2 d2) rfl; go_simp) hHeld ?_
  simp only [Act.put, List.setIfInBounds_toArray, List.set_cons_zero, List.set_cons_succ]
  refine wpAnyH_ready (rs := [4]) (fuel := 3) (by kernel_rfl) (by simp) ?_
  refine AllReadyH.cons rfl (fun K hK => ?_) AllReadyH.nil
  go_simp
  refine (M1.out _ hHeld).mono ?_
  rintro e w1 ⟨ad1, x1, cc1, rfl, hr1, hn1, hS⟩
  go_wp2_with fail
  refine hK.out _ _ hS (fun hHeld => ?_)
  clear hK K
  refine wpAnyH_ready (rs := [9]) (fuel := 2) (by kernel_rfl) (by simp) ?_
  refine AllReadyH.cons rfl (fun K hK => ?_) AllReadyH.nil
  go_simp
  refine (M2.out _ _ _ _ hr1 hHeld).mono ?_
  rintro e w2 ⟨ad2, x2, cc2, rfl, hr2, hr1b, hn2, hS⟩
  go_wp2_with fail
  refine hK.out _ _ hS (fun hHeld => ?_)
  clear hK K
  refine wpAnyH_ready (rs := [10]) (fuel := 1) (by kernel_rfl) (by simp) ?_
  refine AllReadyH.cons rfl (fun K hK => ?_) AllReadyH.nil
  go_simp
  refine (MJ.out _ _ _ _ _ _ _ hr1b hr2 hn1 hn2 hHeld).mono ?_
  rintro e w3 ⟨vj, rfl, ho, hS⟩
  go_wp2_with fail
  refine hK.out _ _ hS (fun hHeld => ?_)
  clear hK K
  refine take_op 11 4 (vj) (fuel := 0) rfl rfl (by kernel_rfl) (by kernel_rfl) (by kernel_rfl) (fun _ _ _ h => h) (by rfl) (fun w hSw => by go_simp) hHeld ?_
  simp only [Act.put, List.setIfInBounds_toArray, List.set_cons_zero, List.set_cons_succ]
  refine wpAnyH_done (by kernel_rfl) ?_ _
  go_wp2_with fail
  go_ret
  exact ⟨_, rfl, ho, hHeld.1⟩

set_option maxRecDepth 20000 in
set_option maxHeartbeats 3200000 in
theorem specShared_any (a b : IaD) (v u : Value) (w : World) (h : IaRow w a v) (k : IaRow w b u) (fa : Small a) (fb : Small b) :
    Calls Tryz.prog 41 #[v, u] w (OwnRes w w.heap.size (sharedOf a b)) := by
  have CF : Hid (∀ W, Below w.heap.size w W → Calls Tryz.prog 40 #[v, u] W fun e w' => e = .returned (.bool (fitB a b)) ∧ Below W.heap.size W w') := fun W hW => specFit_any a b v u W (h.below hW) (k.below hW) fa fb
  obtain ⟨q, hq⟩ : ∃ q, q = fitB a b := ⟨_, rfl⟩
  have HR : Hid (sharedOf a b = if q then shOf a b else []) := by unfold Hid sharedOf; rw [hq]
  rw [← hq] at CF
  obtain ⟨R, hR⟩ : ∃ R, R = sharedOf a b := ⟨_, rfl⟩
  rw [← hR] at HR ⊢
  clear hq hR
  obtain ⟨a2, n2, c2, a3, n3, c3, a4, n4, c4, a5, n5, c5, rfl, r2, r3, r4, r5⟩ := h
  obtain ⟨b2, m2, d2, b3, m3, d3, b4, m4, d4, b5, m5, d5, rfl, q2, q3, q4, q5⟩ := k
  obtain ⟨st, it, ins, outs, hids, steps⟩ := a
  obtain ⟨su, iu, jns, juts, jids, jteps⟩ := b
  obtain ⟨f2, f3, f4, f5⟩ := fa
  obtain ⟨g2, g3, g4, g5⟩ := fb
  simp only at r2 r3 r4 r5 q2 q3 q4 q5 f2 f3 f4 f5 g2 g3 g4 g5
  have HA : Hid (∀ W, Below w.heap.size w W → IaRow W ⟨st, it, ins, outs, hids, steps⟩ (.agg #[.int .i64 st, .int .i64 it, .slice a2 n2 c2, .slice a3 n3 c3, .slice a4 n4 c4, .slice a5 n5 c5])) := fun W hW => IaRow.below ⟨a2, n2, c2, a3, n3, c3, a4, n4, c4, a5, n5, c5, rfl, r2, r3, r4, r5⟩ hW
  have HB : Hid (∀ W, Below w.heap.size w W → IaRow W ⟨su, iu, jns, juts, jids, jteps⟩ (.agg #[.int .i64 su, .int .i64 iu, .slice b2 m2 d2, .slice b3 m3 d3, .slice b4 m4 d4, .slice b5 m5 d5])) := fun W hW => IaRow.below ⟨b2, m2, d2, b3, m3, d3, b4, m4, d4, b5, m5, d5, rfl, q2, q3, q4, q5⟩ hW
  have S0 := Lib.hid (Box2.start w (iaC st it a2 n2 c2 a3 n3 c3 a4 n4 c4 a5 n5 c5) (iaC su iu b2 m2 d2 b3 m3 d3 b4 m4 d4 b5 m5 d5) 31)
  have e2 := r2.1
  have e3 := r3.1
  have e4 := r4.1
  have k2 := q2.1
  have k3 := q3.1
  have k4 := q4.1
  rw [e2] at f2
  rw [e3] at f3
  rw [e4] at f4
  rw [k2] at g2
  rw [k3] at g3
  rw [k4] at g4
  have R2 := Lib.hid r2
  have R3 := Lib.hid r3
  have R4 := Lib.hid r4
  have R5 := Lib.hid r5
  have Q2 := Lib.hid q2
  have Q3 := Lib.hid q3
  have Q4 := Lib.hid q4
  have Q5 := Lib.hid q5
  clear r2 r3 r4 r5 q2 q3 q4 q5
  clear HA HB
  have ca0 := S0.out.2.1.cell (j := 0) (u := .int .i64 st) rfl
  have ca1 := S0.out.2.1.cell (j := 1) (u := .int .i64 it) rfl
  have ca2 := S0.out.2.1.cell (j := 2) (u := .slice a2 n2 c2) rfl
  have ca3 := S0.out.2.1.cell (j := 3) (u := .slice a3 n3 c3) rfl
  have ca4 := S0.out.2.1.cell (j := 4) (u := .slice a4 n4 c4) rfl
  have ca5 := S0.out.2.1.cell (j := 5) (u := .slice a5 n5 c5) rfl
  have cb0 := S0.out.2.2.cell (j := 0) (u := .int .i64 su) rfl
  have cb1 := S0.out.2.2.cell (j := 1) (u := .int .i64 iu) rfl
  have cb2 := S0.out.2.2.cell (j := 2) (u := .slice b2 m2 d2) rfl
  have cb3 := S0.out.2.2.cell (j := 3) (u := .slice b3 m3 d3) rfl
  have cb4 := S0.out.2.2.cell (j := 4) (u := .slice b4 m4 d4) rfl
  have cb5 := S0.out.2.2.cell (j := 5) (u := .slice b5 m5 d5) rfl
  go_enter Tryz.func41, Tryz.ntmps41
  go_wp2_with fail
  clear ca0 ca1 ca2 ca3 ca4 ca5 cb0 cb1 cb2 cb3 cb4 cb5
  refine (CF.out _ S0.out.1).mono ?_
  rintro e w1 ⟨rfl, hb⟩
  have S1 := Lib.hid (S0.out.below hb)
  clear hb S0
  cases q with
  | false =>
    have HE : Hid (R = []) := by rw [HR.out]; rfl
    have SA := S1.out.alloc (.cells #[] 3)
    go_wp2_with fail
    go_ret
    obtain rfl : R = [] := HE.out
    exact ⟨_, _, rfl, (owns_lit _ [] 0 rfl (by unfold maxLen; omega)).mono S1.out.1.size, SA.1⟩
  | true =>
    have HE : Hid (R = shOf ⟨st, it, ins, outs, hids, steps⟩ ⟨su, iu, jns, juts, jids, jteps⟩) := by rw [HR.out]; rfl
    clear HR CF
    have hlM1 : (meetOf ins juts).length ≤ 1048576 := by have := meet_len ins juts; omega
    have hlM2 : (meetOf outs jns).length ≤ 1048576 := by have := meet_len outs jns; omega
    have M1 : Hid (∀ W, Box2 w W w.heap.size (w.heap.size + 1) 31 (iaC st it a2 n2 c2 a3 n3 c3 a4 n4 c4 a5 n5 c5) (iaC su iu b2 m2 d2 b3 m3 d3 b4 m4 d4 b5 m5 d5) → Calls Tryz.prog 46 #[.slice a2 n2 c2, .slice b3 m3 d3] W fun e w' => ∃ ad n cc, e = .returned (.slice ad n cc) ∧ Row w' ad n (meetOf ins juts) ∧ n ≤ 1048576 ∧ Box2 w w' w.heap.size (w.heap.size + 1) 31 (iaC st it a2 n2 c2 a3 n3 c3 a4 n4 c4 a5 n5 c5) (iaC su iu b2 m2 d2 b3 m3 d3 b4 m4 d4 b5 m5 d5)) := fun W hW =>
      (specSetMeet_any a2 b3 n2 c2 m3 d3 ins juts W (R2.out.below hW.1) (Q3.out.below hW.1) (by omega) (by omega)).mono fun e w' h => by
        obtain ⟨g, cc, he, ho, hb⟩ := h
        exact ⟨_, _, _, he, ho.row.2.2.2, hlM1, hW.below hb⟩
    have M2 : Hid (∀ W ap np lp, Row W ap np lp → Box2 w W w.heap.size (w.heap.size + 1) 31 (iaC st it a2 n2 c2 a3 n3 c3 a4 n4 c4 a5 n5 c5) (iaC su iu b2 m2 d2 b3 m3 d3 b4 m4 d4 b5 m5 d5) → Calls Tryz.prog 46 #[.slice a3 n3 c3, .slice b2 m2 d2] W fun e w' => ∃ ad n cc, e = .returned (.slice ad n cc) ∧ Row w' ad n (meetOf outs jns) ∧ Row w' ap np lp ∧ n ≤ 1048576 ∧ Box2 w w' w.heap.size (w.heap.size + 1) 31 (iaC st it a2 n2 c2 a3 n3 c3 a4 n4 c4 a5 n5 c5) (iaC su iu b2 m2 d2 b3 m3 d3 b4 m4 d4 b5 m5 d5)) := fun W ap np lp hp hW =>
      (specSetMeet_any a3 b2 n3 c3 m2 d2 outs jns W (R3.out.below hW.1) (Q2.out.below hW.1) (by omega) (by omega)).mono fun e w' h => by
        obtain ⟨g, cc, he, ho, hb⟩ := h
        exact ⟨_, _, _, he, ho.row.2.2.2, hp.below hb, hlM2, hW.below hb⟩
    have MJ : Hid (∀ W ap np cp aq nq cq, Row W ap np (meetOf ins juts) → Row W aq nq (meetOf outs jns) → np ≤ 1048576 → nq ≤ 1048576 → Box2 w W w.heap.size (w.heap.size + 1) 31 (iaC st it a2 n2 c2 a3 n3 c3 a4 n4 c4 a5 n5 c5) (iaC su iu b2 m2 d2 b3 m3 d3 b4 m4 d4 b5 m5 d5) → Calls Tryz.prog 43 #[.slice ap np cp, .slice aq nq cq] W fun e w' => ∃ v, e = .returned v ∧ OwnRes w w.heap.size (shOf ⟨st, it, ins, outs, hids, steps⟩ ⟨su, iu, jns, juts, jids, jteps⟩) (.returned v) w' ∧ Box2 w w' w.heap.size (w.heap.size + 1) 31 (iaC st it a2 n2 c2 a3 n3 c3 a4 n4 c4 a5 n5 c5) (iaC su iu b2 m2 d2 b3 m3 d3 b4 m4 d4 b5 m5 d5)) := fun W ap np cp aq nq cq hp hq h1 h2 hW =>
      (specSetJoin_any ap aq np cp nq cq (meetOf ins juts) (meetOf outs jns) W hp hq (by omega) (by omega)).mono fun e w' h => by
        obtain ⟨g, cc, he, ho, hb⟩ := h
        exact ⟨_, he, ⟨g, cc, rfl, ho.mono hW.1.size, (hW.below hb).1⟩, hW.below hb⟩
    go_wp2_with fail
    have SD := S1.out.drew
    clear S1
    refine wp_region_held_drew (S := fun w' => Box2 w w' w.heap.size (w.heap.size + 1) 31 (iaC st it a2 n2 c2 a3 n3 c3 a4 n4 c4 a5 n5 c5) (iaC su iu b2 m2 d2 b3 m3 d3 b4 m4 d4 b5 m5 d5)) (by kernel_rfl) SD (fun hHeld => ?_)
    change wpAnyH _ _ _ _ _ 12 (Array.replicate 12 false) _ _
    refine take_op 0 10 (.pointer (some ⟨w.heap.size, 2, none⟩)) (fuel := 11) rfl rfl (by kernel_rfl) (by kernel_rfl) (by kernel_rfl) (fun _ _ _ h => h) (by rfl) (fun w hSw => by go_simp) hHeld ?_
    simp only [Act.put, List.setIfInBounds_toArray, List.set_cons_zero, List.set_cons_succ]
    refine take_op 1 11 (.slice a2 n2 c2) (fuel := 10) rfl rfl (by kernel_rfl) (by kernel_rfl) (by kernel_rfl) (fun _ _ _ h => h) (by rfl) (fun w hSw => by have m := hSw.2.1.cell (j := 2) (u := .slice a2 n2 c2) rfl; go_simp) hHeld ?_
    simp only [Act.put, List.setIfInBounds_toArray, List.set_cons_zero, List.set_cons_succ]
    refine take_op 2 12 (.pointer (some ⟨w.heap.size + 1, 3, none⟩)) (fuel := 9) rfl rfl (by kernel_rfl) (by kernel_rfl) (by kernel_rfl) (fun _ _ _ h => h) (by rfl) (fun w hSw => by go_simp) hHeld ?_
    simp only [Act.put, List.setIfInBounds_toArray, List.set_cons_zero, List.set_cons_succ]
    refine take_op 3 13 (.slice b3 m3 d3) (fuel := 8) rfl rfl (by kernel_rfl) (by kernel_rfl) (by kernel_rfl) (fun _ _ _ h => h) (by rfl) (fun w hSw => by have m := hSw.2.2.cell (j := 3) (u := .slice b3 m3 d3) rfl; go_simp) hHeld ?_
    simp only [Act.put, List.setIfInBounds_toArray, List.set_cons_zero, List.set_cons_succ]
    refine take_op 5 15 (.pointer (some ⟨w.heap.size, 3, none⟩)) (fuel := 7) rfl rfl (by kernel_rfl) (by kernel_rfl) (by kernel_rfl) (fun _ _ _ h => h) (by rfl) (fun w hSw => by go_simp) hHeld ?_
    simp only [Act.put, List.setIfInBounds_toArray, List.set_cons_zero, List.set_cons_succ]
    refine take_op 6 16 (.slice a3 n3 c3) (fuel := 6) rfl rfl (by kernel_rfl) (by kernel_rfl) (by kernel_rfl) (fun _ _ _ h => h) (by rfl) (fun w hSw => by have m := hSw.2.1.cell (j := 3) (u := .slice a3 n3 c3) rfl; go_simp) hHeld ?_
    simp only [Act.put, List.setIfInBounds_toArray, List.set_cons_zero, List.set_cons_succ]
    refine take_op 7 17 (.pointer (some ⟨w.heap.size + 1, 2, none⟩)) (fuel := 5) rfl rfl (by kernel_rfl) (by kernel_rfl) (by kernel_rfl) (fun _ _ _ h => h) (by rfl) (fun w hSw => by go_simp) hHeld ?_
    simp only [Act.put, List.setIfInBounds_toArray, List.set_cons_zero, List.set_cons_succ]
    refine take_op 8 18 (.slice b2 m2 d2) (fuel := 4) rfl rfl (by kernel_rfl) (by kernel_rfl) (by kernel_rfl) (fun _ _ _ h => h) (by rfl) (fun w hSw => by have m := hSw.2.2.cell (j := 2) (u := .slice b2 m2 d2) rfl; go_simp) hHeld ?_
    simp only [Act.put, List.setIfInBounds_toArray, List.set_cons_zero, List.set_cons_succ]
    refine wpAnyH_ready (rs := [4]) (fuel := 3) (by kernel_rfl) (by simp) ?_
    refine AllReadyH.cons rfl (fun K hK => ?_) AllReadyH.nil
    go_simp
    refine (M1.out _ hHeld).mono ?_
    rintro e w1 ⟨ad1, x1, cc1, rfl, hr1, hn1, hS⟩
    go_wp2_with fail
    refine hK.out _ _ hS (fun hHeld => ?_)
    clear hK K
    refine wpAnyH_ready (rs := [9]) (fuel := 2) (by kernel_rfl) (by simp) ?_
    refine AllReadyH.cons rfl (fun K hK => ?_) AllReadyH.nil
    go_simp
    refine (M2.out _ _ _ _ hr1 hHeld).mono ?_
    rintro e w2 ⟨ad2, x2, cc2, rfl, hr2, hr1b, hn2, hS⟩
    go_wp2_with fail
    refine hK.out _ _ hS (fun hHeld => ?_)
    clear hK K
    refine wpAnyH_ready (rs := [10]) (fuel := 1) (by kernel_rfl) (by simp) ?_
    refine AllReadyH.cons rfl (fun K hK => ?_) AllReadyH.nil
    go_simp
    refine (MJ.out _ _ _ _ _ _ _ hr1b hr2 hn1 hn2 hHeld).mono ?_
    rintro e w3 ⟨vj, rfl, ho, hS⟩
    go_wp2_with fail
    refine hK.out _ _ hS (fun hHeld => ?_)
    clear hK K
    refine take_op 11 4 (vj) (fuel := 0) rfl rfl (by kernel_rfl) (by kernel_rfl) (by kernel_rfl) (fun _ _ _ h => h) (by rfl) (fun w hSw => by go_simp) hHeld ?_
    simp only [Act.put, List.setIfInBounds_toArray, List.set_cons_zero, List.set_cons_succ]
    refine wpAnyH_done (by kernel_rfl) ?_ _
    go_wp2_with fail
    go_ret
    rw [HE.out]
    exact ho

end Go.Proofs.YtdbgjgeglgipiaaGreat
