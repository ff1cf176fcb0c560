/-
  The contract of the program's Clashes. Conditions: the lists have at most 2^20 elements.
-/
import Derived.Test.YtalanlmhfggheaaClashing
import Derived.Test.YtalanlmhfggheaaClashList
namespace Go.Proofs.Ytalanlmhfggheaa
open Go.RowKit

theorem allP_done (C : Int → Int → Bool) (m k : Nat) : allP (doneS C m k 0) m k = allP C m k :=
  allP_congr (fun p q hp hq => by
    unfold doneS
    rw [decide_eq_true (p := (0 ≤ (p : Int) ∧ (p : Int) < (k : Int) ∧ 0 ≤ (q : Int) ∧ (q : Int) < (m : Int))) (by omega)]
    simp)

set_option maxRecDepth 20000 in
set_option maxHeartbeats 3200000 in
theorem implClashes_any (a b : IaD) (v u : Value) (w : World) (h : IaRow w a v) (k : IaRow w b u) (fa : Small a) (fb : Small b) :
    Calls Try.prog 9 #[v, u] w (RowRes w w.heap.size (clashesOf a b)) := by
  have CF : Hid (∀ W, Below w.heap.size w W → Calls Try.prog 28 #[v, u] W fun e w' => e = .returned (.bool (fitB a b)) ∧ Below W.heap.size W w') := fun W hW => implFit_any a b v u W (h.below hW) (k.below hW) fa fb
  have CP0 : Hid (iaOkB a = true → iaOkB b = true → ∀ W, Below w.heap.size w W → Calls Try.prog 30 #[v, u] W fun e w' => ∃ M n, e = .returned (.map (some M)) ∧ MapB w' M n (doneS (clashB a b) b.states.toNat a.states.toNat 0) ∧ W.heap.size ≤ M ∧ n ≤ 1600 ∧ Below W.heap.size W w') := fun h1 h2 W hW => clashingPairs_any a b v u W (h.below hW) (k.below hW) fa fb h1 h2
  obtain ⟨q, hq⟩ : ∃ q, q = fitB a b := ⟨_, rfl⟩
  have HOK : Hid (q = true → iaOkB a = true ∧ iaOkB b = true ∧ a.states * b.states ≤ 40) := fun e => fitB_ok (by rw [← hq]; exact e)
  obtain ⟨C, hC⟩ : ∃ C, C = clashB a b := ⟨_, rfl⟩
  obtain ⟨R, hR⟩ : ∃ R, R = clashesOf a b := ⟨_, rfl⟩
  have HR : Hid (R = if q then (allP C b.states.toNat a.states.toNat).map (stOf b.states) else []) := by unfold Hid; rw [hR, hC, hq]; rfl
  rw [← hR]
  rw [← hC] at CP0
  rw [← hq] at CF
  clear hq hC hR
  obtain ⟨a2, n2, c2, a3, n3, c3, a4, n4, c4, a5, n5, c5, rfl, r2, r3, r4, r5⟩ := h
  obtain ⟨b2, m2, d2, b3, m3, d3, b4, m4, d4, b5, m5, d5, rfl, q2, q3, q4, q5⟩ := k
  obtain ⟨st, it, ins, outs, hids, steps⟩ := a
  obtain ⟨su, iu, jns, juts, jids, jteps⟩ := b
  obtain ⟨f2, f3, f4, f5⟩ := fa
  obtain ⟨g2, g3, g4, g5⟩ := fb
  simp only at r2 r3 r4 r5 q2 q3 q4 q5 f2 f3 f4 f5 g2 g3 g4 g5
  have HA : Hid (∀ W, Below w.heap.size w W → IaRow W ⟨st, it, ins, outs, hids, steps⟩ (.agg #[.int .i64 st, .int .i64 it, .slice a2 n2 c2, .slice a3 n3 c3, .slice a4 n4 c4, .slice a5 n5 c5])) := fun W hW => IaRow.below ⟨a2, n2, c2, a3, n3, c3, a4, n4, c4, a5, n5, c5, rfl, r2, r3, r4, r5⟩ hW
  have HB : Hid (∀ W, Below w.heap.size w W → IaRow W ⟨su, iu, jns, juts, jids, jteps⟩ (.agg #[.int .i64 su, .int .i64 iu, .slice b2 m2 d2, .slice b3 m3 d3, .slice b4 m4 d4, .slice b5 m5 d5])) := fun W hW => IaRow.below ⟨b2, m2, d2, b3, m3, d3, b4, m4, d4, b5, m5, d5, rfl, q2, q3, q4, q5⟩ hW
  have S0 := Lib.hid (Box2.start w (iaC st it a2 n2 c2 a3 n3 c3 a4 n4 c4 a5 n5 c5) (iaC su iu b2 m2 d2 b3 m3 d3 b4 m4 d4 b5 m5 d5) 30)
  clear HA HB r2 r3 r4 r5 q2 q3 q4 q5 f2 f3 f4 f5 g2 g3 g4 g5
  simp only at HOK HR CP0
  have ca0 := S0.out.2.1.cell (j := 0) (u := .int .i64 st) rfl
  have ca1 := S0.out.2.1.cell (j := 1) (u := .int .i64 it) rfl
  have ca2 := S0.out.2.1.cell (j := 2) (u := .slice a2 n2 c2) rfl
  have ca3 := S0.out.2.1.cell (j := 3) (u := .slice a3 n3 c3) rfl
  have ca4 := S0.out.2.1.cell (j := 4) (u := .slice a4 n4 c4) rfl
  have ca5 := S0.out.2.1.cell (j := 5) (u := .slice a5 n5 c5) rfl
  have cb0 := S0.out.2.2.cell (j := 0) (u := .int .i64 su) rfl
  have cb1 := S0.out.2.2.cell (j := 1) (u := .int .i64 iu) rfl
  have cb2 := S0.out.2.2.cell (j := 2) (u := .slice b2 m2 d2) rfl
  have cb3 := S0.out.2.2.cell (j := 3) (u := .slice b3 m3 d3) rfl
  have cb4 := S0.out.2.2.cell (j := 4) (u := .slice b4 m4 d4) rfl
  have cb5 := S0.out.2.2.cell (j := 5) (u := .slice b5 m5 d5) rfl
  go_enter Try.func9, Try.ntmps9
  go_wp2_with fail
  clear ca0 ca1 ca2 ca3 ca4 ca5 cb0 cb1 cb2 cb3 cb4 cb5
  refine (CF.out _ S0.out.1).mono ?_
  rintro e w1 ⟨rfl, hb⟩
  have S1 := Lib.hid (S0.out.below hb)
  clear hb S0
  cases q with
  | false =>
    have HE : Hid (R = []) := by rw [HR.out]; rfl
    go_wp2_with fail
    go_ret
    rw [HE.out]
    exact ⟨_, rfl, World.ownsRow_nil _ _ _ _, S1.out.1⟩
  | true =>
    have hok := HOK.out rfl
    have hsA := iaOk_states hok.1
    have hsB := iaOk_states hok.2.1
    simp only at hsA hsB
    have HE : Hid (R = (allP C su.toNat st.toNat).map (stOf su)) := HR.out
    have CP := Lib.hid (CP0.out hok.1 hok.2.1)
    have CI : Hid (∀ W M n, MapB W M n (doneS C su.toNat st.toNat 0) → Below w.heap.size w W → Calls Try.prog 29 #[.agg #[.int .i64 st, .int .i64 it, .slice a2 n2 c2, .slice a3 n3 c3, .slice a4 n4 c4, .slice a5 n5 c5], .agg #[.int .i64 su, .int .i64 iu, .slice b2 m2 d2, .slice b3 m3 d3, .slice b4 m4 d4, .slice b5 m5 d5], .map (some M)] W (RowRes W W.heap.size R)) := fun W M n hM _ => by
      have := inOrder_any st it (.slice a2 n2 c2) (.slice a3 n3 c3) (.slice a4 n4 c4) (.slice a5 n5 c5) su iu (.slice b2 m2 d2) (.slice b3 m3 d3) (.slice b4 m4 d4) (.slice b5 m5 d5) M n _ W hM (by omega) (by omega)
      rw [allP_done, ← HE.out] at this
      exact this
    clear HR CF CP0 HOK hok HE
    go_wp2_with fail
    have SD := S1.out.drew
    clear S1
    refine wp_region_held_drew (S := fun w' => Box2 w w' w.heap.size (w.heap.size + 1) 30 (iaC st it a2 n2 c2 a3 n3 c3 a4 n4 c4 a5 n5 c5) (iaC su iu b2 m2 d2 b3 m3 d3 b4 m4 d4 b5 m5 d5)) (by kernel_rfl) SD (fun hHeld => ?_)
    change wpAnyH _ _ _ _ _ 7 (Array.replicate 7 false) _ _
    refine take_yields 0 9 (.agg #[.int .i64 st, .int .i64 it, .slice a2 n2 c2, .slice a3 n3 c3, .slice a4 n4 c4, .slice a5 n5 c5]) (fuel := 6) rfl rfl (by kernel_rfl) (by kernel_rfl) (by kernel_rfl) (fun _ _ _ h => h) (yieldsIf_load_mid (by rfl) _ _ rfl (w.heap.size) 0 rfl (iaC st it a2 n2 c2 a3 n3 c3 a4 n4 c4 a5 n5 c5).toList _ (fun w hw => hw.2.1.range) Try.underlying30 rfl (by kernel_rfl)) hHeld ?_
    simp only [Act.put, List.setIfInBounds_toArray, List.set_cons_zero, List.set_cons_succ]
    refine take_yields 1 10 (.agg #[.int .i64 su, .int .i64 iu, .slice b2 m2 d2, .slice b3 m3 d3, .slice b4 m4 d4, .slice b5 m5 d5]) (fuel := 5) rfl rfl (by kernel_rfl) (by kernel_rfl) (by kernel_rfl) (fun _ _ _ h => h) (yieldsIf_load_mid (by rfl) _ _ rfl (w.heap.size + 1) 0 rfl (iaC su iu b2 m2 d2 b3 m3 d3 b4 m4 d4 b5 m5 d5).toList _ (fun w hw => hw.2.2.range) Try.underlying30 rfl (by kernel_rfl)) hHeld ?_
    simp only [Act.put, List.setIfInBounds_toArray, List.set_cons_zero, List.set_cons_succ]
    refine take_yields 2 11 (.agg #[.int .i64 st, .int .i64 it, .slice a2 n2 c2, .slice a3 n3 c3, .slice a4 n4 c4, .slice a5 n5 c5]) (fuel := 4) rfl rfl (by kernel_rfl) (by kernel_rfl) (by kernel_rfl) (fun _ _ _ h => h) (yieldsIf_load_mid (by rfl) _ _ rfl (w.heap.size) 0 rfl (iaC st it a2 n2 c2 a3 n3 c3 a4 n4 c4 a5 n5 c5).toList _ (fun w hw => hw.2.1.range) Try.underlying30 rfl (by kernel_rfl)) hHeld ?_
    simp only [Act.put, List.setIfInBounds_toArray, List.set_cons_zero, List.set_cons_succ]
    refine take_yields 3 12 (.agg #[.int .i64 su, .int .i64 iu, .slice b2 m2 d2, .slice b3 m3 d3, .slice b4 m4 d4, .slice b5 m5 d5]) (fuel := 3) rfl rfl (by kernel_rfl) (by kernel_rfl) (by kernel_rfl) (fun _ _ _ h => h) (yieldsIf_load_mid (by rfl) _ _ rfl (w.heap.size + 1) 0 rfl (iaC su iu b2 m2 d2 b3 m3 d3 b4 m4 d4 b5 m5 d5).toList _ (fun w hw => hw.2.2.range) Try.underlying30 rfl (by kernel_rfl)) hHeld ?_
    simp only [Act.put, List.setIfInBounds_toArray, List.set_cons_zero, List.set_cons_succ]
    refine wpAnyH_ready (rs := [4]) (fuel := 2) (by kernel_rfl) (by simp) ?_
    refine AllReadyH.cons rfl (fun K hK => ?_) AllReadyH.nil
    go_simp
    refine (CP.out _ hHeld.1).mono ?_
    rintro e w2 ⟨M, n, rfl, hm, hM, hn, hb⟩
    have HM := Lib.hid hm
    have hS2 := hHeld.below hb
    clear hm hb
    go_wp2_with fail
    refine hK.out _ _ hS2 (fun hHeld => ?_)
    clear hK K
    refine wpAnyH_ready (rs := [5]) (fuel := 1) (by kernel_rfl) (by simp) ?_
    refine AllReadyH.cons rfl (fun K hK => ?_) AllReadyH.nil
    go_simp
    refine (CI.out _ M n HM.out hHeld.1).mono ?_
    rintro e w3 ⟨v3, rfl, ho, hb⟩
    have HO := Lib.hid (ho.mono (base := w.heap.size) hHeld.1.size)
    have hS3 := hHeld.below hb
    clear ho hb
    go_wp2_with fail
    refine hK.out _ _ hS3 (fun hHeld => ?_)
    clear hK K
    refine take_op 6 4 (v3) (fuel := 0) rfl rfl (by kernel_rfl) (by kernel_rfl) (by kernel_rfl) (fun _ _ _ h => h) (by rfl) (fun w hSw => by go_simp) hHeld ?_
    simp only [Act.put, List.setIfInBounds_toArray, List.set_cons_zero, List.set_cons_succ]
    refine wpAnyH_done (by kernel_rfl) ?_ _

    go_wp2_with fail
    go_ret
    exact ⟨_, rfl, HO.out, hHeld.1⟩

end Go.Proofs.Ytalanlmhfggheaa
