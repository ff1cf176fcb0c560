/-
  The contract of the model's IaOk. Conditions: the automaton's lists have at most 2^20 elements.
-/
import Derived.Test.YtfhjhfhfbgddeaaGreatDoorSpecStep
import Derived.Test.YtfhjhfhfbgddeaaGreatDoorIaSteps
import Derived.Deep.RegionHeld3
namespace Go.Proofs.YtfhjhfhfbgddeaaGreatDoor
open Go.RowKit

theorem btw_range {x lo hi : Int} (h : true = btw x lo hi) : lo ≤ x ∧ x ≤ hi := by
  have := h.symm
  simpa [btw] using this

theorem putAll_len (xs L : List Int) : (putAll L xs).length ≤ L.length + xs.length := by
  induction xs generalizing L with
  | nil => simp [putAll]
  | cons x r ih =>
    have h1 := ih (put L x)
    have h2 := put_len L x
    show (putAll (put L x) r).length ≤ _
    simp only [List.length_cons]
    omega

theorem meet_len (xs ys : List Int) : (meetOf xs ys).length ≤ xs.length := by
  have h1 := putAll_len (xs.filter fun x => decide (x ∈ ys)) []
  have h2 := List.length_filter_le (fun x => decide (x ∈ ys)) xs
  simp only [List.length_nil, Nat.zero_add] at h1
  exact Nat.le_trans h1 h2

theorem stepsB_at (a : IaD) (ss : List St) (k : Nat) (h0 : 0 < k) (hk : k < ss.length) : stepsB a (ss.take (k + 1)) = (stepsB a (ss.take k) && nextB a (ss[k - 1]'(by omega)) ss[k] && goodStepB a ss[k]) := by
  obtain ⟨j, rfl⟩ : ∃ j, k = j + 1 := ⟨k - 1, by omega⟩
  exact stepsB_next a ss j hk

theorem stepsB_zero (a : IaD) (ss : List St) (k : Nat) (h0 : ¬ 0 < k) (hk : k < ss.length) : stepsB a (ss.take (k + 1)) = goodStepB a ss[k] := by
  obtain rfl : k = 0 := by omega
  exact stepsB_first a ss hk

theorem stepsB_bad (a : IaD) (ss : List St) (k : Nat) (hk : k < ss.length) (h : goodStepB a ss[k] = false) : stepsB a ss = false := by
  apply stepsB_fail (m := k + 1)
  by_cases h0 : 0 < k
  · rw [stepsB_at a ss k h0 hk, h, Bool.and_false]
  · rw [stepsB_zero a ss k h0 hk, h]

theorem stepsB_off (a : IaD) (ss : List St) (k : Nat) (h0 : 0 < k) (hk : k < ss.length) (h : nextB a (ss[k - 1]'(by omega)) ss[k] = false) : stepsB a ss = false := by
  apply stepsB_fail (m := k + 1)
  rw [stepsB_at a ss k h0 hk, h, Bool.and_false, Bool.false_and]

/-- The numbers of a good step are small. -/
theorem good_small {a : IaD} {x : St} (h1 : 1 ≤ a.states) (h2 : a.states ≤ 40) (s3 : setOkB a.ins = true) (s4 : setOkB a.outs = true) (s5 : setOkB a.hids = true) (h : goodStepB a x = true) :
    (-1099511627776 ≤ x.1 ∧ x.1 ≤ 1099511627776) ∧ (-1099511627776 ≤ x.2.1 ∧ x.2.1 ≤ 1099511627776) ∧ (-1099511627776 ≤ x.2.2 ∧ x.2.2 ≤ 1099511627776) := by
  simp only [goodStepB, stateB, btw, Bool.and_eq_true, Bool.or_eq_true, decide_eq_true_eq, hasB] at h
  obtain ⟨⟨⟨a1, a2⟩, ⟨b1, b2⟩⟩, hm⟩ := h
  have : 0 ≤ x.2.1 ∧ x.2.1 ≤ 11 := by
    rcases hm with (hm | hm) | hm
    · exact setOk_small s3 hm
    · exact setOk_small s4 hm
    · exact setOk_small s5 hm
  omega

set_option maxRecDepth 20000 in
set_option maxHeartbeats 6400000 in
theorem specIaOk_any (a : IaD) (v : Value) (w : World) (h : IaRow w a v) (f2 : a.ins.length ≤ 1048576) (f3 : a.outs.length ≤ 1048576) (f4 : a.hids.length ≤ 1048576) (f5 : a.steps.length ≤ 1048576) :
    Calls Tryz.prog 8 #[v] w fun e w' => e = .returned (.bool (iaOkB a)) ∧ Below w.heap.size w w' := by
  obtain ⟨a2, n2, c2, a3, n3, c3, a4, n4, c4, a5, n5, c5, rfl, r2, r3, r4, r5⟩ := h
  obtain ⟨st, it, ins, outs, hids, steps⟩ := a
  simp only at r2 r3 r4 r5 f2 f3 f4 f5
  have hl2 := r2.1
  have hl3 := r3.1
  have hl4 := r4.1
  have hl5 := r5.1
  rw [hl2] at f2
  rw [hl3] at f3
  rw [hl4] at f4
  rw [hl5] at f5
  have R2 := Lib.hid r2
  have R3 := Lib.hid r3
  have R4 := Lib.hid r4
  have R5 := Lib.hid r5
  have HL5 := Lib.hid hl5
  clear r2 r3 r4 r5 hl2 hl3 hl4 hl5
  obtain ⟨q1, hq1⟩ : ∃ q, q = btw st 1 40 := ⟨_, rfl⟩
  obtain ⟨q2, hq2⟩ : ∃ q, q = btw it 0 (st - 1) := ⟨_, rfl⟩
  obtain ⟨q3, hq3⟩ : ∃ q, q = setOkB ins := ⟨_, rfl⟩
  obtain ⟨q4, hq4⟩ : ∃ q, q = setOkB outs := ⟨_, rfl⟩
  obtain ⟨q5, hq5⟩ : ∃ q, q = setOkB hids := ⟨_, rfl⟩
  obtain ⟨r, hr⟩ : ∃ r, r = iaOkB ⟨st, it, ins, outs, hids, steps⟩ := ⟨_, rfl⟩
  rw [← hr]
  have HR : Hid (r = (q1 && q2 && (q3 && q4 && q5 && decide (n5 ≤ 400)) && apartB ⟨st, it, ins, outs, hids, steps⟩ && stepsB ⟨st, it, ins, outs, hids, steps⟩ steps)) := by
    unfold Hid
    rw [hr, hq1, hq2, hq3, hq4, hq5, ← HL5.out]
    rfl
  have HQ1 := Lib.hid hq1
  have HQ2 := Lib.hid hq2
  have HQ3 := Lib.hid hq3
  have HQ4 := Lib.hid hq4
  have HQ5 := Lib.hid hq5
  clear hr hq1 hq2 hq3 hq4 hq5
  have C1 : Hid (∀ W, Calls Tryz.prog 20 #[.int .i64 st, .int .i64 1, .int .i64 40] W fun e w' => e = .returned (.bool q1) ∧ w' = W) := fun W => by rw [HQ1.out]; exact between_any st 1 40 W
  have V0 := Lib.hid (VarIs.new w #[.int .i64 st, .int .i64 it, .slice a2 n2 c2, .slice a3 n3 c3, .slice a4 n4 c4, .slice a5 n5 c5] 27 rfl)
  have B0 : Hid (∀ o, Below w.heap.size w (w.alloc o)) := fun o => (Below.refl _ _).alloc (Nat.le_refl _) _
  go_enter Tryz.func8, Tryz.ntmps8
  go_wp2_with fail
  refine (C1.out _).mono ?_
  rintro e w1 ⟨rfl, rfl⟩
  cases q1 with
  | false =>
    go_wp2_with fail
    go_ret
    exact ⟨ret_bool (by rw [HR.out]; rfl), B0.out _⟩
  | true =>
    obtain ⟨s1, s2⟩ := btw_range HQ1.out
    go_wp2_with fail
    refine (state_any st it it _ _ _ _ _ s1 s2).mono ?_
    rw [← HQ2.out]
    rintro e w1 ⟨rfl, hb⟩
    have B1 : Hid (Below w.heap.size w w1) := (B0.out _).trans (hb.mono (B0.out _).size)
    have V1 := Lib.hid (V0.out.below hb)
    clear hb
    cases q2 with
    | false =>
      go_wp2_with fail
      go_ret
      exact ⟨ret_bool (by rw [HR.out]; rfl), B1.out⟩
    | true =>
      have k1 := V1.out.cell (j := 2) rfl
      go_wp2_with fail
      clear k1
      refine (specSetOk_any a2 n2 c2 ins _ (R2.out.below B1.out) (by omega)).mono ?_
      rw [← HQ3.out]
      rintro e w2 ⟨rfl, hb⟩
      have B2 : Hid (Below w.heap.size w w2) := B1.out.trans (hb.mono B1.out.size)
      have V2 := Lib.hid (V1.out.below hb)
      clear hb
      cases q3 with
      | false =>
        go_wp2_with fail
        go_ret
        exact ⟨ret_bool (by rw [HR.out]; rfl), B2.out⟩
      | true =>
        have k1 := V2.out.cell (j := 3) rfl
        go_wp2_with fail
        clear k1
        refine (specSetOk_any a3 n3 c3 outs _ (R3.out.below B2.out) (by omega)).mono ?_
        rw [← HQ4.out]
        rintro e w3 ⟨rfl, hb⟩
        have B3 : Hid (Below w.heap.size w w3) := B2.out.trans (hb.mono B2.out.size)
        have V3 := Lib.hid (V2.out.below hb)
        clear hb
        cases q4 with
        | false =>
          go_wp2_with fail
          go_ret
          exact ⟨ret_bool (by rw [HR.out]; rfl), B3.out⟩
        | true =>
          have k1 := V3.out.cell (j := 4) rfl
          go_wp2_with fail
          clear k1
          refine (specSetOk_any a4 n4 c4 hids _ (R4.out.below B3.out) (by omega)).mono ?_
          rw [← HQ5.out]
          rintro e w4 ⟨rfl, hb⟩
          have B4 : Hid (Below w.heap.size w w4) := B3.out.trans (hb.mono B3.out.size)
          have V4 := Lib.hid (V3.out.below hb)
          clear hb
          cases q5 with
          | false =>
            go_wp2_with fail
            go_ret
            exact ⟨ret_bool (by rw [HR.out]; rfl), B4.out⟩
          | true =>
            have k1 := V4.out.cell (j := 5) rfl
            by_cases h4 : n5 ≤ 400
            · obtain ⟨m23, hm23⟩ : ∃ m, m = (meetOf ins outs).length := ⟨_, rfl⟩
              have l23 : m23 ≤ 1048576 := by
                have := meet_len ins outs
                have := R2.out.1
                omega
              have M23 : Hid (∀ W, Below w.heap.size w W ∧ W.cell? ⟨w.heap.size, 2, none⟩ = some (.slice a2 n2 c2) ∧ W.cell? ⟨w.heap.size, 3, none⟩ = some (.slice a3 n3 c3) ∧ W.cell? ⟨w.heap.size, 4, none⟩ = some (.slice a4 n4 c4) ∧ VarIs W w.heap.size #[.int .i64 st, .int .i64 it, .slice a2 n2 c2, .slice a3 n3 c3, .slice a4 n4 c4, .slice a5 n5 c5] 27 → Calls Tryz.prog 23 #[.slice a2 n2 c2, .slice a3 n3 c3] W fun e w' => ∃ ad c', e = .returned (.slice ad m23 c') ∧ Below w.heap.size w w' ∧ w'.cell? ⟨w.heap.size, 2, none⟩ = some (.slice a2 n2 c2) ∧ w'.cell? ⟨w.heap.size, 3, none⟩ = some (.slice a3 n3 c3) ∧ w'.cell? ⟨w.heap.size, 4, none⟩ = some (.slice a4 n4 c4) ∧ VarIs w' w.heap.size #[.int .i64 st, .int .i64 it, .slice a2 n2 c2, .slice a3 n3 c3, .slice a4 n4 c4, .slice a5 n5 c5] 27) := fun W hW =>
                (specSetMeet_any a2 a3 n2 c2 n3 c3 ins outs W (R2.out.below hW.1) (R3.out.below hW.1) (by omega) (by omega)).mono fun e w' ⟨g', c', he, _, hb'⟩ => by
                  have hv := hW.2.2.2.2.below hb'
                  exact ⟨_, c', by rw [he, hm23], hW.1.trans (hb'.mono hW.1.size), hv.cell rfl, hv.cell rfl, hv.cell rfl, hv⟩
              have HM23 := Lib.hid hm23
              clear hm23
              obtain ⟨m24, hm24⟩ : ∃ m, m = (meetOf ins hids).length := ⟨_, rfl⟩
              have l24 : m24 ≤ 1048576 := by
                have := meet_len ins hids
                have := R2.out.1
                omega
              have M24 : Hid (∀ W, Below w.heap.size w W ∧ W.cell? ⟨w.heap.size, 2, none⟩ = some (.slice a2 n2 c2) ∧ W.cell? ⟨w.heap.size, 3, none⟩ = some (.slice a3 n3 c3) ∧ W.cell? ⟨w.heap.size, 4, none⟩ = some (.slice a4 n4 c4) ∧ VarIs W w.heap.size #[.int .i64 st, .int .i64 it, .slice a2 n2 c2, .slice a3 n3 c3, .slice a4 n4 c4, .slice a5 n5 c5] 27 → Calls Tryz.prog 23 #[.slice a2 n2 c2, .slice a4 n4 c4] W fun e w' => ∃ ad c', e = .returned (.slice ad m24 c') ∧ Below w.heap.size w w' ∧ w'.cell? ⟨w.heap.size, 2, none⟩ = some (.slice a2 n2 c2) ∧ w'.cell? ⟨w.heap.size, 3, none⟩ = some (.slice a3 n3 c3) ∧ w'.cell? ⟨w.heap.size, 4, none⟩ = some (.slice a4 n4 c4) ∧ VarIs w' w.heap.size #[.int .i64 st, .int .i64 it, .slice a2 n2 c2, .slice a3 n3 c3, .slice a4 n4 c4, .slice a5 n5 c5] 27) := fun W hW =>
                (specSetMeet_any a2 a4 n2 c2 n4 c4 ins hids W (R2.out.below hW.1) (R4.out.below hW.1) (by omega) (by omega)).mono fun e w' ⟨g', c', he, _, hb'⟩ => by
                  have hv := hW.2.2.2.2.below hb'
                  exact ⟨_, c', by rw [he, hm24], hW.1.trans (hb'.mono hW.1.size), hv.cell rfl, hv.cell rfl, hv.cell rfl, hv⟩
              have HM24 := Lib.hid hm24
              clear hm24
              obtain ⟨m34, hm34⟩ : ∃ m, m = (meetOf outs hids).length := ⟨_, rfl⟩
              have l34 : m34 ≤ 1048576 := by
                have := meet_len outs hids
                have := R3.out.1
                omega
              have M34 : Hid (∀ W, Below w.heap.size w W ∧ W.cell? ⟨w.heap.size, 2, none⟩ = some (.slice a2 n2 c2) ∧ W.cell? ⟨w.heap.size, 3, none⟩ = some (.slice a3 n3 c3) ∧ W.cell? ⟨w.heap.size, 4, none⟩ = some (.slice a4 n4 c4) ∧ VarIs W w.heap.size #[.int .i64 st, .int .i64 it, .slice a2 n2 c2, .slice a3 n3 c3, .slice a4 n4 c4, .slice a5 n5 c5] 27 → Calls Tryz.prog 23 #[.slice a3 n3 c3, .slice a4 n4 c4] W fun e w' => ∃ ad c', e = .returned (.slice ad m34 c') ∧ Below w.heap.size w w' ∧ w'.cell? ⟨w.heap.size, 2, none⟩ = some (.slice a2 n2 c2) ∧ w'.cell? ⟨w.heap.size, 3, none⟩ = some (.slice a3 n3 c3) ∧ w'.cell? ⟨w.heap.size, 4, none⟩ = some (.slice a4 n4 c4) ∧ VarIs w' w.heap.size #[.int .i64 st, .int .i64 it, .slice a2 n2 c2, .slice a3 n3 c3, .slice a4 n4 c4, .slice a5 n5 c5] 27) := fun W hW =>
                (specSetMeet_any a3 a4 n3 c3 n4 c4 outs hids W (R3.out.below hW.1) (R4.out.below hW.1) (by omega) (by omega)).mono fun e w' ⟨g', c', he, _, hb'⟩ => by
                  have hv := hW.2.2.2.2.below hb'
                  exact ⟨_, c', by rw [he, hm34], hW.1.trans (hb'.mono hW.1.size), hv.cell rfl, hv.cell rfl, hv.cell rfl, hv⟩
              have HM34 := Lib.hid hm34
              clear hm34
              have S0 : Below w.heap.size w w4.drew ∧ w4.drew.cell? ⟨w.heap.size, 2, none⟩ = some (.slice a2 n2 c2) ∧ w4.drew.cell? ⟨w.heap.size, 3, none⟩ = some (.slice a3 n3 c3) ∧ w4.drew.cell? ⟨w.heap.size, 4, none⟩ = some (.slice a4 n4 c4) ∧ VarIs w4.drew w.heap.size #[.int .i64 st, .int .i64 it, .slice a2 n2 c2, .slice a3 n3 c3, .slice a4 n4 c4, .slice a5 n5 c5] 27 := ⟨B4.out.drew, V4.out.cell rfl, V4.out.cell rfl, V4.out.cell rfl, V4.out⟩
              go_wp2_with fail
              go_region_held3 (fun w' => Below w.heap.size w w' ∧ w'.cell? ⟨w.heap.size, 2, none⟩ = some (.slice a2 n2 c2) ∧ w'.cell? ⟨w.heap.size, 3, none⟩ = some (.slice a3 n3 c3) ∧ w'.cell? ⟨w.heap.size, 4, none⟩ = some (.slice a4 n4 c4) ∧ VarIs w' w.heap.size #[.int .i64 st, .int .i64 it, .slice a2 n2 c2, .slice a3 n3 c3, .slice a4 n4 c4, .slice a5 n5 c5] 27)
                (first | exact hS3 | exact hS2 | exact hS1 | exact S0)
                ((go_at_call 23; first | (refine (M34.out _ hS2).mono ?_; rintro e w' ⟨ad, c', rfl, hS3⟩) | (refine (M24.out _ hS1).mono ?_; rintro e w' ⟨ad, c', rfl, hS2⟩) | (refine (M23.out _ S0).mono ?_; rintro e w' ⟨ad, c', rfl, hS1⟩)))
              have B5 := Lib.hid hS3.1
              have V5 := Lib.hid hS3.2.2.2.2
              clear S0 hS1 hS2 hS3 M23 M24 M34
              have HAP : Hid (apartB ⟨st, it, ins, outs, hids, steps⟩ = decide (m23 + m24 + m34 = 0)) := by
                unfold Hid apartB
                rw [HM23.out, HM24.out, HM34.out]
              clear HM23 HM24 HM34
              by_cases hz : m23 + m24 + m34 = 0
              · obtain rfl : m23 = 0 := by omega
                obtain rfl : m24 = 0 := by omega
                obtain rfl : m34 = 0 := by omega
                go_wp2_with fail
                have HR2 : Hid (r = stepsB ⟨st, it, ins, outs, hids, steps⟩ steps) := by
                  unfold Hid
                  rw [HR.out, HAP.out, decide_eq_true h4]
                  simp
                have S2 := Lib.hid s2
                have S1 := Lib.hid s1
                clear HR HAP V0 V1 V2 V3 V4 B0 B1 B2 B3 B4 C1 k1
                go_loopw [3] (fun i wr => ∃ k : Nat, k ≤ n5 ∧ i = .int .i64 k ∧ Hid (stepsB ⟨st, it, ins, outs, hids, steps⟩ (steps.take k) = true) ∧ Below w.heap.size w wr ∧ Hid (VarIs wr w.heap.size #[.int .i64 st, .int .i64 it, .slice a2 n2 c2, .slice a3 n3 c3, .slice a4 n4 c4, .slice a5 n5 c5] 27)) (fun i _ => n5 - (intOf i).toNat)
                case atStart => exact ⟨0, Nat.zero_le _, rfl, by simp [Hid, stepsB], B5.out, V5.out⟩
                case round =>
                  obtain ⟨k, hk, rfl, HT, hnx, HV⟩ := hrel
                  have kb := HV.out.cell (j := 5) rfl
                  by_cases hlt : k < n5
                  · obtain ⟨b, off, rfl, hb, hcell⟩ := R5.out.2 (by omega)
                    have hkx : k < steps.length := by rw [HL5.out]; exact hlt
                    obtain ⟨⟨x, y, z⟩, hs⟩ : ∃ t, t = steps[k] := ⟨_, rfl⟩
                    obtain ⟨d0, d1, d2⟩ := hcell k steps[k] (List.getElem?_eq_getElem hkx)
                    rw [← hs] at d0 d1 d2
                    have HRG : Hid (wr.rangeAt b (off + k * 3) [.int .i64 x, .int .i64 y, .int .i64 z]) := rangeAt_step (s := (x, y, z)) ((hnx.cell (p := ⟨b, off + k * 3, none⟩) hb).trans d0) ((hnx.cell (p := ⟨b, off + k * 3 + 1, none⟩) hb).trans d1) ((hnx.cell (p := ⟨b, off + k * 3 + 2, none⟩) hb).trans d2)
                    have HS := Lib.hid hs
                    have HCL : Hid (∀ j s, steps[j]? = some s → w.cell? ⟨b, off + j * 3, none⟩ = some (.int .i64 s.1) ∧ w.cell? ⟨b, off + j * 3 + 1, none⟩ = some (.int .i64 s.2.1) ∧ w.cell? ⟨b, off + j * 3 + 2, none⟩ = some (.int .i64 s.2.2)) := hcell
                    have HVA := Lib.hid (HV.out.alloc (.cells #[.int .i64 x, .int .i64 y, .int .i64 z] 47))
                    have HVR := Lib.hid HVA.out.range
                    have HX := Lib.hid (VarIs.new wr #[.int .i64 x, .int .i64 y, .int .i64 z] 47 rfl)
                    have BX := Lib.hid (hnx.alloc hnx.size (.cells #[.int .i64 x, .int .i64 y, .int .i64 z] 47))
                    have HBAD : Hid (goodStepB ⟨st, it, ins, outs, hids, steps⟩ (x, y, z) = false → r = false) := fun h => by
                      rw [HR2.out]
                      exact stepsB_bad _ _ k hkx (by rw [← HS.out]; exact h)
                    obtain ⟨p1, hp1⟩ : ∃ q, q = btw x 0 (st - 1) := ⟨_, rfl⟩
                    obtain ⟨p2, hp2⟩ : ∃ q, q = btw z 0 (st - 1) := ⟨_, rfl⟩
                    obtain ⟨p3, hp3⟩ : ∃ q, q = hasB ins y := ⟨_, rfl⟩
                    obtain ⟨p4, hp4⟩ : ∃ q, q = hasB outs y := ⟨_, rfl⟩
                    obtain ⟨p5, hp5⟩ : ∃ q, q = hasB hids y := ⟨_, rfl⟩
                    have HP3 := Lib.hid hp3.symm
                    have HG0 : Hid (goodStepB ⟨st, it, ins, outs, hids, steps⟩ (x, y, z) = (p1 && p2 && (p3 || p4 || p5))) := by
                      unfold Hid
                      rw [hp1, hp2, hp3, hp4, hp5]
                      rfl
                    have D1 : Hid (∀ W v2 v3 v4 v5, Calls Tryz.prog 21 #[.agg #[.int .i64 st, .int .i64 it, v2, v3, v4, v5], .int .i64 x] W fun e w' => e = .returned (.bool p1) ∧ Below W.heap.size W w') := fun W v2 v3 v4 v5 => by rw [hp1]; exact state_any st it x v2 v3 v4 v5 W S1.out S2.out
                    have D2 : Hid (∀ W v2 v3 v4 v5, Calls Tryz.prog 21 #[.agg #[.int .i64 st, .int .i64 it, v2, v3, v4, v5], .int .i64 z] W fun e w' => e = .returned (.bool p2) ∧ Below W.heap.size W w') := fun W v2 v3 v4 v5 => by rw [hp2]; exact state_any st it z v2 v3 v4 v5 W S1.out S2.out
                    have C3 : Hid (∀ W, Below w.heap.size w W → Calls Tryz.prog 24 #[.slice a2 n2 c2, .int .i64 y] W fun e w' => e = .returned (.bool p3) ∧ W = w') := fun W hW => by rw [hp3]; exact (specSetHas_any a2 n2 c2 y ins W (R2.out.below hW) (by omega)).mono fun _ _ h => ⟨h.1, h.2.symm⟩
                    have C4 : Hid (∀ W, Below w.heap.size w W → Calls Tryz.prog 24 #[.slice a3 n3 c3, .int .i64 y] W fun e w' => e = .returned (.bool p4) ∧ W = w') := fun W hW => by rw [hp4]; exact (specSetHas_any a3 n3 c3 y outs W (R3.out.below hW) (by omega)).mono fun _ _ h => ⟨h.1, h.2.symm⟩
                    have C5 : Hid (∀ W, Below w.heap.size w W → Calls Tryz.prog 24 #[.slice a4 n4 c4, .int .i64 y] W fun e w' => e = .returned (.bool p5) ∧ W = w') := fun W hW => by rw [hp5]; exact (specSetHas_any a4 n4 c4 y hids W (R4.out.below hW) (by omega)).mono fun _ _ h => ⟨h.1, h.2.symm⟩
                    clear d0 d1 d2 hs hcell hp1 hp2 hp3 hp4 hp5
                    go_wp2_with (first | refine wpList_load_mid rfl _ _ rfl b (off + k * 3) rfl [.int .i64 x, .int .i64 y, .int .i64 z] _ HRG.out Tryz.underlying47 rfl (by kernel_rfl) ?_ | refine wpList_load_mid rfl _ _ rfl w.heap.size 0 rfl _ _ HVR.out Tryz.underlying27 rfl (by kernel_rfl) ?_)
                    refine (D1.out _ _ _ _ _).mono ?_
                    rintro e w6 ⟨rfl, hb6⟩
                    have HV6 := Lib.hid (HVA.out.below hb6)
                    have HX6 := Lib.hid (HX.out.below hb6)
                    have HVR6 := Lib.hid HV6.out.range
                    have B6 : Hid (Below w.heap.size w w6) := BX.out.trans (hb6.mono BX.out.size)
                    clear hb6 HVA HVR HX BX HRG kb
                    cases p1 with
                    | false =>
                      go_wp2_with fail
                      go_ret
                      exact ⟨ret_bool (HBAD.out (by rw [HG0.out]; rfl)).symm, B6.out⟩
                    | true =>
                      have i2 := HX6.out.cell (j := 2) rfl
                      have m0 := HV6.out.cell (j := 0) rfl
                      have m1 := HV6.out.cell (j := 1) rfl
                      have m2 := HV6.out.cell (j := 2) rfl
                      have m3 := HV6.out.cell (j := 3) rfl
                      have m4 := HV6.out.cell (j := 4) rfl
                      have m5 := HV6.out.cell (j := 5) rfl
                      go_wp2_with fail
                      clear m0 m1 m2 m3 m4 m5
                      refine (D2.out _ _ _ _ _).mono ?_
                      rintro e w7 ⟨rfl, hb7⟩
                      have HV7 := Lib.hid (HV6.out.below hb7)
                      have HX7 := Lib.hid (HX6.out.below hb7)
                      have B7 : Hid (Below w.heap.size w w7) := B6.out.trans (hb7.mono B6.out.size)
                      clear hb7 i2 HV6 HX6 HVR6 B6 D1 D2
                      cases p2 with
                      | false =>
                        go_wp2_with fail
                        go_ret
                        exact ⟨ret_bool (HBAD.out (by rw [HG0.out]; rfl)).symm, B7.out⟩
                      | true =>
                        have i1 := HX7.out.cell (j := 1) rfl
                        have m2 := HV7.out.cell (j := 2) rfl
                        have m3 := HV7.out.cell (j := 3) rfl
                        have m4 := HV7.out.cell (j := 4) rfl
                        go_wp2_with fail
                        refine (C3.out _ B7.out).mono ?_
                        rintro e w9 ⟨rfl, rfl⟩
                        cases p3 with
                        | true =>
                          have HG : Hid (goodStepB ⟨st, it, ins, outs, hids, steps⟩ (x, y, z) = true) := HG0.out
                          clear HG0 HBAD
                          by_cases h0 : 0 < k
                          · obtain ⟨⟨x', y', z'⟩, hs'⟩ : ∃ t, t = steps[k - 1]'(by omega) := ⟨_, rfl⟩
                            obtain ⟨d0, d1, d2⟩ := HCL.out (k - 1) (steps[k - 1]'(by omega)) (List.getElem?_eq_getElem (by omega))
                            rw [← hs'] at d0 d1 d2
                            have HGP : Hid (goodStepB ⟨st, it, ins, outs, hids, steps⟩ (x', y', z') = true) := by
                              unfold Hid
                              rw [hs']
                              exact stepsB_good _ _ HT.out _ (List.mem_iff_getElem.2 ⟨k - 1, by simp; omega, by simp⟩)
                            have HN : Hid (stepsB ⟨st, it, ins, outs, hids, steps⟩ (steps.take (k + 1)) = nextB ⟨st, it, ins, outs, hids, steps⟩ (x', y', z') (x, y, z)) := by
                              unfold Hid
                              rw [stepsB_at _ _ k h0 hkx, HT.out, ← HS.out, ← hs', HG.out, Bool.true_and, Bool.and_true]
                            have HNF : Hid (nextB ⟨st, it, ins, outs, hids, steps⟩ (x', y', z') (x, y, z) = false → r = false) := fun h => by
                              rw [HR2.out]
                              exact stepsB_off _ _ k h0 hkx (by rw [← HS.out, ← hs']; exact h)
                            have BP := good_small (a := ⟨st, it, ins, outs, hids, steps⟩) (x := (x', y', z')) S1.out S2.out HQ3.out.symm HQ4.out.symm HQ5.out.symm HGP.out
                            have BC := good_small (a := ⟨st, it, ins, outs, hids, steps⟩) (x := (x, y, z)) S1.out S2.out HQ3.out.symm HQ4.out.symm HQ5.out.symm HG.out
                            simp only at BP BC
                            have CC : Hid (∀ W, Calls Tryz.prog 25 #[.agg #[.int .i64 x', .int .i64 y', .int .i64 z'], .agg #[.int .i64 x, .int .i64 y, .int .i64 z]] W fun e w' => e = .returned (.int .i64 (cmpOf (x', y', z') (x, y, z))) ∧ Below W.heap.size W w') := fun W => cmp_any x' y' z' x y z W BP.1 BP.2.1 BP.2.2 BC.1 BC.2.1 BC.2.2
                            have HVB := Lib.hid (HV7.out.alloc (.cells #[.int .i64 x', .int .i64 y', .int .i64 z'] 47))
                            have HXB := Lib.hid (HX7.out.alloc (.cells #[.int .i64 x', .int .i64 y', .int .i64 z'] 47))
                            have HYB := Lib.hid (VarIs.new w7 #[.int .i64 x', .int .i64 y', .int .i64 z'] 47 rfl)
                            have BB := Lib.hid (B7.out.alloc B7.out.size (.cells #[.int .i64 x', .int .i64 y', .int .i64 z'] 47))
                            have kc := HV7.out.cell (j := 5) rfl
                            have g0 := (B7.out.cell (p := ⟨b, off + (k - 1) * 3, none⟩) hb).trans d0
                            have g1 := (B7.out.cell (p := ⟨b, off + (k - 1) * 3 + 1, none⟩) hb).trans d1
                            have g2 := (B7.out.cell (p := ⟨b, off + (k - 1) * 3 + 2, none⟩) hb).trans d2
                            simp only at g0 g1 g2
                            have x0 := HXB.out.cell (j := 0) rfl
                            have x1 := HXB.out.cell (j := 1) rfl
                            have x2 := HXB.out.cell (j := 2) rfl
                            have y0 := HYB.out.cell (j := 0) rfl
                            have y1 := HYB.out.cell (j := 1) rfl
                            have y2 := HYB.out.cell (j := 2) rfl
                            clear d0 d1 d2 hs' BP BC
                            go_wp2_with fail
                            clear g0 g1 g2 x0 x1 x2 y0 y1 y2
                            refine (CC.out _).mono ?_
                            rintro e w8 ⟨rfl, hb8⟩
                            have HV8 := Lib.hid (HVB.out.below hb8)
                            have HX8 := Lib.hid (HXB.out.below hb8)
                            have HY8 := Lib.hid (HYB.out.below hb8)
                            have B8 : Hid (Below w.heap.size w w8) := BB.out.trans (hb8.mono BB.out.size)
                            clear hb8 kc HVB HXB HYB BB CC
                            obtain ⟨cm, hcm⟩ : ∃ c, c = cmpOf (x', y', z') (x, y, z) := ⟨_, rfl⟩
                            rw [← hcm]
                            have HCM := Lib.hid hcm
                            clear hcm
                            by_cases hc0 : cm < 0
                            · have hcd : decide ((0 : Int) ≤ cm) = false := by simp; omega
                              have i0 := HX8.out.cell (j := 0) rfl
                              have i1 := HX8.out.cell (j := 1) rfl
                              have j0 := HY8.out.cell (j := 0) rfl
                              have j1 := HY8.out.cell (j := 1) rfl
                              have m2 := HV8.out.cell (j := 2) rfl
                              by_cases e1 : x' = x
                              · have f1 : (x' == x) = true := by simp [e1]
                                by_cases e2 : y' = y
                                · have f2 : (y' == y) = true := by simp [e2]
                                  have HN2 : Hid (nextB ⟨st, it, ins, outs, hids, steps⟩ (x', y', z') (x, y, z) = !true) := by
                                    unfold Hid nextB
                                    simp only [← HCM.out, decide_eq_true hc0, decide_eq_true e1, decide_eq_true e2, HP3.out, Bool.true_and]
                                  have E1 := Lib.hid e1
                                  have E2 := Lib.hid e2
                                  clear e1 e2
                                  go_wp2_with fail
                                  refine (C3.out _ B8.out).mono ?_
                                  rintro e w9 ⟨rfl, rfl⟩
                                  go_wp2_with fail
                                  go_ret
                                  exact ⟨ret_bool (HNF.out HN2.out).symm, B8.out⟩

                                · have f2 : (y' == y) = false := by simp [e2]
                                  have HN2 : Hid (nextB ⟨st, it, ins, outs, hids, steps⟩ (x', y', z') (x, y, z) = true) := by
                                    unfold Hid nextB
                                    simp only [← HCM.out, decide_eq_true hc0, decide_eq_true e1, decide_eq_false e2, Bool.true_and, Bool.false_and, Bool.not_false]
                                  have E1 := Lib.hid e1
                                  have E2 := Lib.hid e2
                                  clear e1 e2
                                  go_wp2_with fail
                                  go_roundw
                                  case rel => (repeat apply Exists.intro); exact ⟨⟨k + 1, by omega, by go_num, HN.out.trans HN2.out, B8.out, HV8.out⟩, rfl⟩
                                  case measure => simp [intOf]; omega
                              · have f1 : (x' == x) = false := by simp [e1]
                                have HN2 : Hid (nextB ⟨st, it, ins, outs, hids, steps⟩ (x', y', z') (x, y, z) = true) := by
                                  unfold Hid nextB
                                  simp only [← HCM.out, decide_eq_true hc0, decide_eq_false e1, Bool.true_and, Bool.false_and, Bool.not_false]
                                have E1 := Lib.hid e1
                                clear e1
                                go_wp2_with fail
                                go_roundw
                                case rel => (repeat apply Exists.intro); exact ⟨⟨k + 1, by omega, by go_num, HN.out.trans HN2.out, B8.out, HV8.out⟩, rfl⟩
                                case measure => simp [intOf]; omega
                            · have hcd : decide ((0 : Int) ≤ cm) = true := by simp; omega
                              have HN2 : Hid (nextB ⟨st, it, ins, outs, hids, steps⟩ (x', y', z') (x, y, z) = false) := by
                                unfold Hid nextB
                                simp only [← HCM.out, decide_eq_false hc0, Bool.false_and]
                              go_wp2_with fail
                              go_ret
                              exact ⟨ret_bool (HNF.out HN2.out).symm, B8.out⟩
                          · have hd : decide ((0 : Int) < (k : Int)) = false := by simp; omega
                            have hd2 : decide (0 < k) = false := by simp; omega
                            have HZ : Hid (stepsB ⟨st, it, ins, outs, hids, steps⟩ (steps.take (k + 1)) = true) := by
                              unfold Hid
                              rw [stepsB_zero _ _ k h0 hkx, ← HS.out]
                              exact HG.out
                            clear h0
                            go_wp2_with fail
                            go_roundw
                            case rel => (repeat apply Exists.intro); exact ⟨⟨k + 1, by omega, by go_num, HZ.out, B7.out, HV7.out⟩, rfl⟩
                            case measure => simp [intOf]; omega
                        | false =>
                          go_wp2_with fail
                          refine (C4.out _ B7.out).mono ?_
                          rintro e w9 ⟨rfl, rfl⟩
                          cases p4 with
                          | true =>
                            have HG : Hid (goodStepB ⟨st, it, ins, outs, hids, steps⟩ (x, y, z) = true) := HG0.out
                            clear HG0 HBAD
                            by_cases h0 : 0 < k
                            · obtain ⟨⟨x', y', z'⟩, hs'⟩ : ∃ t, t = steps[k - 1]'(by omega) := ⟨_, rfl⟩
                              obtain ⟨d0, d1, d2⟩ := HCL.out (k - 1) (steps[k - 1]'(by omega)) (List.getElem?_eq_getElem (by omega))
                              rw [← hs'] at d0 d1 d2
                              have HGP : Hid (goodStepB ⟨st, it, ins, outs, hids, steps⟩ (x', y', z') = true) := by
                                unfold Hid
                                rw [hs']
                                exact stepsB_good _ _ HT.out _ (List.mem_iff_getElem.2 ⟨k - 1, by simp; omega, by simp⟩)
                              have HN : Hid (stepsB ⟨st, it, ins, outs, hids, steps⟩ (steps.take (k + 1)) = nextB ⟨st, it, ins, outs, hids, steps⟩ (x', y', z') (x, y, z)) := by
                                unfold Hid
                                rw [stepsB_at _ _ k h0 hkx, HT.out, ← HS.out, ← hs', HG.out, Bool.true_and, Bool.and_true]
                              have HNF : Hid (nextB ⟨st, it, ins, outs, hids, steps⟩ (x', y', z') (x, y, z) = false → r = false) := fun h => by
                                rw [HR2.out]
                                exact stepsB_off _ _ k h0 hkx (by rw [← HS.out, ← hs']; exact h)
                              have BP := good_small (a := ⟨st, it, ins, outs, hids, steps⟩) (x := (x', y', z')) S1.out S2.out HQ3.out.symm HQ4.out.symm HQ5.out.symm HGP.out
                              have BC := good_small (a := ⟨st, it, ins, outs, hids, steps⟩) (x := (x, y, z)) S1.out S2.out HQ3.out.symm HQ4.out.symm HQ5.out.symm HG.out
                              simp only at BP BC
                              have CC : Hid (∀ W, Calls Tryz.prog 25 #[.agg #[.int .i64 x', .int .i64 y', .int .i64 z'], .agg #[.int .i64 x, .int .i64 y, .int .i64 z]] W fun e w' => e = .returned (.int .i64 (cmpOf (x', y', z') (x, y, z))) ∧ Below W.heap.size W w') := fun W => cmp_any x' y' z' x y z W BP.1 BP.2.1 BP.2.2 BC.1 BC.2.1 BC.2.2
                              have HVB := Lib.hid (HV7.out.alloc (.cells #[.int .i64 x', .int .i64 y', .int .i64 z'] 47))
                              have HXB := Lib.hid (HX7.out.alloc (.cells #[.int .i64 x', .int .i64 y', .int .i64 z'] 47))
                              have HYB := Lib.hid (VarIs.new w7 #[.int .i64 x', .int .i64 y', .int .i64 z'] 47 rfl)
                              have BB := Lib.hid (B7.out.alloc B7.out.size (.cells #[.int .i64 x', .int .i64 y', .int .i64 z'] 47))
                              have kc := HV7.out.cell (j := 5) rfl
                              have g0 := (B7.out.cell (p := ⟨b, off + (k - 1) * 3, none⟩) hb).trans d0
                              have g1 := (B7.out.cell (p := ⟨b, off + (k - 1) * 3 + 1, none⟩) hb).trans d1
                              have g2 := (B7.out.cell (p := ⟨b, off + (k - 1) * 3 + 2, none⟩) hb).trans d2
                              simp only at g0 g1 g2
                              have x0 := HXB.out.cell (j := 0) rfl
                              have x1 := HXB.out.cell (j := 1) rfl
                              have x2 := HXB.out.cell (j := 2) rfl
                              have y0 := HYB.out.cell (j := 0) rfl
                              have y1 := HYB.out.cell (j := 1) rfl
                              have y2 := HYB.out.cell (j := 2) rfl
                              clear d0 d1 d2 hs' BP BC
                              go_wp2_with fail
                              clear g0 g1 g2 x0 x1 x2 y0 y1 y2
                              refine (CC.out _).mono ?_
                              rintro e w8 ⟨rfl, hb8⟩
                              have HV8 := Lib.hid (HVB.out.below hb8)
                              have HX8 := Lib.hid (HXB.out.below hb8)
                              have HY8 := Lib.hid (HYB.out.below hb8)
                              have B8 : Hid (Below w.heap.size w w8) := BB.out.trans (hb8.mono BB.out.size)
                              clear hb8 kc HVB HXB HYB BB CC
                              obtain ⟨cm, hcm⟩ : ∃ c, c = cmpOf (x', y', z') (x, y, z) := ⟨_, rfl⟩
                              rw [← hcm]
                              have HCM := Lib.hid hcm
                              clear hcm
                              by_cases hc0 : cm < 0
                              · have hcd : decide ((0 : Int) ≤ cm) = false := by simp; omega
                                have i0 := HX8.out.cell (j := 0) rfl
                                have i1 := HX8.out.cell (j := 1) rfl
                                have j0 := HY8.out.cell (j := 0) rfl
                                have j1 := HY8.out.cell (j := 1) rfl
                                have m2 := HV8.out.cell (j := 2) rfl
                                by_cases e1 : x' = x
                                · have f1 : (x' == x) = true := by simp [e1]
                                  by_cases e2 : y' = y
                                  · have f2 : (y' == y) = true := by simp [e2]
                                    have HN2 : Hid (nextB ⟨st, it, ins, outs, hids, steps⟩ (x', y', z') (x, y, z) = !false) := by
                                      unfold Hid nextB
                                      simp only [← HCM.out, decide_eq_true hc0, decide_eq_true e1, decide_eq_true e2, HP3.out, Bool.true_and]
                                    have E1 := Lib.hid e1
                                    have E2 := Lib.hid e2
                                    clear e1 e2
                                    go_wp2_with fail
                                    refine (C3.out _ B8.out).mono ?_
                                    rintro e w9 ⟨rfl, rfl⟩
                                    go_wp2_with fail
                                    go_roundw
                                    case rel => (repeat apply Exists.intro); exact ⟨⟨k + 1, by omega, by go_num, HN.out.trans HN2.out, B8.out, HV8.out⟩, rfl⟩
                                    case measure => simp [intOf]; omega
                                  · have f2 : (y' == y) = false := by simp [e2]
                                    have HN2 : Hid (nextB ⟨st, it, ins, outs, hids, steps⟩ (x', y', z') (x, y, z) = true) := by
                                      unfold Hid nextB
                                      simp only [← HCM.out, decide_eq_true hc0, decide_eq_true e1, decide_eq_false e2, Bool.true_and, Bool.false_and, Bool.not_false]
                                    have E1 := Lib.hid e1
                                    have E2 := Lib.hid e2
                                    clear e1 e2
                                    go_wp2_with fail
                                    go_roundw
                                    case rel => (repeat apply Exists.intro); exact ⟨⟨k + 1, by omega, by go_num, HN.out.trans HN2.out, B8.out, HV8.out⟩, rfl⟩
                                    case measure => simp [intOf]; omega
                                · have f1 : (x' == x) = false := by simp [e1]
                                  have HN2 : Hid (nextB ⟨st, it, ins, outs, hids, steps⟩ (x', y', z') (x, y, z) = true) := by
                                    unfold Hid nextB
                                    simp only [← HCM.out, decide_eq_true hc0, decide_eq_false e1, Bool.true_and, Bool.false_and, Bool.not_false]
                                  have E1 := Lib.hid e1
                                  clear e1
                                  go_wp2_with fail
                                  go_roundw
                                  case rel => (repeat apply Exists.intro); exact ⟨⟨k + 1, by omega, by go_num, HN.out.trans HN2.out, B8.out, HV8.out⟩, rfl⟩
                                  case measure => simp [intOf]; omega
                              · have hcd : decide ((0 : Int) ≤ cm) = true := by simp; omega
                                have HN2 : Hid (nextB ⟨st, it, ins, outs, hids, steps⟩ (x', y', z') (x, y, z) = false) := by
                                  unfold Hid nextB
                                  simp only [← HCM.out, decide_eq_false hc0, Bool.false_and]
                                go_wp2_with fail
                                go_ret
                                exact ⟨ret_bool (HNF.out HN2.out).symm, B8.out⟩
                            · have hd : decide ((0 : Int) < (k : Int)) = false := by simp; omega
                              have hd2 : decide (0 < k) = false := by simp; omega
                              have HZ : Hid (stepsB ⟨st, it, ins, outs, hids, steps⟩ (steps.take (k + 1)) = true) := by
                                unfold Hid
                                rw [stepsB_zero _ _ k h0 hkx, ← HS.out]
                                exact HG.out
                              clear h0
                              go_wp2_with fail
                              go_roundw
                              case rel => (repeat apply Exists.intro); exact ⟨⟨k + 1, by omega, by go_num, HZ.out, B7.out, HV7.out⟩, rfl⟩
                              case measure => simp [intOf]; omega
                          | false =>
                            go_wp2_with fail
                            refine (C5.out _ B7.out).mono ?_
                            rintro e w9 ⟨rfl, rfl⟩
                            cases p5 with
                            | true =>
                              have HG : Hid (goodStepB ⟨st, it, ins, outs, hids, steps⟩ (x, y, z) = true) := HG0.out
                              clear HG0 HBAD
                              by_cases h0 : 0 < k
                              · obtain ⟨⟨x', y', z'⟩, hs'⟩ : ∃ t, t = steps[k - 1]'(by omega) := ⟨_, rfl⟩
                                obtain ⟨d0, d1, d2⟩ := HCL.out (k - 1) (steps[k - 1]'(by omega)) (List.getElem?_eq_getElem (by omega))
                                rw [← hs'] at d0 d1 d2
                                have HGP : Hid (goodStepB ⟨st, it, ins, outs, hids, steps⟩ (x', y', z') = true) := by
                                  unfold Hid
                                  rw [hs']
                                  exact stepsB_good _ _ HT.out _ (List.mem_iff_getElem.2 ⟨k - 1, by simp; omega, by simp⟩)
                                have HN : Hid (stepsB ⟨st, it, ins, outs, hids, steps⟩ (steps.take (k + 1)) = nextB ⟨st, it, ins, outs, hids, steps⟩ (x', y', z') (x, y, z)) := by
                                  unfold Hid
                                  rw [stepsB_at _ _ k h0 hkx, HT.out, ← HS.out, ← hs', HG.out, Bool.true_and, Bool.and_true]
                                have HNF : Hid (nextB ⟨st, it, ins, outs, hids, steps⟩ (x', y', z') (x, y, z) = false → r = false) := fun h => by
                                  rw [HR2.out]
                                  exact stepsB_off _ _ k h0 hkx (by rw [← HS.out, ← hs']; exact h)
                                have BP := good_small (a := ⟨st, it, ins, outs, hids, steps⟩) (x := (x', y', z')) S1.out S2.out HQ3.out.symm HQ4.out.symm HQ5.out.symm HGP.out
                                have BC := good_small (a := ⟨st, it, ins, outs, hids, steps⟩) (x := (x, y, z)) S1.out S2.out HQ3.out.symm HQ4.out.symm HQ5.out.symm HG.out
                                simp only at BP BC
                                have CC : Hid (∀ W, Calls Tryz.prog 25 #[.agg #[.int .i64 x', .int .i64 y', .int .i64 z'], .agg #[.int .i64 x, .int .i64 y, .int .i64 z]] W fun e w' => e = .returned (.int .i64 (cmpOf (x', y', z') (x, y, z))) ∧ Below W.heap.size W w') := fun W => cmp_any x' y' z' x y z W BP.1 BP.2.1 BP.2.2 BC.1 BC.2.1 BC.2.2
                                have HVB := Lib.hid (HV7.out.alloc (.cells #[.int .i64 x', .int .i64 y', .int .i64 z'] 47))
                                have HXB := Lib.hid (HX7.out.alloc (.cells #[.int .i64 x', .int .i64 y', .int .i64 z'] 47))
                                have HYB := Lib.hid (VarIs.new w7 #[.int .i64 x', .int .i64 y', .int .i64 z'] 47 rfl)
                                have BB := Lib.hid (B7.out.alloc B7.out.size (.cells #[.int .i64 x', .int .i64 y', .int .i64 z'] 47))
                                have kc := HV7.out.cell (j := 5) rfl
                                have g0 := (B7.out.cell (p := ⟨b, off + (k - 1) * 3, none⟩) hb).trans d0
                                have g1 := (B7.out.cell (p := ⟨b, off + (k - 1) * 3 + 1, none⟩) hb).trans d1
                                have g2 := (B7.out.cell (p := ⟨b, off + (k - 1) * 3 + 2, none⟩) hb).trans d2
                                simp only at g0 g1 g2
                                have x0 := HXB.out.cell (j := 0) rfl
                                have x1 := HXB.out.cell (j := 1) rfl
                                have x2 := HXB.out.cell (j := 2) rfl
                                have y0 := HYB.out.cell (j := 0) rfl
                                have y1 := HYB.out.cell (j := 1) rfl
                                have y2 := HYB.out.cell (j := 2) rfl
                                clear d0 d1 d2 hs' BP BC
                                go_wp2_with fail
                                clear g0 g1 g2 x0 x1 x2 y0 y1 y2
                                refine (CC.out _).mono ?_
                                rintro e w8 ⟨rfl, hb8⟩
                                have HV8 := Lib.hid (HVB.out.below hb8)
                                have HX8 := Lib.hid (HXB.out.below hb8)
                                have HY8 := Lib.hid (HYB.out.below hb8)
                                have B8 : Hid (Below w.heap.size w w8) := BB.out.trans (hb8.mono BB.out.size)
                                clear hb8 kc HVB HXB HYB BB CC
                                obtain ⟨cm, hcm⟩ : ∃ c, c = cmpOf (x', y', z') (x, y, z) := ⟨_, rfl⟩
                                rw [← hcm]
                                have HCM := Lib.hid hcm
                                clear hcm
                                by_cases hc0 : cm < 0
                                · have hcd : decide ((0 : Int) ≤ cm) = false := by simp; omega
                                  have i0 := HX8.out.cell (j := 0) rfl
                                  have i1 := HX8.out.cell (j := 1) rfl
                                  have j0 := HY8.out.cell (j := 0) rfl
                                  have j1 := HY8.out.cell (j := 1) rfl
                                  have m2 := HV8.out.cell (j := 2) rfl
                                  by_cases e1 : x' = x
                                  · have f1 : (x' == x) = true := by simp [e1]
                                    by_cases e2 : y' = y
                                    · have f2 : (y' == y) = true := by simp [e2]
                                      have HN2 : Hid (nextB ⟨st, it, ins, outs, hids, steps⟩ (x', y', z') (x, y, z) = !false) := by
                                        unfold Hid nextB
                                        simp only [← HCM.out, decide_eq_true hc0, decide_eq_true e1, decide_eq_true e2, HP3.out, Bool.true_and]
                                      have E1 := Lib.hid e1
                                      have E2 := Lib.hid e2
                                      clear e1 e2
                                      go_wp2_with fail
                                      refine (C3.out _ B8.out).mono ?_
                                      rintro e w9 ⟨rfl, rfl⟩
                                      go_wp2_with fail
                                      go_roundw
                                      case rel => (repeat apply Exists.intro); exact ⟨⟨k + 1, by omega, by go_num, HN.out.trans HN2.out, B8.out, HV8.out⟩, rfl⟩
                                      case measure => simp [intOf]; omega
                                    · have f2 : (y' == y) = false := by simp [e2]
                                      have HN2 : Hid (nextB ⟨st, it, ins, outs, hids, steps⟩ (x', y', z') (x, y, z) = true) := by
                                        unfold Hid nextB
                                        simp only [← HCM.out, decide_eq_true hc0, decide_eq_true e1, decide_eq_false e2, Bool.true_and, Bool.false_and, Bool.not_false]
                                      have E1 := Lib.hid e1
                                      have E2 := Lib.hid e2
                                      clear e1 e2
                                      go_wp2_with fail
                                      go_roundw
                                      case rel => (repeat apply Exists.intro); exact ⟨⟨k + 1, by omega, by go_num, HN.out.trans HN2.out, B8.out, HV8.out⟩, rfl⟩
                                      case measure => simp [intOf]; omega
                                  · have f1 : (x' == x) = false := by simp [e1]
                                    have HN2 : Hid (nextB ⟨st, it, ins, outs, hids, steps⟩ (x', y', z') (x, y, z) = true) := by
                                      unfold Hid nextB
                                      simp only [← HCM.out, decide_eq_true hc0, decide_eq_false e1, Bool.true_and, Bool.false_and, Bool.not_false]
                                    have E1 := Lib.hid e1
                                    clear e1
                                    go_wp2_with fail
                                    go_roundw
                                    case rel => (repeat apply Exists.intro); exact ⟨⟨k + 1, by omega, by go_num, HN.out.trans HN2.out, B8.out, HV8.out⟩, rfl⟩
                                    case measure => simp [intOf]; omega
                                · have hcd : decide ((0 : Int) ≤ cm) = true := by simp; omega
                                  have HN2 : Hid (nextB ⟨st, it, ins, outs, hids, steps⟩ (x', y', z') (x, y, z) = false) := by
                                    unfold Hid nextB
                                    simp only [← HCM.out, decide_eq_false hc0, Bool.false_and]
                                  go_wp2_with fail
                                  go_ret
                                  exact ⟨ret_bool (HNF.out HN2.out).symm, B8.out⟩
                              · have hd : decide ((0 : Int) < (k : Int)) = false := by simp; omega
                                have hd2 : decide (0 < k) = false := by simp; omega
                                have HZ : Hid (stepsB ⟨st, it, ins, outs, hids, steps⟩ (steps.take (k + 1)) = true) := by
                                  unfold Hid
                                  rw [stepsB_zero _ _ k h0 hkx, ← HS.out]
                                  exact HG.out
                                clear h0
                                go_wp2_with fail
                                go_roundw
                                case rel => (repeat apply Exists.intro); exact ⟨⟨k + 1, by omega, by go_num, HZ.out, B7.out, HV7.out⟩, rfl⟩
                                case measure => simp [intOf]; omega
                            | false =>
                              go_wp2_with fail
                              go_ret
                              exact ⟨ret_bool (HBAD.out (by rw [HG0.out]; rfl)).symm, B7.out⟩
                  · have HE : Hid (r = true) := by
                      have := HT.out
                      rw [List.take_of_length_le (by rw [HL5.out]; omega)] at this
                      rw [HR2.out]; exact this
                    go_wp2_with fail
                    go_ret
                    exact ⟨ret_bool HE.out.symm, hnx⟩
              · have hz2 : (0 : Int) < (m23 : Int) + (m24 : Int) + (m34 : Int) := by omega
                have hz3 : IntKind.i64.wrap (IntKind.i64.wrap ((m23 : Int) + (m24 : Int)) + (m34 : Int)) = (m23 : Int) + (m24 : Int) + (m34 : Int) := by rw [IntWalk.i64_in ((m23 : Int) + (m24 : Int)) (by omega), IntWalk.i64_in _ (by omega)]
                go_wp2_with fail
                go_ret
                exact ⟨ret_bool (by rw [HR.out, HAP.out, decide_eq_false hz]; simp), B5.out⟩
            · go_wp2_with fail
              go_ret
              exact ⟨ret_bool (by rw [HR.out, decide_eq_false h4]; simp), B4.out⟩

end Go.Proofs.YtfhjhfhfbgddeaaGreatDoor
