/-
  The contract of the model's Runs. Conditions: the lists have at most 2^20 elements.
-/
import Derived.Test.YtdbgjgeglgipiaaSpecHid
import Derived.Test.YtdbgjgeglgipiaaRegion
namespace Go.Proofs.Ytdbgjgeglgipiaa
open Go.RowKit

set_option maxRecDepth 20000 in
set_option maxHeartbeats 6400000 in
theorem specRuns_any (a : IaD) (v : Value) (fa : Option Addr) (fn fc : Nat) (from_ : List Int) (ta : Option Addr) (tn tc : Nat) (tr : List Int) (w : World) (h : IaRow w a v) (f2 : a.ins.length ≤ 1048576) (f3 : a.outs.length ≤ 1048576) (f4 : a.hids.length ≤ 1048576) (f5 : a.steps.length ≤ 1048576) (rf : Row w fa fn from_) (hfn : fn ≤ 1048576) (rt : Row w ta tn tr) (htn : tn ≤ 1048576) :
    Calls Try.prog 22 #[v, .slice fa fn fc, .slice ta tn tc] w (OwnRes w w.heap.size (if iaOkB a && from_.all (stateB a) then runsOf a from_ tr else [])) := by
  have CO : Hid (∀ W, Below w.heap.size w W → Calls Try.prog 19 #[v] W fun e w' => e = .returned (.bool (iaOkB a)) ∧ Below W.heap.size W w') := fun W hW => specIaOk_any a v W (h.below hW) f2 f3 f4 f5
  have CF0 : Hid (∀ W (x act : Int), Below w.heap.size w W → Calls Try.prog 39 #[v, .int .i64 x, .int .i64 act] W (OwnRes W W.heap.size (farOf a x act))) := fun W x act hW => l04After_any a v x act W (h.below hW) f2 f3 f4 f5
  obtain ⟨q, hq⟩ : ∃ q, q = iaOkB a := ⟨_, rfl⟩
  obtain ⟨L, hL⟩ : ∃ L, L = if iaOkB a && from_.all (stateB a) then runsOf a from_ tr else [] := ⟨_, rfl⟩
  rw [← hL]
  rw [← hq] at CO hL
  have HL := Lib.hid hL
  have HQ := Lib.hid hq
  have RF := Lib.hid rf
  have RT := Lib.hid rt
  clear hL hq rf rt
  obtain ⟨a2, n2, c2, a3, n3, c3, a4, n4, c4, a5, n5, c5, rfl, r2, r3, r4, r5⟩ := h
  obtain ⟨st, it, ins, outs, hids, steps⟩ := a
  simp only at r2 r3 r4 r5 f2 f3 f4 f5
  have hn4 : n4 ≤ 1048576 := by have := r4.1; omega
  have hn5 : n5 ≤ 1048576 := by have := r5.1; omega
  have R4 := Lib.hid r4
  have R5 := Lib.hid r5
  clear r2 r3 r4 r5 f2 f3 f4 f5
  have B0 : Hid (∀ o, Below w.heap.size w (w.alloc o)) := fun o => (Below.refl _ _).alloc (Nat.le_refl _) _
  have V0 := Lib.hid (VarIs.new w #[.int .i64 st, .int .i64 it, .slice a2 n2 c2, .slice a3 n3 c3, .slice a4 n4 c4, .slice a5 n5 c5] 30 rfl)
  go_enter Try.func22, Try.ntmps22
  go_wp2_with fail
  refine (CO.out _ (B0.out _)).mono ?_
  rintro e w1 ⟨rfl, hb⟩
  have B1 : Hid (Below w.heap.size w w1) := (B0.out _).trans (hb.mono (B0.out _).size)
  have V1 := Lib.hid (V0.out.below hb)
  have hs1 := B1.out.size
  clear hb V0 B0 CO
  cases q with
  | false =>
    go_wp2_with fail
    go_ret
    obtain rfl : L = [] := HL.out
    exact ⟨_, _, rfl, (owns_lit _ [] 0 rfl (by unfold maxLen; omega)).mono B1.out.size, B1.out.alloc B1.out.size _⟩
  | true =>
    have hst := iaOk_states HQ.out.symm
    simp only at hst
    have KB : Hid (∀ W, Below w1.heap.size w1 W → W.cell? ⟨w.heap.size, 0, none⟩ = some (.int .i64 st) ∧ W.cell? ⟨w.heap.size, 1, none⟩ = some (.int .i64 it) ∧ W.cell? ⟨w.heap.size, 2, none⟩ = some (.slice a2 n2 c2) ∧ W.cell? ⟨w.heap.size, 3, none⟩ = some (.slice a3 n3 c3) ∧ W.cell? ⟨w.heap.size, 4, none⟩ = some (.slice a4 n4 c4) ∧ W.cell? ⟨w.heap.size, 5, none⟩ = some (.slice a5 n5 c5)) := fun W hW => by
      have hv := V1.out.below hW
      exact ⟨hv.cell rfl, hv.cell rfl, hv.cell rfl, hv.cell rfl, hv.cell rfl, hv.cell rfl⟩
    go_wp2_with fail
    go_loopw [7] (fun iv wr => ∃ k : Nat, k ≤ fn ∧ iv = .int .i64 (k : Int) ∧ Hid (∀ x ∈ from_.take k, stateB ⟨st, it, ins, outs, hids, steps⟩ x = true) ∧ Hid (Below w1.heap.size w1 wr)) (fun iv _ => fn - (intOf iv).toNat)
    case atStart => exact ⟨0, Nat.zero_le _, rfl, fun x hx => by simp at hx, Below.refl _ _⟩
    case round =>
      obtain ⟨k, hk, rfl, HS, HB⟩ := hrel
      have BW : Hid (Below w.heap.size w wr) := B1.out.trans (HB.out.mono hs1)
      by_cases hlt : k < fn
      · obtain ⟨bf, of, rfl, hbf, hcell⟩ := RF.out.2 (by omega)
        have hkx : k < from_.length := by rw [RF.out.1]; exact hlt
        obtain ⟨x, hx⟩ : ∃ x, x = from_[k] := ⟨_, rfl⟩
        obtain ⟨p, hp⟩ : ∃ p, p = stateB ⟨st, it, ins, outs, hids, steps⟩ x := ⟨_, rfl⟩
        have HP := Lib.hid hp
        have HXM : Hid (x ∈ from_) := by unfold Hid; rw [hx]; exact List.getElem_mem hkx
        have HST2 : Hid (p = true → ∀ y ∈ from_.take (k + 1), stateB ⟨st, it, ins, outs, hids, steps⟩ y = true) := fun e y hy => by
          rw [List.take_succ_eq_append_getElem hkx, List.mem_append] at hy
          rcases hy with hy | hy
          · exact HS.out y hy
          · obtain rfl := List.mem_singleton.1 hy
            rw [← hx, ← hp]
            exact e
        have CST : Hid (∀ W v2 v3 v4 v5, Calls Try.prog 33 #[.agg #[.int .i64 st, .int .i64 it, v2, v3, v4, v5], .int .i64 x] W fun e w' => e = .returned (.bool p) ∧ Below W.heap.size W w') := fun W v2 v3 v4 v5 => by rw [hp]; exact state_any st it x v2 v3 v4 v5 W (by omega) (by omega)
        have KS : Hid (∀ W, Below wr.heap.size wr W → W.cell? ⟨w.heap.size, 0, none⟩ = some (.int .i64 st) ∧ W.cell? ⟨w.heap.size, 1, none⟩ = some (.int .i64 it) ∧ W.cell? ⟨w.heap.size, 2, none⟩ = some (.slice a2 n2 c2) ∧ W.cell? ⟨w.heap.size, 3, none⟩ = some (.slice a3 n3 c3) ∧ W.cell? ⟨w.heap.size, 4, none⟩ = some (.slice a4 n4 c4) ∧ W.cell? ⟨w.heap.size, 5, none⟩ = some (.slice a5 n5 c5) ∧ W.cell? ⟨bf, of + k, none⟩ = some (.int .i64 x)) := fun W hW => by
          obtain ⟨q0, q1, q2, q3, q4, q5⟩ := KB.out W (HB.out.trans (hW.mono HB.out.size))
          have hc : W.cell? ⟨bf, of + k, none⟩ = some (.int .i64 x) := by
            rw [(BW.out.trans (hW.mono BW.out.size)).cell (p := ⟨bf, of + k, none⟩) hbf, hcell k hlt, getD_eq from_ k hkx, hx]
          exact ⟨q0, q1, q2, q3, q4, q5, hc⟩
        have S0 : Below wr.heap.size wr wr.drew ∧ wr.drew.cell? ⟨w.heap.size, 0, none⟩ = some (.int .i64 st) ∧ wr.drew.cell? ⟨w.heap.size, 1, none⟩ = some (.int .i64 it) ∧ wr.drew.cell? ⟨w.heap.size, 2, none⟩ = some (.slice a2 n2 c2) ∧ wr.drew.cell? ⟨w.heap.size, 3, none⟩ = some (.slice a3 n3 c3) ∧ wr.drew.cell? ⟨w.heap.size, 4, none⟩ = some (.slice a4 n4 c4) ∧ wr.drew.cell? ⟨w.heap.size, 5, none⟩ = some (.slice a5 n5 c5) ∧ wr.drew.cell? ⟨bf, of + k, none⟩ = some (.int .i64 x) := ⟨(Below.refl _ _).drew, KS.out _ (Below.refl _ _).drew⟩
        clear hx hp hcell hkx
        go_wp2_with fail
        refine wp_region_held_drew (S := fun w' => Below wr.heap.size wr w' ∧ w'.cell? ⟨w.heap.size, 0, none⟩ = some (.int .i64 st) ∧ w'.cell? ⟨w.heap.size, 1, none⟩ = some (.int .i64 it) ∧ w'.cell? ⟨w.heap.size, 2, none⟩ = some (.slice a2 n2 c2) ∧ w'.cell? ⟨w.heap.size, 3, none⟩ = some (.slice a3 n3 c3) ∧ w'.cell? ⟨w.heap.size, 4, none⟩ = some (.slice a4 n4 c4) ∧ w'.cell? ⟨w.heap.size, 5, none⟩ = some (.slice a5 n5 c5) ∧ w'.cell? ⟨bf, of + k, none⟩ = some (.int .i64 x)) (by kernel_rfl) S0 (fun hHeld => ?_)
        change wpAnyH _ _ _ _ _ 7 (Array.replicate 7 false) _ _
        refine take_op 0 22 (.agg #[.int .i64 st, .int .i64 it, .slice a2 n2 c2, .slice a3 n3 c3, .slice a4 n4 c4, .slice a5 n5 c5]) (fuel := 6) rfl rfl (by kernel_rfl) (by kernel_rfl) (by kernel_rfl) (fun _ _ _ h => h) (by rfl) (fun w hSw => by go_simp) hHeld ?_
        simp only [Act.put, List.setIfInBounds_toArray, List.set_cons_zero, List.set_cons_succ]
        refine take_op 1 23 (.slice (some ⟨bf, of, none⟩) fn fc) (fuel := 5) rfl rfl (by kernel_rfl) (by kernel_rfl) (by kernel_rfl) (fun _ _ _ h => h) (by rfl) (fun w hSw => by go_simp) hHeld ?_
        simp only [Act.put, List.setIfInBounds_toArray, List.set_cons_zero, List.set_cons_succ]
        refine take_op 2 24 (.int .i64 (k : Int)) (fuel := 4) rfl rfl (by kernel_rfl) (by kernel_rfl) (by kernel_rfl) (fun _ _ _ h => h) (by rfl) (fun w hSw => by go_simp) hHeld ?_
        simp only [Act.put, List.setIfInBounds_toArray, List.set_cons_zero, List.set_cons_succ]
        refine take_op 3 25 (.pointer (some ⟨bf, of + k, none⟩)) (fuel := 3) rfl rfl (by kernel_rfl) (by kernel_rfl) (by kernel_rfl) (fun _ _ _ h => h) (by rfl) (fun w hSw => by go_simp) hHeld ?_
        simp only [Act.put, List.setIfInBounds_toArray, List.set_cons_zero, List.set_cons_succ]
        refine take_op 4 26 (.int .i64 x) (fuel := 2) rfl rfl (by kernel_rfl) (by kernel_rfl) (by kernel_rfl) (fun _ _ _ h => h) (by rfl) (fun w hSw => by go_simp) hHeld ?_
        simp only [Act.put, List.setIfInBounds_toArray, List.set_cons_zero, List.set_cons_succ]
        refine wpAnyH_ready (rs := [5]) (fuel := 1) (by kernel_rfl) (by simp) ?_
        refine AllReadyH.cons rfl (fun K hK => ?_) AllReadyH.nil
        go_simp
        refine (CST.out _ _ _ _ _).mono ?_
        rintro e w5 ⟨rfl, hb5⟩
        have BS5 := Lib.hid (S0.1.trans (hb5.mono S0.1.size))
        clear hb5
        go_wp2_with fail
        refine hK.out _ _ ⟨BS5.out, KS.out _ BS5.out⟩ (fun hHeld => ?_)
        clear hK K
        refine take_op 6 28 (.bool (!p)) (fuel := 0) rfl rfl (by kernel_rfl) (by kernel_rfl) (by kernel_rfl) (fun _ _ _ h => h) (by rfl) (fun w hSw => by go_simp) hHeld ?_
        simp only [Act.put, List.setIfInBounds_toArray, List.set_cons_zero, List.set_cons_succ]
        refine wpAnyH_done (by kernel_rfl) ?_ _
        clear hHeld S0
        have BR := Lib.hid (HB.out.trans (BS5.out.mono HB.out.size))
        cases p with
        | false =>
          go_wp2_with fail
          go_ret
          obtain rfl : L = [] := by
            rw [HL.out]
            have : from_.all (stateB ⟨st, it, ins, outs, hids, steps⟩) = false := by
              rw [List.all_eq_false]
              exact ⟨x, HXM.out, by rw [← HP.out]; simp⟩
            rw [this]
            rfl
          have BE : Below w.heap.size w w5 := B1.out.trans (BR.out.mono hs1)
          exact ⟨_, _, rfl, (owns_lit _ [] 0 rfl (by unfold maxLen; omega)).mono BE.size, BE.alloc BE.size _⟩
        | true =>
          have HN := Lib.hid (HST2.out (by simp))
          go_wp2_with fail
          go_roundw
          case rel => exact ⟨k + 1, by omega, by go_num, HN.out, BR.out⟩
          case measure => simp [intOf]; omega
      · have HALL : Hid (∀ x ∈ from_, stateB ⟨st, it, ins, outs, hids, steps⟩ x = true) := by
          have := HS.out
          rw [List.take_of_length_le (by rw [RF.out.1]; omega)] at this
          exact this
        have HLR : Hid (L = runsOf ⟨st, it, ins, outs, hids, steps⟩ from_ tr) := by
          rw [HL.out]
          have : from_.all (stateB ⟨st, it, ins, outs, hids, steps⟩) = true := List.all_eq_true.2 HALL.out
          rw [this]
          rfl
        have m0 := (V1.out.below HB.out).cell (j := 0) rfl
        have m1 := (V1.out.below HB.out).cell (j := 1) rfl
        have m2 := (V1.out.below HB.out).cell (j := 2) rfl
        have m3 := (V1.out.below HB.out).cell (j := 3) rfl
        have m4 := (V1.out.below HB.out).cell (j := 4) rfl
        have m5 := (V1.out.below HB.out).cell (j := 5) rfl
        go_wp2_with fail
        clear m0 m1 m2 m3 m4 m5
        refine (along_any st it _ _ _ a5 n5 c5 steps fa fn fc from_ a4 n4 c4 hids _ (R5.out.below BW.out) (by omega) (RF.out.below BW.out) (by omega) (R4.out.below BW.out) (by omega)).mono ?_
        obtain ⟨N0, hN0⟩ : ∃ l, l = alongOf hids steps from_ := ⟨_, rfl⟩
        rw [← hN0]
        have HN0 := Lib.hid hN0
        clear hN0
        rintro e w3 ⟨g3, c3', rfl, ho3, hb3⟩
        have B3 := Lib.hid (HB.out.trans (hb3.mono HB.out.size))
        have O3 := Lib.hid (ho3.mono (base := w.heap.size) BW.out.size)
        clear ho3 hb3 HB BW
        go_wp2_with fail
        go_loopw [8, 9] (fun nv kv wr => ∃ (k g c len : Nat) (T : List Int), k ≤ tn ∧ nv = .slice (some ⟨g, 0, none⟩) len c ∧ kv = .int .i64 (k : Int) ∧ Hid (Owns wr w.heap.size (.slice (some ⟨g, 0, none⟩) len c) len T) ∧ Hid (T = runOf ⟨st, it, ins, outs, hids, steps⟩ (alongOf hids steps from_) (tr.take k)) ∧ Hid (Below w1.heap.size w1 wr)) (fun _ kv _ => tn - (intOf kv).toNat)
        case atStart => exact ⟨0, g3, c3', N0.length, N0, Nat.zero_le _, rfl, rfl, O3.out, HN0.out, B3.out⟩
        case round =>
          obtain ⟨k, g, c, len, T, hk, rfl, rfl, OT, HT, HB⟩ := hrel
          clear O3 B3 HN0
          have BW : Hid (Below w.heap.size w wr) := B1.out.trans (HB.out.mono hs1)
          have hws := BW.out.size
          have hlen : len ≤ 40 := by
            have h1 := runOf_low (a := ⟨st, it, ins, outs, hids, steps⟩) HQ.out.symm HALL.out (tr.take k)
            have h2 : (runOf ⟨st, it, ins, outs, hids, steps⟩ (alongOf hids steps from_) (tr.take k)).length ≤ 40 := h1
            rw [← HT.out, OT.out.length] at h2
            exact h2
          by_cases hlt : k < tn
          · obtain ⟨bt, ot, rfl, hbt, hcell⟩ := RT.out.2 (by omega)
            have hkx : k < tr.length := by rw [RT.out.1]; exact hlt
            obtain ⟨act, hact⟩ : ∃ x, x = tr[k] := ⟨_, rfl⟩
            have KA : Hid (∀ W, Below w.heap.size w W → W.cell? ⟨bt, ot + k, none⟩ = some (.int .i64 act)) := fun W hW => by
              rw [hW.cell (p := ⟨bt, ot + k, none⟩) hbt, hcell k hlt, getD_eq tr k hkx, hact]
            have HT2 : Hid (alongOf hids steps (nextOf ⟨st, it, ins, outs, hids, steps⟩ T act) = runOf ⟨st, it, ins, outs, hids, steps⟩ (alongOf hids steps from_) (tr.take (k + 1))) := by
              unfold Hid
              rw [List.take_succ_eq_append_getElem hkx]
              have := runOf_snoc ⟨st, it, ins, outs, hids, steps⟩ (alongOf hids steps from_) (tr.take k) tr[k]
              rw [this, ← HT.out, hact]
            clear hact hcell hkx
            have OU0 : Hid (Owns (wr.alloc (.cells #[] 3)) w.heap.size (.slice (some ⟨wr.heap.size, 0, none⟩) 0 0) 0 []) := (owns_lit wr [] 0 rfl (by unfold maxLen; omega)).mono hws
            have BA0 : Hid (Below w1.heap.size w1 (wr.alloc (.cells #[] 3))) := HB.out.alloc HB.out.size _
            have OT0 := Lib.hid (OT.out.alloc (.cells #[] 3))
            clear OT HB BW hws
            go_wp2_with fail
            go_loopw [10, 11] (fun xv iv wq => ∃ (i gu cu nu : Nat) (U : List Int), i ≤ len ∧ xv = .slice (some ⟨gu, 0, none⟩) nu cu ∧ iv = .int .i64 (i : Int) ∧ Hid (Owns wq w.heap.size (.slice (some ⟨gu, 0, none⟩) nu cu) nu U) ∧ Hid (U = nextOf ⟨st, it, ins, outs, hids, steps⟩ (T.take i) act) ∧ Hid (Owns wq w.heap.size (.slice (some ⟨g, 0, none⟩) len c) len T) ∧ Hid (Below w1.heap.size w1 wq)) (fun _ iv _ => len - (intOf iv).toNat)
            case atStart => exact ⟨0, _, 0, 0, [], Nat.zero_le _, rfl, rfl, OU0.out, rfl, OT0.out, BA0.out⟩
            case round =>
              obtain ⟨i, gu, cu, nu, U, hi, rfl, rfl, OU, HU, OT, HB⟩ := hrel
              clear OU0 BA0 OT0
              have BW : Hid (Below w.heap.size w wr) := B1.out.trans (HB.out.mono hs1)
              have hws := BW.out.size
              have hnu : nu ≤ 40 := by
                have h1 := next_low (a := ⟨st, it, ins, outs, hids, steps⟩) HQ.out.symm (T.take i) act
                rw [← HU.out, OU.out.length] at h1
                exact h1
              by_cases hlti : i < len
              · have hiT : i < T.length := by rw [OT.out.length]; exact hlti
                obtain ⟨x, hx⟩ : ∃ x, x = T[i] := ⟨_, rfl⟩
                obtain ⟨FX, hFX⟩ : ∃ l, l = farOf ⟨st, it, ins, outs, hids, steps⟩ x act := ⟨_, rfl⟩
                obtain ⟨nf, hnf⟩ : ∃ n, n = FX.length := ⟨_, rfl⟩
                have hnf2 : nf ≤ 40 := by rw [hnf, hFX]; exact far_low HQ.out.symm x act
                have HU2 : Hid (joinOf U FX = nextOf ⟨st, it, ins, outs, hids, steps⟩ (T.take (i + 1)) act) := by
                  unfold Hid nextOf
                  rw [List.take_succ_eq_append_getElem hiT, List.foldl_append, ← hx, hFX]
                  have h1 := HU.out
                  unfold nextOf at h1
                  rw [← h1]
                  rfl
                have CF : Hid (∀ W, Below wr.heap.size wr W → Calls Try.prog 39 #[.agg #[.int .i64 st, .int .i64 it, .slice a2 n2 c2, .slice a3 n3 c3, .slice a4 n4 c4, .slice a5 n5 c5], .int .i64 x, .int .i64 act] W fun e w' => ∃ g c, e = .returned (.slice (some ⟨g, 0, none⟩) nf c) ∧ Owns w' W.heap.size (.slice (some ⟨g, 0, none⟩) nf c) nf FX ∧ Below W.heap.size W w') := fun W hW => by
                  rw [hnf, hFX]
                  exact CF0.out W x act (BW.out.trans (hW.mono BW.out.size))
                have KS : Hid (∀ W, Below wr.heap.size wr W → W.cell? ⟨w.heap.size, 0, none⟩ = some (.int .i64 st) ∧ W.cell? ⟨w.heap.size, 1, none⟩ = some (.int .i64 it) ∧ W.cell? ⟨w.heap.size, 2, none⟩ = some (.slice a2 n2 c2) ∧ W.cell? ⟨w.heap.size, 3, none⟩ = some (.slice a3 n3 c3) ∧ W.cell? ⟨w.heap.size, 4, none⟩ = some (.slice a4 n4 c4) ∧ W.cell? ⟨w.heap.size, 5, none⟩ = some (.slice a5 n5 c5) ∧ W.cell? ⟨g, i, none⟩ = some (.int .i64 x) ∧ W.cell? ⟨bt, ot + k, none⟩ = some (.int .i64 act)) := fun W hW => by
                  obtain ⟨q0, q1, q2, q3, q4, q5⟩ := KB.out W (HB.out.trans (hW.mono HB.out.size))
                  refine ⟨q0, q1, q2, q3, q4, q5, ?_, KA.out W (BW.out.trans (hW.mono BW.out.size))⟩
                  rw [(OT.out.below hW).cells.2 i hlti, getD_eq T i hiT, hx]
                have S0 : Below wr.heap.size wr wr.drew ∧ wr.drew.cell? ⟨w.heap.size, 0, none⟩ = some (.int .i64 st) ∧ wr.drew.cell? ⟨w.heap.size, 1, none⟩ = some (.int .i64 it) ∧ wr.drew.cell? ⟨w.heap.size, 2, none⟩ = some (.slice a2 n2 c2) ∧ wr.drew.cell? ⟨w.heap.size, 3, none⟩ = some (.slice a3 n3 c3) ∧ wr.drew.cell? ⟨w.heap.size, 4, none⟩ = some (.slice a4 n4 c4) ∧ wr.drew.cell? ⟨w.heap.size, 5, none⟩ = some (.slice a5 n5 c5) ∧ wr.drew.cell? ⟨g, i, none⟩ = some (.int .i64 x) ∧ wr.drew.cell? ⟨bt, ot + k, none⟩ = some (.int .i64 act) := ⟨(Below.refl _ _).drew, KS.out _ (Below.refl _ _).drew⟩
                clear hx hFX hnf hiT
                go_wp2_with fail
                refine wp_region_held_drew (S := fun w' => Below wr.heap.size wr w' ∧ w'.cell? ⟨w.heap.size, 0, none⟩ = some (.int .i64 st) ∧ w'.cell? ⟨w.heap.size, 1, none⟩ = some (.int .i64 it) ∧ w'.cell? ⟨w.heap.size, 2, none⟩ = some (.slice a2 n2 c2) ∧ w'.cell? ⟨w.heap.size, 3, none⟩ = some (.slice a3 n3 c3) ∧ w'.cell? ⟨w.heap.size, 4, none⟩ = some (.slice a4 n4 c4) ∧ w'.cell? ⟨w.heap.size, 5, none⟩ = some (.slice a5 n5 c5) ∧ w'.cell? ⟨g, i, none⟩ = some (.int .i64 x) ∧ w'.cell? ⟨bt, ot + k, none⟩ = some (.int .i64 act)) (by kernel_rfl) S0 (fun hHeld => ?_)
                change wpAnyH _ _ _ _ _ 13 (Array.replicate 13 false) _ _
                refine take_op 0 48 (.slice (some ⟨gu, 0, none⟩) nu cu) (fuel := 12) rfl rfl (by kernel_rfl) (by kernel_rfl) (by kernel_rfl) (fun _ _ _ h => h) (by rfl) (fun w hSw => by go_simp) hHeld ?_
                simp only [Act.put, List.setIfInBounds_toArray, List.set_cons_zero, List.set_cons_succ]
                refine take_op 1 49 (.agg #[.int .i64 st, .int .i64 it, .slice a2 n2 c2, .slice a3 n3 c3, .slice a4 n4 c4, .slice a5 n5 c5]) (fuel := 11) rfl rfl (by kernel_rfl) (by kernel_rfl) (by kernel_rfl) (fun _ _ _ h => h) (by rfl) (fun w hSw => by go_simp) hHeld ?_
                simp only [Act.put, List.setIfInBounds_toArray, List.set_cons_zero, List.set_cons_succ]
                refine take_op 2 50 (.slice (some ⟨g, 0, none⟩) len c) (fuel := 10) rfl rfl (by kernel_rfl) (by kernel_rfl) (by kernel_rfl) (fun _ _ _ h => h) (by rfl) (fun w hSw => by go_simp) hHeld ?_
                simp only [Act.put, List.setIfInBounds_toArray, List.set_cons_zero, List.set_cons_succ]
                refine take_op 3 51 (.int .i64 (i : Int)) (fuel := 9) rfl rfl (by kernel_rfl) (by kernel_rfl) (by kernel_rfl) (fun _ _ _ h => h) (by rfl) (fun w hSw => by go_simp) hHeld ?_
                simp only [Act.put, List.setIfInBounds_toArray, List.set_cons_zero, List.set_cons_succ]
                refine take_op 4 52 (.pointer (some ⟨g, i, none⟩)) (fuel := 8) rfl rfl (by kernel_rfl) (by kernel_rfl) (by kernel_rfl) (fun _ _ _ h => h) (by rfl) (fun w hSw => by go_simp) hHeld ?_
                simp only [Act.put, List.setIfInBounds_toArray, List.set_cons_zero, List.set_cons_succ]
                refine take_op 5 53 (.int .i64 x) (fuel := 7) rfl rfl (by kernel_rfl) (by kernel_rfl) (by kernel_rfl) (fun _ _ _ h => h) (by rfl) (fun w hSw => by go_simp) hHeld ?_
                simp only [Act.put, List.setIfInBounds_toArray, List.set_cons_zero, List.set_cons_succ]
                refine take_op 6 54 (.slice (some ⟨bt, ot, none⟩) tn tc) (fuel := 6) rfl rfl (by kernel_rfl) (by kernel_rfl) (by kernel_rfl) (fun _ _ _ h => h) (by rfl) (fun w hSw => by go_simp) hHeld ?_
                simp only [Act.put, List.setIfInBounds_toArray, List.set_cons_zero, List.set_cons_succ]
                refine take_op 7 55 (.int .i64 (k : Int)) (fuel := 5) rfl rfl (by kernel_rfl) (by kernel_rfl) (by kernel_rfl) (fun _ _ _ h => h) (by rfl) (fun w hSw => by go_simp) hHeld ?_
                simp only [Act.put, List.setIfInBounds_toArray, List.set_cons_zero, List.set_cons_succ]
                refine take_op 8 56 (.pointer (some ⟨bt, ot + k, none⟩)) (fuel := 4) rfl rfl (by kernel_rfl) (by kernel_rfl) (by kernel_rfl) (fun _ _ _ h => h) (by rfl) (fun w hSw => by go_simp) hHeld ?_
                simp only [Act.put, List.setIfInBounds_toArray, List.set_cons_zero, List.set_cons_succ]
                refine take_op 9 57 (.int .i64 act) (fuel := 3) rfl rfl (by kernel_rfl) (by kernel_rfl) (by kernel_rfl) (fun _ _ _ h => h) (by rfl) (fun w hSw => by go_simp) hHeld ?_
                simp only [Act.put, List.setIfInBounds_toArray, List.set_cons_zero, List.set_cons_succ]
                refine wpAnyH_ready (rs := [10]) (fuel := 2) (by kernel_rfl) (by simp) ?_
                refine AllReadyH.cons rfl (fun K hK => ?_) AllReadyH.nil
                go_simp
                refine (CF.out _ S0.1).mono ?_
                rintro e w5 ⟨g5, c5x, rfl, ho5, hb5⟩
                have BS5 := Lib.hid (S0.1.trans (hb5.mono S0.1.size))
                have RF5 := Lib.hid ho5.row.2.2.2
                have OU5 := Lib.hid (OU.out.below BS5.out)
                clear ho5 hb5
                go_wp2_with fail
                refine hK.out _ _ ⟨BS5.out, KS.out _ BS5.out⟩ (fun hHeld => ?_)
                clear hK K
                refine wpAnyH_ready (rs := [11]) (fuel := 1) (by kernel_rfl) (by simp) ?_
                refine AllReadyH.cons rfl (fun K hK => ?_) AllReadyH.nil
                go_simp
                refine (specSetJoin_any _ _ nu cu nf c5x U FX _ OU5.out.row.2.2.2 RF5.out (by omega) (by omega)).mono ?_
                rintro e w6 ⟨g6, c6, rfl, ho6, hb6⟩
                have BS6 := Lib.hid (BS5.out.trans (hb6.mono BS5.out.size))
                have OU6 := Lib.hid (ho6.mono (base := w.heap.size) (Nat.le_trans hws BS5.out.size))
                clear ho6 hb6
                go_wp2_with fail
                refine hK.out _ _ ⟨BS6.out, KS.out _ BS6.out⟩ (fun hHeld => ?_)
                clear hK K
                refine take_op 12 10 (.slice (some ⟨g6, 0, none⟩) (joinOf U FX).length c6) (fuel := 0) rfl rfl (by kernel_rfl) (by kernel_rfl) (by kernel_rfl) (fun _ _ _ h => h) (by rfl) (fun w hSw => by go_simp) hHeld ?_
                simp only [Act.put, List.setIfInBounds_toArray, List.set_cons_zero, List.set_cons_succ]
                refine wpAnyH_done (by kernel_rfl) ?_ _
                clear hHeld S0
                have BR := Lib.hid (HB.out.trans (BS6.out.mono HB.out.size))
                have OTR := Lib.hid (OT.out.below BS6.out)
                go_wp2_with fail
                go_roundw
                case rel => exact ⟨i + 1, g6, c6, _, joinOf U FX, by omega, rfl, by go_num, OU6.out, HU2.out, OTR.out, BR.out⟩
                case measure => simp [intOf]; omega
              · have HUE : Hid (U = nextOf ⟨st, it, ins, outs, hids, steps⟩ T act) := by
                  have h1 := HU.out
                  rw [List.take_of_length_le (by rw [OT.out.length]; omega)] at h1
                  exact h1
                have m0 := (V1.out.below HB.out).cell (j := 0) rfl
                have m1 := (V1.out.below HB.out).cell (j := 1) rfl
                have m2 := (V1.out.below HB.out).cell (j := 2) rfl
                have m3 := (V1.out.below HB.out).cell (j := 3) rfl
                have m4 := (V1.out.below HB.out).cell (j := 4) rfl
                have m5 := (V1.out.below HB.out).cell (j := 5) rfl
                go_wp2_with fail
                clear m0 m1 m2 m3 m4 m5
                refine (along_any st it _ _ _ a5 n5 c5 steps _ nu cu U a4 n4 c4 hids _ (R5.out.below BW.out) (by omega) OU.out.row.2.2.2 (by omega) (R4.out.below BW.out) (by omega)).mono ?_
                obtain ⟨N1, hN1⟩ : ∃ l, l = alongOf hids steps U := ⟨_, rfl⟩
                rw [← hN1]
                have HN1 : Hid (N1 = runOf ⟨st, it, ins, outs, hids, steps⟩ (alongOf hids steps from_) (tr.take (k + 1))) := by
                  unfold Hid
                  rw [← HT2.out, hN1, HUE.out]
                clear hN1
                rintro e w7 ⟨g7, c7, rfl, ho7, hb7⟩
                have B7 := Lib.hid (HB.out.trans (hb7.mono HB.out.size))
                have O7 := Lib.hid (ho7.mono (base := w.heap.size) hws)
                clear ho7 hb7
                go_wp2_with fail
                go_roundw
                case rel => exact ⟨k + 1, g7, c7, _, N1, by omega, rfl, by go_num, O7.out, HN1.out, B7.out⟩
                case measure => simp [intOf]; omega
          · have HE : Hid (T = L) := by
              rw [HLR.out]
              have h1 := HT.out
              rw [List.take_of_length_le (by rw [RT.out.1]; omega)] at h1
              exact h1
            go_wp2_with fail
            go_ret
            have e := OT.out.length
            rw [← HE.out]
            subst e
            exact ⟨_, _, rfl, OT.out, BW.out⟩

end Go.Proofs.Ytdbgjgeglgipiaa
