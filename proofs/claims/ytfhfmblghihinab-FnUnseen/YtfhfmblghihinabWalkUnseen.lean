/-
  The walk of the law FnUnseen: it returns true at every code and writes nothing that was there. Conditions: none.
-/
import Derived.Test.YtfhfmblghihinabIaOwn
import Derived.Test.YtfhfmblghihinabLenHid
import Derived.Test.YtfhfmblghihinabUnseen
import Derived.Test.YtfhfmblghihinabBig
import Derived.Test.YtfhfmblghihinabSame
namespace Go.Proofs.Ytfhfmblghihinab
open Go.RowKit

theorem inB_iff {xs ys : List Int} : inB xs ys = true ↔ ∀ x ∈ xs, x ∈ ys := by simp [inB, hasB]

theorem sure_in {a : IaD} {s x : Int} (hx : x ∈ closeOf a s) : inB (sureOf a s) (ofL a.steps x a.ins) = true := inB_iff.2 fun _ hy => (mem_foldMeet.1 hy).2 x hx

theorem close_in_close {a : IaD} {s x : Int} (hx : x ∈ closeOf a s) : inB (closeOf a x) (closeOf a s) = true := inB_iff.2 fun y hy => close_in hx y hy

/-- Whether an action is taken in each of some states. -/
def allTaken (a : IaD) (C : List Int) (y : Int) : Bool := C.all fun x => hasB (ofL a.steps x a.ins) y

theorem allTaken_snoc (a : IaD) (C : List Int) (x y : Int) : allTaken a (C ++ [x]) y = (allTaken a C y && hasB (ofL a.steps x a.ins) y) := by simp [allTaken]

theorem allTaken_sure {a : IaD} {s y : Int} (hy : y ∈ a.ins) : allTaken a (closeOf a s) y = hasB (sureOf a s) y := by
  rw [Bool.eq_iff_iff]
  unfold allTaken
  rw [List.all_eq_true, hasB_mem]
  unfold sureOf
  rw [mem_foldMeet]
  simp only [hasB_mem]
  exact ⟨fun h => ⟨hy, h⟩, fun h => h.2⟩

set_option maxRecDepth 20000 in
set_option maxHeartbeats 3000000 in
theorem walk_FnUnseen (a0 : Option Addr) (len0 cap0 : Nat) (z0 : List Int) (w : World) (w0 : IsRow .u8 w a0 len0 cap0 z0) :
    Calls Try.prog 6 #[.slice a0 len0 cap0] w fun e w' => e = .returned (.bool true) ∧ Below w.heap.size w w' := by
  have hl := w0.lenAny
  have HA := Lib.hid w0.code
  clear w0
  by_cases hbig : 1048576 < len0
  · go_enter Try.func6, Try.ntmps6
    go_wp2_with fail
    refine (big_any _ _ _ _ hl).mono ?_
    rintro e wz ⟨rfl, hz⟩
    obtain rfl : w = wz := hz.symm
    rw [decide_eq_true hbig]
    go_wp2_with fail
    go_ret
    exact ⟨rfl, Below.refl _ _⟩
  · go_enter Try.func6, Try.ntmps6
    go_wp2_with fail
    refine (big_any _ _ _ _ hl).mono ?_
    rintro e wz ⟨rfl, hz⟩
    obtain rfl : w = wz := hz.symm
    rw [decide_eq_false hbig]
    go_wp2_with fail
    refine (drawClosure_any a0 len0 cap0 _ (by omega) HA.out).mono ?_
    clear HA hl hbig
    rintro e w1 ⟨ia, v, s, rfl, hm, hln, hb⟩
    have BW1 := Lib.hid hb
    obtain ⟨st, it, ins, outs, hids, steps⟩ := ia
    obtain ⟨x2, x3, x4, x5, rfl, o2, o3, o4, o5⟩ := hm
    obtain ⟨k2, k3, k4, k5⟩ := hln
    simp only at o2 o3 o4 o5 k2 k3 k4 k5
    obtain ⟨n2, hn2⟩ : ∃ n, n = ins.length := ⟨_, rfl⟩
    obtain ⟨n3, hn3⟩ : ∃ n, n = outs.length := ⟨_, rfl⟩
    obtain ⟨n4, hn4⟩ : ∃ n, n = hids.length := ⟨_, rfl⟩
    obtain ⟨n5, hn5⟩ : ∃ n, n = steps.length := ⟨_, rfl⟩
    rw [← hn2] at o2
    rw [← hn3] at o3
    rw [← hn4] at o4
    rw [← hn5] at o5
    obtain ⟨b2, d2, rfl⟩ := o2.form
    obtain ⟨b3, d3, rfl⟩ := o3.form
    obtain ⟨b4, d4, rfl⟩ := o4.form
    obtain ⟨b5, d5, rfl⟩ := o5.form
    have HROW : Hid (IaRow w1 ⟨st, it, ins, outs, hids, steps⟩ (.agg #[.int .i64 st, .int .i64 it, .slice b2 n2 d2, .slice b3 n3 d3, .slice b4 n4 d4, .slice b5 n5 d5])) := ⟨b2, n2, d2, b3, n3, d3, b4, n4, d4, b5, n5, d5, rfl, o2.row.2.2.2, o3.row.2.2.2, o4.row.2.2.2, o5.row.2.2.2⟩
    have RI := Lib.hid o2.row.2.2.2
    have f2 : ins.length ≤ 1048576 := by omega
    have f3 : outs.length ≤ 1048576 := by omega
    have f4 : hids.length ≤ 1048576 := by omega
    have f5 : steps.length ≤ 1048576 := by omega
    have g2 : n2 ≤ 1000 := by omega
    clear o2 o3 o4 o5 hn2 hn3 hn4 hn5 hb k3 k4
    obtain ⟨C, hC⟩ : ∃ C, C = closeIf ⟨st, it, ins, outs, hids, steps⟩ s := ⟨_, rfl⟩
    obtain ⟨nC, hnC⟩ : ∃ n, n = C.length := ⟨_, rfl⟩
    have hnC40 : nC ≤ 40 := by rw [hnC, hC]; exact closeIf_len _ _
    have VB := Lib.hid (VarIs.new w1 #[.int .i64 st, .int .i64 it, .slice b2 n2 d2, .slice b3 n3 d3, .slice b4 n4 d4, .slice b5 n5 d5] 30 rfl)
    have BB : Hid (Below w1.heap.size w1 (w1.alloc (.cells #[.int .i64 st, .int .i64 it, .slice b2 n2 d2, .slice b3 n3 d3, .slice b4 n4 d4, .slice b5 n5 d5] 30))) := (Below.refl _ _).alloc (Nat.le_refl _) _
    have CC1 : Hid (∀ W, Below w1.heap.size w1 W → Calls Try.prog 22 #[.agg #[.int .i64 st, .int .i64 it, .slice b2 n2 d2, .slice b3 n3 d3, .slice b4 n4 d4, .slice b5 n5 d5], .int .i64 s] W fun e w' => ∃ ad c, e = .returned (.slice ad nC c) ∧ Owns w' W.heap.size (.slice ad nC c) nC C ∧ Below W.heap.size W w') := fun W hW => by
      rw [hnC, hC]
      refine (implClosure_any ⟨st, it, ins, outs, hids, steps⟩ _ s W (HROW.out.below hW) f2 f3 f4 f5).mono ?_
      rintro e w' ⟨v', rfl, ho, hb⟩
      obtain ⟨ad, c, rfl⟩ := ho.form
      exact ⟨ad, c, rfl, ho, hb⟩
    have CC2 : Hid (∀ W, Below w1.heap.size w1 W → Calls Try.prog 24 #[.agg #[.int .i64 st, .int .i64 it, .slice b2 n2 d2, .slice b3 n3 d3, .slice b4 n4 d4, .slice b5 n5 d5], .int .i64 s] W fun e w' => ∃ g c, e = .returned (.slice (some ⟨g, 0, none⟩) nC c) ∧ Owns w' W.heap.size (.slice (some ⟨g, 0, none⟩) nC c) nC C ∧ Below W.heap.size W w') := fun W hW => by
      rw [hnC, hC]
      exact specClosure_any ⟨st, it, ins, outs, hids, steps⟩ _ s W (HROW.out.below hW) f2 f3 f4 f5
    have HHC := Lib.hid hC
    have HHN := Lib.hid hnC
    clear hC hnC
    go_wp2_with fail
    refine (CC1.out _ BB.out).mono ?_
    rintro e w2 ⟨ac, cc, rfl, hoC, hb⟩
    have B2 : Hid (Below w1.heap.size w1 w2) := BB.out.trans (hb.mono (by simp))
    have V2 := Lib.hid (VB.out.below hb)
    have OC := Lib.hid hoC.row.2.2.2
    have HR2 := Lib.hid (HROW.out.below B2.out)
    have RI2 := Lib.hid (RI.out.below B2.out)
    have BW2 : Hid (Below w.heap.size w w2) := BW1.out.trans (B2.out.mono BW1.out.size)
    clear hb hoC VB BB CC1 RI BW1
    have m0 := V2.out.cell (j := 0) rfl
    have m1 := V2.out.cell (j := 1) rfl
    have m2 := V2.out.cell (j := 2) rfl
    have m3 := V2.out.cell (j := 3) rfl
    have m4 := V2.out.cell (j := 4) rfl
    have m5 := V2.out.cell (j := 5) rfl
    go_wp2_with fail
    clear m0 m1 m2 m3 m4 m5
    refine (CC2.out _ B2.out).mono ?_
    rintro e w3 ⟨g3, c3, rfl, hoS, hb⟩
    have B3 := Lib.hid hb
    have OS3 := Lib.hid hoS.row.2.2.2
    clear hb hoS CC2 HROW B2
    go_wp2_with fail
    refine (same_eq ac _ nC cc nC c3 C _ (OC.out.below B3.out) OS3.out (by omega)).mono ?_
    rintro e w4 ⟨rfl, hb⟩
    have B4 : Hid (Below w2.heap.size w2 w4) := B3.out.trans (hb.mono B3.out.size)
    clear hb B3 OS3
    have KS : Hid (∀ W, Below w2.heap.size w2 W → W.cell? ⟨w1.heap.size, 0, none⟩ = some (.int .i64 st) ∧ W.cell? ⟨w1.heap.size, 1, none⟩ = some (.int .i64 it) ∧ W.cell? ⟨w1.heap.size, 2, none⟩ = some (.slice b2 n2 d2) ∧ W.cell? ⟨w1.heap.size, 3, none⟩ = some (.slice b3 n3 d3) ∧ W.cell? ⟨w1.heap.size, 4, none⟩ = some (.slice b4 n4 d4) ∧ W.cell? ⟨w1.heap.size, 5, none⟩ = some (.slice b5 n5 d5)) := fun W hW => by
      have hv := V2.out.below hW
      exact ⟨hv.cell rfl, hv.cell rfl, hv.cell rfl, hv.cell rfl, hv.cell rfl, hv.cell rfl⟩
    have S0 : Below w2.heap.size w2 w4.drew ∧ w4.drew.cell? ⟨w1.heap.size, 0, none⟩ = some (.int .i64 st) ∧ w4.drew.cell? ⟨w1.heap.size, 1, none⟩ = some (.int .i64 it) ∧ w4.drew.cell? ⟨w1.heap.size, 2, none⟩ = some (.slice b2 n2 d2) ∧ w4.drew.cell? ⟨w1.heap.size, 3, none⟩ = some (.slice b3 n3 d3) ∧ w4.drew.cell? ⟨w1.heap.size, 4, none⟩ = some (.slice b4 n4 d4) ∧ w4.drew.cell? ⟨w1.heap.size, 5, none⟩ = some (.slice b5 n5 d5) := ⟨B4.out.drew, KS.out _ B4.out.drew⟩
    by_cases h0 : nC = 0
    · have hC := HHC.out
      have hnC := HHN.out
      have hC0 : C = [] := List.length_eq_zero_iff.1 (by omega)
      have hq : (iaOkB ⟨st, it, ins, outs, hids, steps⟩ && stateB ⟨st, it, ins, outs, hids, steps⟩ s) = false := by
        cases hq : (iaOkB ⟨st, it, ins, outs, hids, steps⟩ && stateB ⟨st, it, ins, outs, hids, steps⟩ s) with
        | false => rfl
        | true =>
          have : closeOf ⟨st, it, ins, outs, hids, steps⟩ s = [] := by rw [← hC0, hC, closeIf, hq]; rfl
          exact absurd this (close_ne _ _)
      have CSU : Hid (∀ W, Below w2.heap.size w2 W → Calls Try.prog 10 #[.agg #[.int .i64 st, .int .i64 it, .slice b2 n2 d2, .slice b3 n3 d3, .slice b4 n4 d4, .slice b5 n5 d5], .int .i64 s] W fun e w' => ∃ ad c, e = .returned (.slice ad 0 c) ∧ Owns w' W.heap.size (.slice ad 0 c) 0 [] ∧ Below W.heap.size W w') := fun W hW => by
        have := implSureTaken_any ⟨st, it, ins, outs, hids, steps⟩ _ s W (HR2.out.below hW) f2 f3 f4 f5
        rw [hq] at this
        refine this.mono ?_
        rintro e w' ⟨v', rfl, ho, hb⟩
        obtain ⟨ad, c, rfl⟩ := ho.form
        exact ⟨ad, c, rfl, ho, hb⟩
      have CSA : Hid (∀ W, Below w2.heap.size w2 W → Calls Try.prog 17 #[.agg #[.int .i64 st, .int .i64 it, .slice b2 n2 d2, .slice b3 n3 d3, .slice b4 n4 d4, .slice b5 n5 d5], .int .i64 s] W fun e w' => ∃ ad c, e = .returned (.slice ad 0 c) ∧ Owns w' W.heap.size (.slice ad 0 c) 0 [] ∧ Below W.heap.size W w') := fun W hW => by
        have := implMaySay_any ⟨st, it, ins, outs, hids, steps⟩ _ s W (HR2.out.below hW) f2 f3 f4 f5
        rw [hq] at this
        refine this.mono ?_
        rintro e w' ⟨v', rfl, ho, hb⟩
        obtain ⟨ad, c, rfl⟩ := ho.form
        exact ⟨ad, c, rfl, ho, hb⟩
      subst h0
      clear hC hnC hC0 hq
      go_wp2_with fail
      refine wp_region_held_drew (S := fun w' => Below w2.heap.size w2 w' ∧ w'.cell? ⟨w1.heap.size, 0, none⟩ = some (.int .i64 st) ∧ w'.cell? ⟨w1.heap.size, 1, none⟩ = some (.int .i64 it) ∧ w'.cell? ⟨w1.heap.size, 2, none⟩ = some (.slice b2 n2 d2) ∧ w'.cell? ⟨w1.heap.size, 3, none⟩ = some (.slice b3 n3 d3) ∧ w'.cell? ⟨w1.heap.size, 4, none⟩ = some (.slice b4 n4 d4) ∧ w'.cell? ⟨w1.heap.size, 5, none⟩ = some (.slice b5 n5 d5)) (by kernel_rfl) S0 (fun hHeld => ?_)
      change wpAnyH _ _ _ _ _ 11 (Array.replicate 11 false) _ _
      refine take_op 0 32 (.agg #[.int .i64 st, .int .i64 it, .slice b2 n2 d2, .slice b3 n3 d3, .slice b4 n4 d4, .slice b5 n5 d5]) (fuel := 10) rfl rfl (by kernel_rfl) (by kernel_rfl) (by kernel_rfl) (fun _ _ _ h => h) (by rfl) (fun w hSw => by go_simp) hHeld ?_
      simp only [Act.put, List.setIfInBounds_toArray, List.set_cons_zero, List.set_cons_succ]
      refine take_op 1 33 (.int .i64 s) (fuel := 9) rfl rfl (by kernel_rfl) (by kernel_rfl) (by kernel_rfl) (fun _ _ _ h => h) (by rfl) (fun w hSw => by go_simp) hHeld ?_
      simp only [Act.put, List.setIfInBounds_toArray, List.set_cons_zero, List.set_cons_succ]
      refine take_op 4 36 (.agg #[.int .i64 st, .int .i64 it, .slice b2 n2 d2, .slice b3 n3 d3, .slice b4 n4 d4, .slice b5 n5 d5]) (fuel := 8) rfl rfl (by kernel_rfl) (by kernel_rfl) (by kernel_rfl) (fun _ _ _ h => h) (by rfl) (fun w hSw => by go_simp) hHeld ?_
      simp only [Act.put, List.setIfInBounds_toArray, List.set_cons_zero, List.set_cons_succ]
      refine take_op 5 37 (.int .i64 s) (fuel := 7) rfl rfl (by kernel_rfl) (by kernel_rfl) (by kernel_rfl) (fun _ _ _ h => h) (by rfl) (fun w hSw => by go_simp) hHeld ?_
      simp only [Act.put, List.setIfInBounds_toArray, List.set_cons_zero, List.set_cons_succ]
      refine wpAnyH_ready (rs := [2]) (fuel := 6) (by kernel_rfl) (by simp) ?_
      refine AllReadyH.cons rfl (fun K hK => ?_) AllReadyH.nil
      go_simp
      refine (CSU.out _ S0.1).mono ?_
      rintro e w5 ⟨a5, c5, rfl, ho5, hb5⟩
      have B5 := Lib.hid (S0.1.trans (hb5.mono S0.1.size))
      clear ho5 hb5
      go_wp2_with fail
      refine hK.out _ _ ⟨B5.out, KS.out _ B5.out⟩ (fun hHeld => ?_)
      clear hK K
      refine take_op 3 35 (.int .i64 0) (fuel := 5) rfl rfl (by kernel_rfl) (by kernel_rfl) (by kernel_rfl) (fun _ _ _ h => h) (by rfl) (fun w hSw => by go_simp) hHeld ?_
      simp only [Act.put, List.setIfInBounds_toArray, List.set_cons_zero, List.set_cons_succ]
      refine wpAnyH_ready (rs := [6]) (fuel := 4) (by kernel_rfl) (by simp) ?_
      refine AllReadyH.cons rfl (fun K hK => ?_) AllReadyH.nil
      go_simp
      refine (CSA.out _ B5.out).mono ?_
      rintro e w6 ⟨a6, c6, rfl, ho6, hb6⟩
      have B6 := Lib.hid (B5.out.trans (hb6.mono B5.out.size))
      clear ho6 hb6
      go_wp2_with fail
      refine hK.out _ _ ⟨B6.out, KS.out _ B6.out⟩ (fun hHeld => ?_)
      clear hK K
      refine take_op 7 39 (.int .i64 0) (fuel := 3) rfl rfl (by kernel_rfl) (by kernel_rfl) (by kernel_rfl) (fun _ _ _ h => h) (by rfl) (fun w hSw => by go_simp) hHeld ?_
      simp only [Act.put, List.setIfInBounds_toArray, List.set_cons_zero, List.set_cons_succ]
      refine take_op 8 40 (.int .i64 0) (fuel := 2) rfl rfl (by kernel_rfl) (by kernel_rfl) (by kernel_rfl) (fun _ _ _ h => h) (by rfl) (fun w hSw => by go_simp; exact Go.IntWalk.i64_in _ (by constructor <;> omega)) hHeld ?_
      simp only [Act.put, List.setIfInBounds_toArray, List.set_cons_zero, List.set_cons_succ]
      refine take_op 9 41 (.bool true) (fuel := 1) rfl rfl (by kernel_rfl) (by kernel_rfl) (by kernel_rfl) (fun _ _ _ h => h) (by rfl) (fun w hSw => by go_simp) hHeld ?_
      simp only [Act.put, List.setIfInBounds_toArray, List.set_cons_zero, List.set_cons_succ]
      refine take_op 10 2 (.bool true) (fuel := 0) rfl rfl (by kernel_rfl) (by kernel_rfl) (by kernel_rfl) (fun _ _ _ h => h) (by rfl) (fun w hSw => by go_simp) hHeld ?_
      simp only [Act.put, List.setIfInBounds_toArray, List.set_cons_zero, List.set_cons_succ]
      refine wpAnyH_done (by kernel_rfl) ?_ _
      clear hHeld
      go_wp2_with fail
      go_ret
      exact ⟨rfl, BW2.out.trans (B6.out.mono BW2.out.size)⟩
    · have hC := HHC.out
      have hnC := HHN.out
      have hne : closeIf ⟨st, it, ins, outs, hids, steps⟩ s ≠ [] := fun e => h0 (by rw [hnC, hC, e]; rfl)
      obtain ⟨ok, os⟩ := closeIf_ok hne
      have hCe : C = closeOf ⟨st, it, ins, outs, hids, steps⟩ s := by rw [hC, closeIf, ok, os]; rfl
      have HCE := Lib.hid hCe
      have HNC := Lib.hid hnC
      have HOK := Lib.hid ok
      have HOS := Lib.hid os
      obtain ⟨SU, hSU⟩ : ∃ L, L = sureOf ⟨st, it, ins, outs, hids, steps⟩ s := ⟨_, rfl⟩
      obtain ⟨SY, hSY⟩ : ∃ L, L = sayOf ⟨st, it, ins, outs, hids, steps⟩ s := ⟨_, rfl⟩
      obtain ⟨nS, hnS⟩ : ∃ n, n = SU.length := ⟨_, rfl⟩
      obtain ⟨nY, hnY⟩ : ∃ n, n = SY.length := ⟨_, rfl⟩
      have hnS2 : nS ≤ 1000 := by rw [hnS, hSU]; exact Nat.le_trans (sure_len _ _) k2
      have hnY2 : nY ≤ 1048576 := by rw [hnY, hSY]; exact Nat.le_trans (say_len _ _) f3
      have CSU : Hid (∀ W, Below w2.heap.size w2 W → Calls Try.prog 10 #[.agg #[.int .i64 st, .int .i64 it, .slice b2 n2 d2, .slice b3 n3 d3, .slice b4 n4 d4, .slice b5 n5 d5], .int .i64 s] W fun e w' => ∃ ad c, e = .returned (.slice ad nS c) ∧ Owns w' W.heap.size (.slice ad nS c) nS SU ∧ Below W.heap.size W w') := fun W hW => by
        have := implSureTaken_any ⟨st, it, ins, outs, hids, steps⟩ _ s W (HR2.out.below hW) f2 f3 f4 f5
        rw [ok, os] at this
        rw [hnS, hSU]
        refine this.mono ?_
        rintro e w' ⟨v', rfl, ho, hb⟩
        obtain ⟨ad, c, rfl⟩ := ho.form
        exact ⟨ad, c, rfl, ho, hb⟩
      have CSA : Hid (∀ W, Below w2.heap.size w2 W → Calls Try.prog 17 #[.agg #[.int .i64 st, .int .i64 it, .slice b2 n2 d2, .slice b3 n3 d3, .slice b4 n4 d4, .slice b5 n5 d5], .int .i64 s] W fun e w' => ∃ ad c, e = .returned (.slice ad nY c) ∧ Owns w' W.heap.size (.slice ad nY c) nY SY ∧ Below W.heap.size W w') := fun W hW => by
        have := implMaySay_any ⟨st, it, ins, outs, hids, steps⟩ _ s W (HR2.out.below hW) f2 f3 f4 f5
        rw [ok, os] at this
        rw [hnY, hSY]
        refine this.mono ?_
        rintro e w' ⟨v', rfl, ho, hb⟩
        obtain ⟨ad, c, rfl⟩ := ho.form
        exact ⟨ad, c, rfl, ho, hb⟩
      have HSU := Lib.hid hSU
      have HSY := Lib.hid hSY
      have hd0 : ((nC : Int) == 0) = false := by simp; omega
      clear hC hnC hne ok os hCe hSU hSY hnS hnY
      obtain ⟨bc, oc, rfl, hbc, hcellC⟩ := OC.out.2 (by omega)
      have HCC := Lib.hid hcellC
      clear hcellC
      have KC : Hid (∀ W, Below w2.heap.size w2 W → ∀ i (hi : i < C.length), W.cell? ⟨bc, oc + i, none⟩ = some (.int .i64 C[i])) := fun W hW i hi => by
        rw [hW.cell (p := ⟨bc, oc + i, none⟩) hbc, HCC.out i (by rw [HNC.out]; exact hi), getD_eq C i hi]
      have CTA0 : Hid (∀ W (x : Int), Below w2.heap.size w2 W → Calls Try.prog 26 #[.agg #[.int .i64 st, .int .i64 it, .slice b2 n2 d2, .slice b3 n3 d3, .slice b4 n4 d4, .slice b5 n5 d5], .int .i64 x] W (RowRes W W.heap.size (ofL steps x ins))) := fun W x hW => by
        have := implTaken_any ⟨st, it, ins, outs, hids, steps⟩ _ x W (HR2.out.below hW) f2 f3 f4 f5
        rw [if_pos HOK.out] at this
        exact this
      have CSD0 : Hid (∀ W (x : Int), Below w2.heap.size w2 W → Calls Try.prog 28 #[.agg #[.int .i64 st, .int .i64 it, .slice b2 n2 d2, .slice b3 n3 d3, .slice b4 n4 d4, .slice b5 n5 d5], .int .i64 x] W (RowRes W W.heap.size (ofL steps x outs))) := fun W x hW => by
        have := implSaid_any ⟨st, it, ins, outs, hids, steps⟩ _ x W (HR2.out.below hW) f2 f3 f4 f5
        rw [if_pos HOK.out] at this
        exact this
      have CCX0 : Hid (∀ W (x : Int), x ∈ C → Below w2.heap.size w2 W → Calls Try.prog 22 #[.agg #[.int .i64 st, .int .i64 it, .slice b2 n2 d2, .slice b3 n3 d3, .slice b4 n4 d4, .slice b5 n5 d5], .int .i64 x] W (RowRes W W.heap.size (closeOf ⟨st, it, ins, outs, hids, steps⟩ x))) := fun W x hx hW => by
        have := implClosure_any ⟨st, it, ins, outs, hids, steps⟩ _ x W (HR2.out.below hW) f2 f3 f4 f5
        have hsx : stateB ⟨st, it, ins, outs, hids, steps⟩ x = true := close_states HOK.out HOS.out x (by rw [← HCE.out]; exact hx)
        rw [HOK.out, hsx] at this
        exact this
      go_wp2_with fail
      refine wp_region_held_drew (S := fun w' => Below w2.heap.size w2 w' ∧ w'.cell? ⟨w1.heap.size, 0, none⟩ = some (.int .i64 st) ∧ w'.cell? ⟨w1.heap.size, 1, none⟩ = some (.int .i64 it) ∧ w'.cell? ⟨w1.heap.size, 2, none⟩ = some (.slice b2 n2 d2) ∧ w'.cell? ⟨w1.heap.size, 3, none⟩ = some (.slice b3 n3 d3) ∧ w'.cell? ⟨w1.heap.size, 4, none⟩ = some (.slice b4 n4 d4) ∧ w'.cell? ⟨w1.heap.size, 5, none⟩ = some (.slice b5 n5 d5)) (by kernel_rfl) S0 (fun hHeld => ?_)
      change wpAnyH _ _ _ _ _ 8 (Array.replicate 8 false) _ _
      refine take_op 0 42 (.agg #[.int .i64 st, .int .i64 it, .slice b2 n2 d2, .slice b3 n3 d3, .slice b4 n4 d4, .slice b5 n5 d5]) (fuel := 7) rfl rfl (by kernel_rfl) (by kernel_rfl) (by kernel_rfl) (fun _ _ _ h => h) (by rfl) (fun w hSw => by go_simp) hHeld ?_
      simp only [Act.put, List.setIfInBounds_toArray, List.set_cons_zero, List.set_cons_succ]
      refine take_op 1 43 (.int .i64 s) (fuel := 6) rfl rfl (by kernel_rfl) (by kernel_rfl) (by kernel_rfl) (fun _ _ _ h => h) (by rfl) (fun w hSw => by go_simp) hHeld ?_
      simp only [Act.put, List.setIfInBounds_toArray, List.set_cons_zero, List.set_cons_succ]
      refine take_op 3 45 (.agg #[.int .i64 st, .int .i64 it, .slice b2 n2 d2, .slice b3 n3 d3, .slice b4 n4 d4, .slice b5 n5 d5]) (fuel := 5) rfl rfl (by kernel_rfl) (by kernel_rfl) (by kernel_rfl) (fun _ _ _ h => h) (by rfl) (fun w hSw => by go_simp) hHeld ?_
      simp only [Act.put, List.setIfInBounds_toArray, List.set_cons_zero, List.set_cons_succ]
      refine take_op 4 46 (.int .i64 s) (fuel := 4) rfl rfl (by kernel_rfl) (by kernel_rfl) (by kernel_rfl) (fun _ _ _ h => h) (by rfl) (fun w hSw => by go_simp) hHeld ?_
      simp only [Act.put, List.setIfInBounds_toArray, List.set_cons_zero, List.set_cons_succ]
      refine wpAnyH_ready (rs := [2]) (fuel := 3) (by kernel_rfl) (by simp) ?_
      refine AllReadyH.cons rfl (fun K hK => ?_) AllReadyH.nil
      go_simp
      refine (CSU.out _ S0.1).mono ?_
      rintro e w5 ⟨a5, c5, rfl, ho5, hb5⟩
      have B5 := Lib.hid (S0.1.trans (hb5.mono S0.1.size))
      have O5 := Lib.hid ho5
      clear ho5 hb5
      go_wp2_with fail
      refine hK.out _ _ ⟨B5.out, KS.out _ B5.out⟩ (fun hHeld => ?_)
      clear hK K
      refine wpAnyH_ready (rs := [5]) (fuel := 2) (by kernel_rfl) (by simp) ?_
      refine AllReadyH.cons rfl (fun K hK => ?_) AllReadyH.nil
      go_simp
      refine (CSA.out _ B5.out).mono ?_
      rintro e w6 ⟨a6, c6, rfl, ho6, hb6⟩
      have B6 := Lib.hid (B5.out.trans (hb6.mono B5.out.size))
      have OS6 := Lib.hid (O5.out.below hb6)
      have OY6 := Lib.hid ho6
      clear ho6 hb6 O5
      go_wp2_with fail
      refine hK.out _ _ ⟨B6.out, KS.out _ B6.out⟩ (fun hHeld => ?_)
      clear hK K
      refine take_op 6 6 (.slice a5 nS c5) (fuel := 1) rfl rfl (by kernel_rfl) (by kernel_rfl) (by kernel_rfl) (fun _ _ _ h => h) (by rfl) (fun w hSw => by go_simp) hHeld ?_
      simp only [Act.put, List.setIfInBounds_toArray, List.set_cons_zero, List.set_cons_succ]
      refine take_op 7 7 (.slice a6 nY c6) (fuel := 0) rfl rfl (by kernel_rfl) (by kernel_rfl) (by kernel_rfl) (fun _ _ _ h => h) (by rfl) (fun w hSw => by go_simp) hHeld ?_
      simp only [Act.put, List.setIfInBounds_toArray, List.set_cons_zero, List.set_cons_succ]
      refine wpAnyH_done (by kernel_rfl) ?_ _
      clear hHeld S0
      have BD0 : Hid (Owns (w6.alloc (.cells #[] 3)) w2.heap.size (.slice (some ⟨w6.heap.size, 0, none⟩) 0 0) 0 []) := (owns_lit w6 [] 0 rfl (by unfold maxLen; omega)).mono B6.out.size
      have BL6 : Hid (Below w2.heap.size w2 (w6.alloc (.cells #[] 3))) := B6.out.alloc B6.out.size _
      have RSU := Lib.hid OS6.out.row.2.2.2
      have RSY := Lib.hid OY6.out.row.2.2.2
      go_wp2_with fail
      go_loopw [8, 9] (fun dv iv wr => ∃ (i gd cd nd : Nat) (T : List Int), i ≤ nC ∧ dv = .slice (some ⟨gd, 0, none⟩) nd cd ∧ iv = .int .i64 (i : Int) ∧ Hid (Owns wr w2.heap.size (.slice (some ⟨gd, 0, none⟩) nd cd) nd T) ∧ Hid (T = (C.take i).foldl (fun o x => joinOf o (ofL steps x outs)) []) ∧ Hid (Below w6.heap.size w6 wr)) (fun _ iv _ => nC - (intOf iv).toNat)
      case atStart => exact ⟨0, w6.heap.size, 0, 0, [], Nat.zero_le _, rfl, rfl, BD0.out, rfl, (Below.refl _ _).alloc (Nat.le_refl _) _⟩
      case round =>
        obtain ⟨i, gd, cd, nd, T, hi, rfl, rfl, OD, HT, HB⟩ := hrel
        clear BD0 BL6
        have hnd : nd ≤ 1048576 := by
          have h1 := sayN_len steps outs (C.take i)
          rw [← HT.out, OD.out.length] at h1
          omega
        have BR : Hid (Below w2.heap.size w2 wr) := B6.out.trans (HB.out.mono B6.out.size)
        by_cases hlt : i < nC
        · have hiC : i < C.length := by rw [← HNC.out]; exact hlt
          obtain ⟨x, hx⟩ : ∃ x, x = C[i] := ⟨_, rfl⟩
          have hxm : x ∈ C := by rw [hx]; exact List.getElem_mem hiC
          obtain ⟨TK, hTK⟩ : ∃ L, L = ofL steps x ins := ⟨_, rfl⟩
          obtain ⟨nT, hnT⟩ : ∃ n, n = TK.length := ⟨_, rfl⟩
          obtain ⟨A, hA⟩ : ∃ L, L = ofL steps x outs := ⟨_, rfl⟩
          obtain ⟨nA, hnA⟩ : ∃ n, n = A.length := ⟨_, rfl⟩
          obtain ⟨CX, hCX⟩ : ∃ L, L = closeOf ⟨st, it, ins, outs, hids, steps⟩ x := ⟨_, rfl⟩
          obtain ⟨nX, hnX⟩ : ∃ n, n = CX.length := ⟨_, rfl⟩
          have hnT2 : nT ≤ 1000 := by rw [hnT, hTK]; exact Nat.le_trans (ofN_len _ _ _) k5
          have hnA2 : nA ≤ 1000 := by rw [hnA, hA]; exact Nat.le_trans (ofN_len _ _ _) k5
          have hnX2 : nX ≤ 1001 := by rw [hnX, hCX]; exact Nat.le_trans (close_len _ _) (Nat.succ_le_succ k5)
          have KS2 : Hid (∀ W, Below w2.heap.size w2 W → W.cell? ⟨w1.heap.size, 0, none⟩ = some (.int .i64 st) ∧ W.cell? ⟨w1.heap.size, 1, none⟩ = some (.int .i64 it) ∧ W.cell? ⟨w1.heap.size, 2, none⟩ = some (.slice b2 n2 d2) ∧ W.cell? ⟨w1.heap.size, 3, none⟩ = some (.slice b3 n3 d3) ∧ W.cell? ⟨w1.heap.size, 4, none⟩ = some (.slice b4 n4 d4) ∧ W.cell? ⟨w1.heap.size, 5, none⟩ = some (.slice b5 n5 d5) ∧ W.cell? ⟨bc, oc + i, none⟩ = some (.int .i64 x)) := fun W hW => by
            obtain ⟨q0, q1, q2, q3, q4, q5⟩ := KS.out W hW
            exact ⟨q0, q1, q2, q3, q4, q5, by rw [hx]; exact KC.out W hW i hiC⟩
          have CTA : Hid (∀ W, Below w2.heap.size w2 W → Calls Try.prog 26 #[.agg #[.int .i64 st, .int .i64 it, .slice b2 n2 d2, .slice b3 n3 d3, .slice b4 n4 d4, .slice b5 n5 d5], .int .i64 x] W fun e w' => ∃ ad c, e = .returned (.slice ad nT c) ∧ Owns w' W.heap.size (.slice ad nT c) nT TK ∧ Below W.heap.size W w') := fun W hW => by
            rw [hnT, hTK]
            refine (CTA0.out W x hW).mono ?_
            rintro e w' ⟨v', rfl, ho, hb⟩
            obtain ⟨ad, c, rfl⟩ := ho.form
            exact ⟨ad, c, rfl, ho, hb⟩
          have CSD : Hid (∀ W, Below w2.heap.size w2 W → Calls Try.prog 28 #[.agg #[.int .i64 st, .int .i64 it, .slice b2 n2 d2, .slice b3 n3 d3, .slice b4 n4 d4, .slice b5 n5 d5], .int .i64 x] W fun e w' => ∃ ad c, e = .returned (.slice ad nA c) ∧ Owns w' W.heap.size (.slice ad nA c) nA A ∧ Below W.heap.size W w') := fun W hW => by
            rw [hnA, hA]
            refine (CSD0.out W x hW).mono ?_
            rintro e w' ⟨v', rfl, ho, hb⟩
            obtain ⟨ad, c, rfl⟩ := ho.form
            exact ⟨ad, c, rfl, ho, hb⟩
          have CCX : Hid (∀ W, Below w2.heap.size w2 W → Calls Try.prog 22 #[.agg #[.int .i64 st, .int .i64 it, .slice b2 n2 d2, .slice b3 n3 d3, .slice b4 n4 d4, .slice b5 n5 d5], .int .i64 x] W fun e w' => ∃ ad c, e = .returned (.slice ad nX c) ∧ Owns w' W.heap.size (.slice ad nX c) nX CX ∧ Below W.heap.size W w') := fun W hW => by
            rw [hnX, hCX]
            refine (CCX0.out W x hxm hW).mono ?_
            rintro e w' ⟨v', rfl, ho, hb⟩
            obtain ⟨ad, c, rfl⟩ := ho.form
            exact ⟨ad, c, rfl, ho, hb⟩
          have RSW : Hid (∀ W, Below wr.heap.size wr W → Row W a5 nS SU) := fun W hW => RSU.out.below (HB.out.trans (hW.mono HB.out.size))
          have CI1 : Hid (∀ W ad c, Below wr.heap.size wr W → Row W ad nT TK → Calls Try.prog 25 #[.slice a5 nS c5, .slice ad nT c] W fun e w' => e = .returned (.bool true) ∧ W = w') := fun W ad c hW hr => by
            have := specSetIn_any a5 ad nS c5 nT c SU TK W (RSW.out W hW) hr (by omega) (by omega)
            have e1 : inB SU TK = true := by rw [HSU.out, hTK]; exact sure_in (a := ⟨st, it, ins, outs, hids, steps⟩) (by rw [← HCE.out]; exact hxm)
            rw [e1] at this
            exact this.mono fun _ _ h => ⟨h.1, h.2.symm⟩
          have CI2 : Hid (∀ W ad c, Below w2.heap.size w2 W → Row W ad nX CX → Calls Try.prog 25 #[.slice ad nX c, .slice (some ⟨bc, oc, none⟩) nC cc] W fun e w' => e = .returned (.bool true) ∧ W = w') := fun W ad c hW hr => by
            have := specSetIn_any ad (some ⟨bc, oc, none⟩) nX c nC cc CX C W hr (OC.out.below hW) (by omega) (by omega)
            have e1 : inB CX C = true := by rw [HCE.out, hCX]; exact close_in_close (a := ⟨st, it, ins, outs, hids, steps⟩) (by rw [← HCE.out]; exact hxm)
            rw [e1] at this
            exact this.mono fun _ _ h => ⟨h.1, h.2.symm⟩
          have HST : Hid (joinOf T A = (C.take (i + 1)).foldl (fun o x => joinOf o (ofL steps x outs)) []) := by
            unfold Hid
            rw [List.take_succ_eq_append_getElem hiC, List.foldl_append, ← HT.out, ← hx, hA]
            rfl
          have HIN := Lib.hid hiC
          clear hx hTK hnT hA hnA hCX hnX hxm hiC
          obtain ⟨nd2, hnd2⟩ : ∃ n, n = (joinOf T A).length := ⟨_, rfl⟩
          have S0 : Below w2.heap.size w2 wr.drew ∧ wr.drew.cell? ⟨w1.heap.size, 0, none⟩ = some (.int .i64 st) ∧ wr.drew.cell? ⟨w1.heap.size, 1, none⟩ = some (.int .i64 it) ∧ wr.drew.cell? ⟨w1.heap.size, 2, none⟩ = some (.slice b2 n2 d2) ∧ wr.drew.cell? ⟨w1.heap.size, 3, none⟩ = some (.slice b3 n3 d3) ∧ wr.drew.cell? ⟨w1.heap.size, 4, none⟩ = some (.slice b4 n4 d4) ∧ wr.drew.cell? ⟨w1.heap.size, 5, none⟩ = some (.slice b5 n5 d5) ∧ wr.drew.cell? ⟨bc, oc + i, none⟩ = some (.int .i64 x) := ⟨BR.out.drew, KS2.out _ BR.out.drew⟩
          have BWR : Hid (Below wr.heap.size wr wr.drew) := (Below.refl _ _).drew
          go_wp2_with fail
          refine wp_region_held_drew (S := fun w' => Below w2.heap.size w2 w' ∧ w'.cell? ⟨w1.heap.size, 0, none⟩ = some (.int .i64 st) ∧ w'.cell? ⟨w1.heap.size, 1, none⟩ = some (.int .i64 it) ∧ w'.cell? ⟨w1.heap.size, 2, none⟩ = some (.slice b2 n2 d2) ∧ w'.cell? ⟨w1.heap.size, 3, none⟩ = some (.slice b3 n3 d3) ∧ w'.cell? ⟨w1.heap.size, 4, none⟩ = some (.slice b4 n4 d4) ∧ w'.cell? ⟨w1.heap.size, 5, none⟩ = some (.slice b5 n5 d5) ∧ w'.cell? ⟨bc, oc + i, none⟩ = some (.int .i64 x)) (by kernel_rfl) S0 (fun hHeld => ?_)
          change wpAnyH _ _ _ _ _ 20 (Array.replicate 20 false) _ _
          refine take_op 0 55 (.slice a5 nS c5) (fuel := 19) rfl rfl (by kernel_rfl) (by kernel_rfl) (by kernel_rfl) (fun _ _ _ h => h) (by rfl) (fun w hSw => by go_simp) hHeld ?_
          simp only [Act.put, List.setIfInBounds_toArray, List.set_cons_zero, List.set_cons_succ]
          refine take_op 1 56 (.agg #[.int .i64 st, .int .i64 it, .slice b2 n2 d2, .slice b3 n3 d3, .slice b4 n4 d4, .slice b5 n5 d5]) (fuel := 18) rfl rfl (by kernel_rfl) (by kernel_rfl) (by kernel_rfl) (fun _ _ _ h => h) (by rfl) (fun w hSw => by go_simp) hHeld ?_
          simp only [Act.put, List.setIfInBounds_toArray, List.set_cons_zero, List.set_cons_succ]
          refine take_op 2 57 (.slice (some ⟨bc, oc, none⟩) nC cc) (fuel := 17) rfl rfl (by kernel_rfl) (by kernel_rfl) (by kernel_rfl) (fun _ _ _ h => h) (by rfl) (fun w hSw => by go_simp) hHeld ?_
          simp only [Act.put, List.setIfInBounds_toArray, List.set_cons_zero, List.set_cons_succ]
          refine take_op 3 58 (.int .i64 (i : Int)) (fuel := 16) rfl rfl (by kernel_rfl) (by kernel_rfl) (by kernel_rfl) (fun _ _ _ h => h) (by rfl) (fun w hSw => by go_simp) hHeld ?_
          simp only [Act.put, List.setIfInBounds_toArray, List.set_cons_zero, List.set_cons_succ]
          refine take_op 4 59 (.pointer (some ⟨bc, oc + i, none⟩)) (fuel := 15) rfl rfl (by kernel_rfl) (by kernel_rfl) (by kernel_rfl) (fun _ _ _ h => h) (by rfl) (fun w hSw => by go_simp) hHeld ?_
          simp only [Act.put, List.setIfInBounds_toArray, List.set_cons_zero, List.set_cons_succ]
          refine take_op 5 60 (.int .i64 x) (fuel := 14) rfl rfl (by kernel_rfl) (by kernel_rfl) (by kernel_rfl) (fun _ _ _ h => h) (by rfl) (fun w hSw => by go_simp) hHeld ?_
          simp only [Act.put, List.setIfInBounds_toArray, List.set_cons_zero, List.set_cons_succ]
          refine wpAnyH_ready (rs := [6]) (fuel := 13) (by kernel_rfl) (by simp) ?_
          refine AllReadyH.cons rfl (fun K hK => ?_) AllReadyH.nil
          go_simp
          refine (CTA.out _ S0.1).mono ?_
          rintro e w7 ⟨a7, c7, rfl, ho7, hb7⟩
          have B7 := Lib.hid (S0.1.trans (hb7.mono S0.1.size))
          have R7 := Lib.hid ho7.row.2.2.2
          have BW7 := Lib.hid (BWR.out.trans (hb7.mono BWR.out.size))
          clear ho7 hb7
          go_wp2_with fail
          refine hK.out _ _ ⟨B7.out, KS2.out _ B7.out⟩ (fun hHeld => ?_)
          clear hK K
          refine wpAnyH_ready (rs := [7]) (fuel := 12) (by kernel_rfl) (by simp) ?_
          refine AllReadyH.cons rfl (fun K hK => ?_) AllReadyH.nil
          go_simp
          refine (CI1.out _ _ _ BW7.out R7.out).mono ?_
          rintro e w8 ⟨rfl, rfl⟩
          go_wp2_with fail
          refine hK.out _ _ hHeld (fun hHeld => ?_)
          clear hK K
          refine take_op 8 63 (.bool false) (fuel := 11) rfl rfl (by kernel_rfl) (by kernel_rfl) (by kernel_rfl) (fun _ _ _ h => h) (by rfl) (fun w hSw => by go_simp) hHeld ?_
          simp only [Act.put, List.setIfInBounds_toArray, List.set_cons_zero, List.set_cons_succ]
          refine take_op 9 64 (.bool false) (fuel := 10) rfl rfl (by kernel_rfl) (by kernel_rfl) (by kernel_rfl) (fun _ _ _ h => h) (by rfl) (fun w hSw => by go_simp) hHeld ?_
          simp only [Act.put, List.setIfInBounds_toArray, List.set_cons_zero, List.set_cons_succ]
          refine take_op 10 65 (.agg #[.int .i64 st, .int .i64 it, .slice b2 n2 d2, .slice b3 n3 d3, .slice b4 n4 d4, .slice b5 n5 d5]) (fuel := 9) rfl rfl (by kernel_rfl) (by kernel_rfl) (by kernel_rfl) (fun _ _ _ h => h) (by rfl) (fun w hSw => by go_simp) hHeld ?_
          simp only [Act.put, List.setIfInBounds_toArray, List.set_cons_zero, List.set_cons_succ]
          refine take_op 11 66 (.slice (some ⟨bc, oc, none⟩) nC cc) (fuel := 8) rfl rfl (by kernel_rfl) (by kernel_rfl) (by kernel_rfl) (fun _ _ _ h => h) (by rfl) (fun w hSw => by go_simp) hHeld ?_
          simp only [Act.put, List.setIfInBounds_toArray, List.set_cons_zero, List.set_cons_succ]
          refine take_op 12 67 (.int .i64 (i : Int)) (fuel := 7) rfl rfl (by kernel_rfl) (by kernel_rfl) (by kernel_rfl) (fun _ _ _ h => h) (by rfl) (fun w hSw => by go_simp) hHeld ?_
          simp only [Act.put, List.setIfInBounds_toArray, List.set_cons_zero, List.set_cons_succ]
          refine take_op 16 71 (.slice (some ⟨bc, oc, none⟩) nC cc) (fuel := 6) rfl rfl (by kernel_rfl) (by kernel_rfl) (by kernel_rfl) (fun _ _ _ h => h) (by rfl) (fun w hSw => by go_simp) hHeld ?_
          simp only [Act.put, List.setIfInBounds_toArray, List.set_cons_zero, List.set_cons_succ]
          refine take_op 13 68 (.pointer (some ⟨bc, oc + i, none⟩)) (fuel := 5) rfl rfl (by kernel_rfl) (by kernel_rfl) (by kernel_rfl) (fun _ _ _ h => h) (by rfl) (fun w hSw => by go_simp) hHeld ?_
          simp only [Act.put, List.setIfInBounds_toArray, List.set_cons_zero, List.set_cons_succ]
          refine take_op 14 69 (.int .i64 x) (fuel := 4) rfl rfl (by kernel_rfl) (by kernel_rfl) (by kernel_rfl) (fun _ _ _ h => h) (by rfl) (fun w hSw => by go_simp) hHeld ?_
          simp only [Act.put, List.setIfInBounds_toArray, List.set_cons_zero, List.set_cons_succ]
          refine wpAnyH_ready (rs := [15]) (fuel := 3) (by kernel_rfl) (by simp) ?_
          refine AllReadyH.cons rfl (fun K hK => ?_) AllReadyH.nil
          go_simp
          refine (CCX.out _ B7.out).mono ?_
          rintro e w9 ⟨a9, c9, rfl, ho9, hb9⟩
          have B9 := Lib.hid (B7.out.trans (hb9.mono B7.out.size))
          have R9 := Lib.hid ho9.row.2.2.2
          have BW9 := Lib.hid (BW7.out.trans (hb9.mono BW7.out.size))
          clear ho9 hb9
          go_wp2_with fail
          refine hK.out _ _ ⟨B9.out, KS2.out _ B9.out⟩ (fun hHeld => ?_)
          clear hK K
          refine wpAnyH_ready (rs := [17]) (fuel := 2) (by kernel_rfl) (by simp) ?_
          refine AllReadyH.cons rfl (fun K hK => ?_) AllReadyH.nil
          go_simp
          refine (CI2.out _ _ _ B9.out R9.out).mono ?_
          rintro e w10 ⟨rfl, rfl⟩
          go_wp2_with fail
          refine hK.out _ _ hHeld (fun hHeld => ?_)
          clear hK K
          refine take_op 18 73 (.bool false) (fuel := 1) rfl rfl (by kernel_rfl) (by kernel_rfl) (by kernel_rfl) (fun _ _ _ h => h) (by rfl) (fun w hSw => by go_simp) hHeld ?_
          simp only [Act.put, List.setIfInBounds_toArray, List.set_cons_zero, List.set_cons_succ]
          refine take_op 19 74 (.bool false) (fuel := 0) rfl rfl (by kernel_rfl) (by kernel_rfl) (by kernel_rfl) (fun _ _ _ h => h) (by rfl) (fun w hSw => by go_simp) hHeld ?_
          simp only [Act.put, List.setIfInBounds_toArray, List.set_cons_zero, List.set_cons_succ]
          refine wpAnyH_done (by kernel_rfl) ?_ _
          clear hHeld S0
          have HND := Lib.hid hnd2
          clear hnd2
          have OD1 : Hid (Owns w9.drew w2.heap.size (.slice (some ⟨gd, 0, none⟩) nd cd) nd T) := OD.out.below (BW9.out.drew)
          have S1 : Below w2.heap.size w2 w9.drew ∧ w9.drew.cell? ⟨w1.heap.size, 0, none⟩ = some (.int .i64 st) ∧ w9.drew.cell? ⟨w1.heap.size, 1, none⟩ = some (.int .i64 it) ∧ w9.drew.cell? ⟨w1.heap.size, 2, none⟩ = some (.slice b2 n2 d2) ∧ w9.drew.cell? ⟨w1.heap.size, 3, none⟩ = some (.slice b3 n3 d3) ∧ w9.drew.cell? ⟨w1.heap.size, 4, none⟩ = some (.slice b4 n4 d4) ∧ w9.drew.cell? ⟨w1.heap.size, 5, none⟩ = some (.slice b5 n5 d5) ∧ w9.drew.cell? ⟨bc, oc + i, none⟩ = some (.int .i64 x) := ⟨B9.out.drew, KS2.out _ B9.out.drew⟩
          go_wp2_with fail
          refine wp_region_held_drew (S := fun w' => Below w2.heap.size w2 w' ∧ w'.cell? ⟨w1.heap.size, 0, none⟩ = some (.int .i64 st) ∧ w'.cell? ⟨w1.heap.size, 1, none⟩ = some (.int .i64 it) ∧ w'.cell? ⟨w1.heap.size, 2, none⟩ = some (.slice b2 n2 d2) ∧ w'.cell? ⟨w1.heap.size, 3, none⟩ = some (.slice b3 n3 d3) ∧ w'.cell? ⟨w1.heap.size, 4, none⟩ = some (.slice b4 n4 d4) ∧ w'.cell? ⟨w1.heap.size, 5, none⟩ = some (.slice b5 n5 d5) ∧ w'.cell? ⟨bc, oc + i, none⟩ = some (.int .i64 x)) (by kernel_rfl) S1 (fun hHeld => ?_)
          change wpAnyH _ _ _ _ _ 9 (Array.replicate 9 false) _ _
          refine take_op 0 75 (.slice (some ⟨gd, 0, none⟩) nd cd) (fuel := 8) rfl rfl (by kernel_rfl) (by kernel_rfl) (by kernel_rfl) (fun _ _ _ h => h) (by rfl) (fun w hSw => by go_simp) hHeld ?_
          simp only [Act.put, List.setIfInBounds_toArray, List.set_cons_zero, List.set_cons_succ]
          refine take_op 1 76 (.agg #[.int .i64 st, .int .i64 it, .slice b2 n2 d2, .slice b3 n3 d3, .slice b4 n4 d4, .slice b5 n5 d5]) (fuel := 7) rfl rfl (by kernel_rfl) (by kernel_rfl) (by kernel_rfl) (fun _ _ _ h => h) (by rfl) (fun w hSw => by go_simp) hHeld ?_
          simp only [Act.put, List.setIfInBounds_toArray, List.set_cons_zero, List.set_cons_succ]
          refine take_op 2 77 (.slice (some ⟨bc, oc, none⟩) nC cc) (fuel := 6) rfl rfl (by kernel_rfl) (by kernel_rfl) (by kernel_rfl) (fun _ _ _ h => h) (by rfl) (fun w hSw => by go_simp) hHeld ?_
          simp only [Act.put, List.setIfInBounds_toArray, List.set_cons_zero, List.set_cons_succ]
          refine take_op 3 78 (.int .i64 (i : Int)) (fuel := 5) rfl rfl (by kernel_rfl) (by kernel_rfl) (by kernel_rfl) (fun _ _ _ h => h) (by rfl) (fun w hSw => by go_simp) hHeld ?_
          simp only [Act.put, List.setIfInBounds_toArray, List.set_cons_zero, List.set_cons_succ]
          refine take_op 4 79 (.pointer (some ⟨bc, oc + i, none⟩)) (fuel := 4) rfl rfl (by kernel_rfl) (by kernel_rfl) (by kernel_rfl) (fun _ _ _ h => h) (by rfl) (fun w hSw => by go_simp) hHeld ?_
          simp only [Act.put, List.setIfInBounds_toArray, List.set_cons_zero, List.set_cons_succ]
          refine take_op 5 80 (.int .i64 x) (fuel := 3) rfl rfl (by kernel_rfl) (by kernel_rfl) (by kernel_rfl) (fun _ _ _ h => h) (by rfl) (fun w hSw => by go_simp) hHeld ?_
          simp only [Act.put, List.setIfInBounds_toArray, List.set_cons_zero, List.set_cons_succ]
          refine wpAnyH_ready (rs := [6]) (fuel := 2) (by kernel_rfl) (by simp) ?_
          refine AllReadyH.cons rfl (fun K hK => ?_) AllReadyH.nil
          go_simp
          refine (CSD.out _ S1.1).mono ?_
          rintro e w7 ⟨a7, c7, rfl, ho7, hb7⟩
          have B7 := Lib.hid (S1.1.trans (hb7.mono S1.1.size))
          have R7 := Lib.hid ho7.row.2.2.2
          have OD7 := Lib.hid (OD1.out.below hb7)
          have BV7 := Lib.hid (BW9.out.drew.trans (hb7.mono BW9.out.drew.size))
          clear ho7 hb7
          go_wp2_with fail
          refine hK.out _ _ ⟨B7.out, KS2.out _ B7.out⟩ (fun hHeld => ?_)
          clear hK K
          refine wpAnyH_ready (rs := [7]) (fuel := 1) (by kernel_rfl) (by simp) ?_
          refine AllReadyH.cons rfl (fun K hK => ?_) AllReadyH.nil
          go_simp
          refine (specSetJoin_any _ _ _ _ _ _ T A _ OD7.out.row.2.2.2 R7.out (by omega) (by omega)).mono ?_
          rintro e w8 ⟨g8, c8, rfl, ho8, hb8⟩
          have B8 := Lib.hid (B7.out.trans (hb8.mono B7.out.size))
          have OD8 := Lib.hid (ho8.mono (base := w2.heap.size) B7.out.size)
          have BV8 := Lib.hid (BV7.out.trans (hb8.mono BV7.out.size))
          clear ho8 hb8
          go_wp2_with fail
          refine hK.out _ _ ⟨B8.out, KS2.out _ B8.out⟩ (fun hHeld => ?_)
          clear hK K
          refine take_op 8 8 (.slice (some ⟨g8, 0, none⟩) (joinOf T A).length c8) (fuel := 0) rfl rfl (by kernel_rfl) (by kernel_rfl) (by kernel_rfl) (fun _ _ _ h => h) (by rfl) (fun w hSw => by go_simp) hHeld ?_
          simp only [Act.put, List.setIfInBounds_toArray, List.set_cons_zero, List.set_cons_succ]
          refine wpAnyH_done (by kernel_rfl) ?_ _
          clear hHeld S1
          go_wp2_with fail
          go_roundw
          case rel => exact ⟨i + 1, g8, c8, _, joinOf T A, by omega, rfl, by go_num, OD8.out, HST.out, HB.out.trans (BV8.out.mono HB.out.size)⟩
          case measure => simp [intOf]; omega
        · have HE : Hid (T = SY) := by
            have h1 := HT.out
            rw [List.take_of_length_le (by rw [← HNC.out]; omega)] at h1
            rw [HSY.out]
            show T = (closeOf ⟨st, it, ins, outs, hids, steps⟩ s).foldl (fun o x => joinOf o (ofL steps x outs)) []
            rw [← HCE.out]
            exact h1
          have ODY : Hid (Owns wr w2.heap.size (.slice (some ⟨gd, 0, none⟩) nd cd) nd SY) := by
            have h1 := OD.out
            rw [HE.out] at h1
            exact h1
          clear HT HE OD BR CSU CSA
          have HB0 := Lib.hid HB.out
          go_wp2_with fail
          go_loopw [10] (fun kv wq => ∃ k : Nat, k ≤ n2 ∧ kv = .int .i64 (k : Int) ∧ Hid (Below w6.heap.size w6 wq) ∧ Hid (Owns wq w2.heap.size (.slice (some ⟨gd, 0, none⟩) nd cd) nd SY)) (fun kv _ => n2 - (intOf kv).toNat)
          case atStart => exact ⟨0, Nat.zero_le _, rfl, HB0.out, ODY.out⟩
          case round =>
            obtain ⟨k, hk, rfl, HBQ, ODQ⟩ := hrel
            clear HB HB0 ODY
            have BQ : Hid (Below w2.heap.size w2 wr) := B6.out.trans (HBQ.out.mono B6.out.size)
            by_cases hltk : k < n2
            · obtain ⟨bi, oi, rfl, hbi, hcellI⟩ := RI2.out.2 (by omega)
              have hkI : k < ins.length := by rw [RI2.out.1]; exact hltk
              obtain ⟨y, hy⟩ : ∃ y, y = ins[k] := ⟨_, rfl⟩
              have KI : Hid (∀ W, Below w2.heap.size w2 W → W.cell? ⟨bi, oi + k, none⟩ = some (.int .i64 y)) := fun W hW => by
                rw [hW.cell (p := ⟨bi, oi + k, none⟩) hbi, hcellI k hltk, getD_eq ins k hkI, hy]
              have HYM : Hid (y ∈ ins) := by unfold Hid; rw [hy]; exact List.getElem_mem hkI
              clear hy hcellI hkI
              have m2 := (KS.out _ BQ.out).2.2.1
              go_wp2_with fail
              clear m2
              go_loopw [11, 12] (fun av iv wq => ∃ (i : Nat) (q : Bool), i ≤ nC ∧ av = .bool q ∧ iv = .int .i64 (i : Int) ∧ Hid (q = allTaken ⟨st, it, ins, outs, hids, steps⟩ (C.take i) y) ∧ Hid (Below w6.heap.size w6 wq) ∧ Hid (Owns wq w2.heap.size (.slice (some ⟨gd, 0, none⟩) nd cd) nd SY)) (fun _ iv _ => nC - (intOf iv).toNat)
              case atStart => exact ⟨0, true, Nat.zero_le _, rfl, rfl, by simp [Hid, allTaken], HBQ.out, ODQ.out⟩
              case round =>
                obtain ⟨i, q0, hi, rfl, rfl, HQ0, HBI, ODI⟩ := hrel
                clear HBQ ODQ BQ
                have BI : Hid (Below w2.heap.size w2 wr) := B6.out.trans (HBI.out.mono B6.out.size)
                by_cases hlti : i < nC
                · have hiC : i < C.length := by rw [← HNC.out]; exact hlti
                  obtain ⟨x, hx⟩ : ∃ x, x = C[i] := ⟨_, rfl⟩
                  obtain ⟨TK, hTK⟩ : ∃ L, L = ofL steps x ins := ⟨_, rfl⟩
                  obtain ⟨nT, hnT⟩ : ∃ n, n = TK.length := ⟨_, rfl⟩
                  have hnT2 : nT ≤ 1000 := by rw [hnT, hTK]; exact Nat.le_trans (ofN_len _ _ _) k5
                  obtain ⟨q, hq⟩ : ∃ q, q = hasB TK y := ⟨_, rfl⟩
                  have HQ1 : Hid ((q0 && q) = allTaken ⟨st, it, ins, outs, hids, steps⟩ (C.take (i + 1)) y) := by
                    unfold Hid
                    rw [List.take_succ_eq_append_getElem hiC, allTaken_snoc, ← HQ0.out, ← hx, hq, hTK]
                  have KS2 : Hid (∀ W, Below w2.heap.size w2 W → W.cell? ⟨w1.heap.size, 0, none⟩ = some (.int .i64 st) ∧ W.cell? ⟨w1.heap.size, 1, none⟩ = some (.int .i64 it) ∧ W.cell? ⟨w1.heap.size, 2, none⟩ = some (.slice (some ⟨bi, oi, none⟩) n2 d2) ∧ W.cell? ⟨w1.heap.size, 3, none⟩ = some (.slice b3 n3 d3) ∧ W.cell? ⟨w1.heap.size, 4, none⟩ = some (.slice b4 n4 d4) ∧ W.cell? ⟨w1.heap.size, 5, none⟩ = some (.slice b5 n5 d5) ∧ W.cell? ⟨bc, oc + i, none⟩ = some (.int .i64 x) ∧ W.cell? ⟨bi, oi + k, none⟩ = some (.int .i64 y)) := fun W hW => by
                    obtain ⟨q0, q1, q2, q3, q4, q5⟩ := KS.out W hW
                    exact ⟨q0, q1, q2, q3, q4, q5, by rw [hx]; exact KC.out W hW i hiC, KI.out W hW⟩
                  have CTA : Hid (∀ W, Below w2.heap.size w2 W → Calls Try.prog 26 #[.agg #[.int .i64 st, .int .i64 it, .slice (some ⟨bi, oi, none⟩) n2 d2, .slice b3 n3 d3, .slice b4 n4 d4, .slice b5 n5 d5], .int .i64 x] W fun e w' => ∃ ad c, e = .returned (.slice ad nT c) ∧ Owns w' W.heap.size (.slice ad nT c) nT TK ∧ Below W.heap.size W w') := fun W hW => by
                    rw [hnT, hTK]
                    refine (CTA0.out W x hW).mono ?_
                    rintro e w' ⟨v', rfl, ho, hb⟩
                    obtain ⟨ad, c, rfl⟩ := ho.form
                    exact ⟨ad, c, rfl, ho, hb⟩
                  have CHY : Hid (∀ W ad c, Row W ad nT TK → Calls Try.prog 29 #[.slice ad nT c, .int .i64 y] W fun e w' => e = .returned (.bool q) ∧ W = w') := fun W ad c hr => by
                    rw [hq]
                    exact (specSetHas_any ad nT c y TK W hr (by omega)).mono fun _ _ h => ⟨h.1, h.2.symm⟩
                  clear hx hTK hnT hq hiC
                  have S0 : Below w2.heap.size w2 wr.drew ∧ wr.drew.cell? ⟨w1.heap.size, 0, none⟩ = some (.int .i64 st) ∧ wr.drew.cell? ⟨w1.heap.size, 1, none⟩ = some (.int .i64 it) ∧ wr.drew.cell? ⟨w1.heap.size, 2, none⟩ = some (.slice (some ⟨bi, oi, none⟩) n2 d2) ∧ wr.drew.cell? ⟨w1.heap.size, 3, none⟩ = some (.slice b3 n3 d3) ∧ wr.drew.cell? ⟨w1.heap.size, 4, none⟩ = some (.slice b4 n4 d4) ∧ wr.drew.cell? ⟨w1.heap.size, 5, none⟩ = some (.slice b5 n5 d5) ∧ wr.drew.cell? ⟨bc, oc + i, none⟩ = some (.int .i64 x) ∧ wr.drew.cell? ⟨bi, oi + k, none⟩ = some (.int .i64 y) := ⟨BI.out.drew, KS2.out _ BI.out.drew⟩
                  have BWR : Hid (Below wr.heap.size wr wr.drew) := (Below.refl _ _).drew
                  cases q0 with
                  | true =>
                    go_wp2_with fail
                    refine wp_region_held_drew (S := fun w' => Below w2.heap.size w2 w' ∧ w'.cell? ⟨w1.heap.size, 0, none⟩ = some (.int .i64 st) ∧ w'.cell? ⟨w1.heap.size, 1, none⟩ = some (.int .i64 it) ∧ w'.cell? ⟨w1.heap.size, 2, none⟩ = some (.slice (some ⟨bi, oi, none⟩) n2 d2) ∧ w'.cell? ⟨w1.heap.size, 3, none⟩ = some (.slice b3 n3 d3) ∧ w'.cell? ⟨w1.heap.size, 4, none⟩ = some (.slice b4 n4 d4) ∧ w'.cell? ⟨w1.heap.size, 5, none⟩ = some (.slice b5 n5 d5) ∧ w'.cell? ⟨bc, oc + i, none⟩ = some (.int .i64 x) ∧ w'.cell? ⟨bi, oi + k, none⟩ = some (.int .i64 y)) (by kernel_rfl) S0 (fun hHeld => ?_)
                    change wpAnyH _ _ _ _ _ 16 (Array.replicate 16 false) _ _
                    refine take_op 0 96 (.bool true) (fuel := 15) rfl rfl (by kernel_rfl) (by kernel_rfl) (by kernel_rfl) (fun _ _ _ h => h) (by rfl) (fun w hSw => by go_simp) hHeld ?_
                    simp only [Act.put, List.setIfInBounds_toArray, List.set_cons_zero, List.set_cons_succ]
                    refine take_op 1 97 (.bool true) (fuel := 14) rfl rfl (by kernel_rfl) (by kernel_rfl) (by kernel_rfl) (fun _ _ _ h => h) (by rfl) (fun w hSw => by go_simp) hHeld ?_
                    simp only [Act.put, List.setIfInBounds_toArray, List.set_cons_zero, List.set_cons_succ]
                    refine take_op 2 98 (.agg #[.int .i64 st, .int .i64 it, .slice (some ⟨bi, oi, none⟩) n2 d2, .slice b3 n3 d3, .slice b4 n4 d4, .slice b5 n5 d5]) (fuel := 13) rfl rfl (by kernel_rfl) (by kernel_rfl) (by kernel_rfl) (fun _ _ _ h => h) (by rfl) (fun w hSw => by go_simp) hHeld ?_
                    simp only [Act.put, List.setIfInBounds_toArray, List.set_cons_zero, List.set_cons_succ]
                    refine take_op 3 99 (.slice (some ⟨bc, oc, none⟩) nC cc) (fuel := 12) rfl rfl (by kernel_rfl) (by kernel_rfl) (by kernel_rfl) (fun _ _ _ h => h) (by rfl) (fun w hSw => by go_simp) hHeld ?_
                    simp only [Act.put, List.setIfInBounds_toArray, List.set_cons_zero, List.set_cons_succ]
                    refine take_op 4 100 (.int .i64 (i : Int)) (fuel := 11) rfl rfl (by kernel_rfl) (by kernel_rfl) (by kernel_rfl) (fun _ _ _ h => h) (by rfl) (fun w hSw => by go_simp) hHeld ?_
                    simp only [Act.put, List.setIfInBounds_toArray, List.set_cons_zero, List.set_cons_succ]
                    refine take_op 5 101 (.pointer (some ⟨bc, oc + i, none⟩)) (fuel := 10) rfl rfl (by kernel_rfl) (by kernel_rfl) (by kernel_rfl) (fun _ _ _ h => h) (by rfl) (fun w hSw => by go_simp) hHeld ?_
                    simp only [Act.put, List.setIfInBounds_toArray, List.set_cons_zero, List.set_cons_succ]
                    refine take_op 6 102 (.int .i64 x) (fuel := 9) rfl rfl (by kernel_rfl) (by kernel_rfl) (by kernel_rfl) (fun _ _ _ h => h) (by rfl) (fun w hSw => by go_simp) hHeld ?_
                    simp only [Act.put, List.setIfInBounds_toArray, List.set_cons_zero, List.set_cons_succ]
                    refine take_op 8 104 (.pointer (some ⟨w1.heap.size, 2, none⟩)) (fuel := 8) rfl rfl (by kernel_rfl) (by kernel_rfl) (by kernel_rfl) (fun _ _ _ h => h) (by rfl) (fun w hSw => by go_simp) hHeld ?_
                    simp only [Act.put, List.setIfInBounds_toArray, List.set_cons_zero, List.set_cons_succ]
                    refine take_op 9 105 (.slice (some ⟨bi, oi, none⟩) n2 d2) (fuel := 7) rfl rfl (by kernel_rfl) (by kernel_rfl) (by kernel_rfl) (fun _ _ _ h => h) (by rfl) (fun w hSw => by go_simp) hHeld ?_
                    simp only [Act.put, List.setIfInBounds_toArray, List.set_cons_zero, List.set_cons_succ]
                    refine take_op 10 106 (.int .i64 (k : Int)) (fuel := 6) rfl rfl (by kernel_rfl) (by kernel_rfl) (by kernel_rfl) (fun _ _ _ h => h) (by rfl) (fun w hSw => by go_simp) hHeld ?_
                    simp only [Act.put, List.setIfInBounds_toArray, List.set_cons_zero, List.set_cons_succ]
                    refine take_op 11 107 (.pointer (some ⟨bi, oi + k, none⟩)) (fuel := 5) rfl rfl (by kernel_rfl) (by kernel_rfl) (by kernel_rfl) (fun _ _ _ h => h) (by rfl) (fun w hSw => by go_simp) hHeld ?_
                    simp only [Act.put, List.setIfInBounds_toArray, List.set_cons_zero, List.set_cons_succ]
                    refine take_op 12 108 (.int .i64 y) (fuel := 4) rfl rfl (by kernel_rfl) (by kernel_rfl) (by kernel_rfl) (fun _ _ _ h => h) (by rfl) (fun w hSw => by go_simp) hHeld ?_
                    simp only [Act.put, List.setIfInBounds_toArray, List.set_cons_zero, List.set_cons_succ]
                    refine wpAnyH_ready (rs := [7]) (fuel := 3) (by kernel_rfl) (by simp) ?_
                    refine AllReadyH.cons rfl (fun K hK => ?_) AllReadyH.nil
                    go_simp
                    refine (CTA.out _ S0.1).mono ?_
                    rintro e w7 ⟨a7, c7, rfl, ho7, hb7⟩
                    have B7 := Lib.hid (S0.1.trans (hb7.mono S0.1.size))
                    have R7 := Lib.hid ho7.row.2.2.2
                    have BW7 := Lib.hid (BWR.out.trans (hb7.mono BWR.out.size))
                    clear ho7 hb7
                    go_wp2_with fail
                    refine hK.out _ _ ⟨B7.out, KS2.out _ B7.out⟩ (fun hHeld => ?_)
                    clear hK K
                    refine wpAnyH_ready (rs := [13]) (fuel := 2) (by kernel_rfl) (by simp) ?_
                    refine AllReadyH.cons rfl (fun K hK => ?_) AllReadyH.nil
                    go_simp
                    refine (CHY.out _ _ _ R7.out).mono ?_
                    rintro e w8 ⟨rfl, rfl⟩
                    go_wp2_with fail
                    refine hK.out _ _ hHeld (fun hHeld => ?_)
                    clear hK K
                    refine take_op 14 110 (.bool q) (fuel := 1) rfl rfl (by kernel_rfl) (by kernel_rfl) (by kernel_rfl) (fun _ _ _ h => h) (by rfl) (fun w hSw => by go_simp) hHeld ?_
                    simp only [Act.put, List.setIfInBounds_toArray, List.set_cons_zero, List.set_cons_succ]
                    refine take_op 15 11 (.bool q) (fuel := 0) rfl rfl (by kernel_rfl) (by kernel_rfl) (by kernel_rfl) (fun _ _ _ h => h) (by rfl) (fun w hSw => by go_simp) hHeld ?_
                    simp only [Act.put, List.setIfInBounds_toArray, List.set_cons_zero, List.set_cons_succ]
                    refine wpAnyH_done (by kernel_rfl) ?_ _
                    clear hHeld S0
                    have B8 := Lib.hid (HBI.out.trans (BW7.out.mono HBI.out.size))
                    have O8 := Lib.hid (ODI.out.below BW7.out)
                    go_wp2_with fail
                    go_roundw
                    case rel => exact ⟨i + 1, q, by omega, rfl, by go_num, HQ1.out, B8.out, O8.out⟩
                    case measure => simp [intOf]; omega
                  | false =>
                    go_wp2_with fail
                    refine wp_region_held_drew (S := fun w' => Below w2.heap.size w2 w' ∧ w'.cell? ⟨w1.heap.size, 0, none⟩ = some (.int .i64 st) ∧ w'.cell? ⟨w1.heap.size, 1, none⟩ = some (.int .i64 it) ∧ w'.cell? ⟨w1.heap.size, 2, none⟩ = some (.slice (some ⟨bi, oi, none⟩) n2 d2) ∧ w'.cell? ⟨w1.heap.size, 3, none⟩ = some (.slice b3 n3 d3) ∧ w'.cell? ⟨w1.heap.size, 4, none⟩ = some (.slice b4 n4 d4) ∧ w'.cell? ⟨w1.heap.size, 5, none⟩ = some (.slice b5 n5 d5) ∧ w'.cell? ⟨bc, oc + i, none⟩ = some (.int .i64 x) ∧ w'.cell? ⟨bi, oi + k, none⟩ = some (.int .i64 y)) (by kernel_rfl) S0 (fun hHeld => ?_)
                    change wpAnyH _ _ _ _ _ 16 (Array.replicate 16 false) _ _
                    refine take_op 0 96 (.bool false) (fuel := 15) rfl rfl (by kernel_rfl) (by kernel_rfl) (by kernel_rfl) (fun _ _ _ h => h) (by rfl) (fun w hSw => by go_simp) hHeld ?_
                    simp only [Act.put, List.setIfInBounds_toArray, List.set_cons_zero, List.set_cons_succ]
                    refine take_op 1 97 (.bool false) (fuel := 14) rfl rfl (by kernel_rfl) (by kernel_rfl) (by kernel_rfl) (fun _ _ _ h => h) (by rfl) (fun w hSw => by go_simp) hHeld ?_
                    simp only [Act.put, List.setIfInBounds_toArray, List.set_cons_zero, List.set_cons_succ]
                    refine skip_op 2 98 (fuel := 13) rfl rfl (by kernel_rfl) (by kernel_rfl) (by kernel_rfl) (fun _ _ _ h => h) (by rfl) hHeld ?_
                    simp only [Act.put, List.setIfInBounds_toArray, List.set_cons_zero, List.set_cons_succ]
                    refine skip_op 3 99 (fuel := 12) rfl rfl (by kernel_rfl) (by kernel_rfl) (by kernel_rfl) (fun _ _ _ h => h) (by rfl) hHeld ?_
                    simp only [Act.put, List.setIfInBounds_toArray, List.set_cons_zero, List.set_cons_succ]
                    refine skip_op 4 100 (fuel := 11) rfl rfl (by kernel_rfl) (by kernel_rfl) (by kernel_rfl) (fun _ _ _ h => h) (by rfl) hHeld ?_
                    simp only [Act.put, List.setIfInBounds_toArray, List.set_cons_zero, List.set_cons_succ]
                    refine skip_op 5 101 (fuel := 10) rfl rfl (by kernel_rfl) (by kernel_rfl) (by kernel_rfl) (fun _ _ _ h => h) (by rfl) hHeld ?_
                    simp only [Act.put, List.setIfInBounds_toArray, List.set_cons_zero, List.set_cons_succ]
                    refine skip_op 6 102 (fuel := 9) rfl rfl (by kernel_rfl) (by kernel_rfl) (by kernel_rfl) (fun _ _ _ h => h) (by rfl) hHeld ?_
                    simp only [Act.put, List.setIfInBounds_toArray, List.set_cons_zero, List.set_cons_succ]
                    refine skip_op 7 103 (fuel := 8) rfl rfl (by kernel_rfl) (by kernel_rfl) (by kernel_rfl) (fun _ _ _ h => h) (by rfl) hHeld ?_
                    simp only [Act.put, List.setIfInBounds_toArray, List.set_cons_zero, List.set_cons_succ]
                    refine skip_op 8 104 (fuel := 7) rfl rfl (by kernel_rfl) (by kernel_rfl) (by kernel_rfl) (fun _ _ _ h => h) (by rfl) hHeld ?_
                    simp only [Act.put, List.setIfInBounds_toArray, List.set_cons_zero, List.set_cons_succ]
                    refine skip_op 9 105 (fuel := 6) rfl rfl (by kernel_rfl) (by kernel_rfl) (by kernel_rfl) (fun _ _ _ h => h) (by rfl) hHeld ?_
                    simp only [Act.put, List.setIfInBounds_toArray, List.set_cons_zero, List.set_cons_succ]
                    refine skip_op 10 106 (fuel := 5) rfl rfl (by kernel_rfl) (by kernel_rfl) (by kernel_rfl) (fun _ _ _ h => h) (by rfl) hHeld ?_
                    simp only [Act.put, List.setIfInBounds_toArray, List.set_cons_zero, List.set_cons_succ]
                    refine skip_op 11 107 (fuel := 4) rfl rfl (by kernel_rfl) (by kernel_rfl) (by kernel_rfl) (fun _ _ _ h => h) (by rfl) hHeld ?_
                    simp only [Act.put, List.setIfInBounds_toArray, List.set_cons_zero, List.set_cons_succ]
                    refine skip_op 12 108 (fuel := 3) rfl rfl (by kernel_rfl) (by kernel_rfl) (by kernel_rfl) (fun _ _ _ h => h) (by rfl) hHeld ?_
                    simp only [Act.put, List.setIfInBounds_toArray, List.set_cons_zero, List.set_cons_succ]
                    refine skip_op 13 109 (fuel := 2) rfl rfl (by kernel_rfl) (by kernel_rfl) (by kernel_rfl) (fun _ _ _ h => h) (by rfl) hHeld ?_
                    simp only [Act.put, List.setIfInBounds_toArray, List.set_cons_zero, List.set_cons_succ]
                    refine take_op 14 110 (.bool false) (fuel := 1) rfl rfl (by kernel_rfl) (by kernel_rfl) (by kernel_rfl) (fun _ _ _ h => h) (by rfl) (fun w hSw => by go_simp) hHeld ?_
                    simp only [Act.put, List.setIfInBounds_toArray, List.set_cons_zero, List.set_cons_succ]
                    refine take_op 15 11 (.bool false) (fuel := 0) rfl rfl (by kernel_rfl) (by kernel_rfl) (by kernel_rfl) (fun _ _ _ h => h) (by rfl) (fun w hSw => by go_simp) hHeld ?_
                    simp only [Act.put, List.setIfInBounds_toArray, List.set_cons_zero, List.set_cons_succ]
                    refine wpAnyH_done (by kernel_rfl) ?_ _
                    clear hHeld S0
                    have B8 : Hid (Below w6.heap.size w6 wr.drew) := HBI.out.drew
                    have O8 := Lib.hid (ODI.out.below BWR.out)
                    go_wp2_with fail
                    go_roundw
                    case rel => exact ⟨i + 1, false, by omega, rfl, by go_num, HQ1.out, B8.out, O8.out⟩
                    case measure => simp [intOf]; omega
                · have HQE : Hid (hasB SU y = q0) := by
                    have h1 := HQ0.out
                    rw [List.take_of_length_le (by rw [← HNC.out]; omega), HCE.out, allTaken_sure HYM.out] at h1
                    rw [h1, HSU.out]
                    rfl
                  have CHS : Hid (Calls Try.prog 29 #[.slice a5 nS c5, .int .i64 y] wr fun e w' => e = .returned (.bool q0) ∧ wr = w') := by
                    unfold Hid
                    rw [← HQE.out]
                    exact (specSetHas_any a5 nS c5 y SU wr (RSU.out.below HBI.out) (by omega)).mono fun _ _ h => ⟨h.1, h.2.symm⟩
                  have m2 := (KS.out _ BI.out).2.2.1
                  have my := KI.out _ BI.out
                  cases q0 with
                  | true =>
                    go_wp2_with fail
                    refine CHS.out.mono ?_
                    rintro e w' ⟨rfl, rfl⟩
                    go_wp2_with fail
                    go_roundw
                    case rel => exact ⟨k + 1, by omega, by go_num, HBI.out, ODI.out⟩
                    case measure => simp [intOf]; omega
                  | false =>
                    go_wp2_with fail
                    refine CHS.out.mono ?_
                    rintro e w' ⟨rfl, rfl⟩
                    go_wp2_with fail
                    go_roundw
                    case rel => exact ⟨k + 1, by omega, by go_num, HBI.out, ODI.out⟩
                    case measure => simp [intOf]; omega
            · have m2 := (KS.out _ BQ.out).2.2.1
              go_wp2_with fail
              clear m2
              refine (same_eq (some ⟨gd, 0, none⟩) a6 nd cd nY c6 SY _ ODQ.out.row.2.2.2 (RSY.out.below HBQ.out) (by omega)).mono ?_
              rintro e w9 ⟨rfl, hb⟩
              have B9 : Hid (Below w2.heap.size w2 w9) := BQ.out.trans (hb.mono BQ.out.size)
              have CHC : Hid (Calls Try.prog 29 #[.slice (some ⟨bc, oc, none⟩) nC cc, .int .i64 s] w9 fun e w' => e = .returned (.bool true) ∧ w9 = w') := by
                have h1 : hasB C s = true := hasB_mem.2 (by rw [HCE.out]; exact close_self _ _)
                unfold Hid
                rw [← h1]
                exact (specSetHas_any (some ⟨bc, oc, none⟩) nC cc s C w9 (OC.out.below B9.out) (by omega)).mono fun _ _ h => ⟨h.1, h.2.symm⟩
              clear hb
              go_wp2_with fail
              refine CHC.out.mono ?_
              rintro e w' ⟨rfl, rfl⟩
              go_wp2_with fail
              go_ret
              exact ⟨rfl, BW2.out.trans (B9.out.mono BW2.out.size)⟩

end Go.Proofs.Ytfhfmblghihinab
