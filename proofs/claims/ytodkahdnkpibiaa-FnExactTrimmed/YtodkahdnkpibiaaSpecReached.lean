/-
  The contract of the model's Reached. Conditions: the automaton's lists have at most 2^20 elements.
-/
import Derived.Test.YtodkahdnkpibiaaAlong
import Derived.Test.YtodkahdnkpibiaaActs
import Derived.Test.YtodkahdnkpibiaaRegion
namespace Go.Proofs.Ytodkahdnkpibiaa
open Go.RowKit

theorem row_lit1 (W0 : World) (x : Int) (g : Nat) (hg : g = W0.heap.size) : Row (W0.alloc (.cells #[.int .i64 x] 3)) (some ⟨g, 0, none⟩) 1 [x] := by
  subst hg
  exact (owns_lit W0 [x] 1 rfl (by unfold maxLen; omega)).row.2.2.2

theorem reached_len (a : IaD) (f5 : a.steps.length ≤ 1048576) : (if iaOkB a then reachedOf a else []).length ≤ 4194304 := by
  have h := alongOf_mem (actsOf a) a.steps [a.init]
  have := come_bound h.1 (fun y hy => (h.2 y).1 hy)
  split
  · unfold reachedOf
    simp only [List.length_singleton] at this
    omega
  · simp

set_option maxRecDepth 20000 in
set_option maxHeartbeats 3200000 in
theorem specReached_any (a : IaD) (v : Value) (w : World) (h : IaRow w a v) (f2 : a.ins.length ≤ 1048576) (f3 : a.outs.length ≤ 1048576) (f4 : a.hids.length ≤ 1048576) (f5 : a.steps.length ≤ 1048576) :
    Calls Try.prog 30 #[v] w (OwnRes w w.heap.size (if iaOkB a then reachedOf a else [])) := by
  have CO : Hid (∀ W, Below w.heap.size w W → Calls Try.prog 12 #[v] W fun e w' => e = .returned (.bool (iaOkB a)) ∧ Below W.heap.size W w') := fun W hW => specIaOk_any a v W (h.below hW) f2 f3 f4 f5
  have CA0 : Hid (iaOkB a = true → ∀ W, Below w.heap.size w W → Calls Try.prog 16 #[v] W (OwnRes W W.heap.size (actsOf a))) := fun hok W hW => by
    have := specActsOf_any a v W (h.below hW) f2 f3 f4 f5
    rwa [if_pos hok] at this
  have hal : (actsOf a).length ≤ 4194304 := by
    have h1 := join_len a.ins a.outs
    have h2 := join_len (joinOf a.ins a.outs) a.hids
    unfold actsOf
    omega
  obtain ⟨a2, n2, c2, a3, n3, c3, a4, n4, c4, a5, n5, c5, rfl, r2, r3, r4, r5⟩ := h
  obtain ⟨st, it, ins, outs, hids, steps⟩ := a
  simp only at r2 r3 r4 r5 f2 f3 f4 f5
  rw [r5.1] at f5
  have R5 := Lib.hid r5
  clear r2 r3 r4 r5 f2 f3 f4
  obtain ⟨acts, hacts⟩ : ∃ l, l = actsOf ⟨st, it, ins, outs, hids, steps⟩ := ⟨_, rfl⟩
  obtain ⟨ns, hns⟩ : ∃ n, n = acts.length := ⟨_, rfl⟩
  rw [← hacts, ← hns] at hal
  have HRE : Hid (reachedOf ⟨st, it, ins, outs, hids, steps⟩ = alongOf acts steps [it]) := by rw [hacts]; rfl
  rw [← hacts] at CA0
  obtain ⟨q, hq⟩ : ∃ q, q = iaOkB ⟨st, it, ins, outs, hids, steps⟩ := ⟨_, rfl⟩
  rw [← hq] at CO CA0 ⊢
  obtain ⟨L, hL⟩ : ∃ L, L = if q then reachedOf ⟨st, it, ins, outs, hids, steps⟩ else [] := ⟨_, rfl⟩
  rw [← hL]
  have HL := Lib.hid hL
  have HNS := Lib.hid hns
  clear hq hL hacts hns
  have B0 : Hid (∀ o, Below w.heap.size w (w.alloc o)) := fun o => (Below.refl _ _).alloc (Nat.le_refl _) _
  have V0 := Lib.hid (VarIs.new w #[.int .i64 st, .int .i64 it, .slice a2 n2 c2, .slice a3 n3 c3, .slice a4 n4 c4, .slice a5 n5 c5] 30 rfl)
  go_enter Try.func30, Try.ntmps30
  go_wp2_with fail
  refine (CO.out _ (B0.out _)).mono ?_
  rintro e w1 ⟨rfl, hb⟩
  have B1 : Hid (Below w.heap.size w w1) := (B0.out _).trans (hb.mono (B0.out _).size)
  have V1 := Lib.hid (V0.out.below hb)
  clear hb V0
  cases q with
  | false =>
    go_wp2_with fail
    go_ret
    obtain rfl : L = [] := HL.out
    exact ⟨_, _, rfl, (owns_lit _ [] 0 rfl (by unfold maxLen; omega)).mono B1.out.size, B1.out.alloc B1.out.size _⟩
  | true =>
    have V1d := V1.out.drew
    have S0 : Below w.heap.size w w1.drew ∧ VarIs w1.drew w.heap.size #[.int .i64 st, .int .i64 it, .slice a2 n2 c2, .slice a3 n3 c3, .slice a4 n4 c4, .slice a5 n5 c5] 30 ∧ w1.drew.cell? ⟨w.heap.size, 0, none⟩ = some (.int .i64 st) ∧ w1.drew.cell? ⟨w.heap.size, 1, none⟩ = some (.int .i64 it) ∧ w1.drew.cell? ⟨w.heap.size, 2, none⟩ = some (.slice a2 n2 c2) ∧ w1.drew.cell? ⟨w.heap.size, 3, none⟩ = some (.slice a3 n3 c3) ∧ w1.drew.cell? ⟨w.heap.size, 4, none⟩ = some (.slice a4 n4 c4) ∧ w1.drew.cell? ⟨w.heap.size, 5, none⟩ = some (.slice a5 n5 c5) := ⟨B1.out.drew, V1d, V1d.cell rfl, V1d.cell rfl, V1d.cell rfl, V1d.cell rfl, V1d.cell rfl, V1d.cell rfl⟩
    have V1e := (V1.out.alloc (.cells #[.int .i64 it] 3)).drew
    have SA : Hid (Below w.heap.size w (w1.alloc (.cells #[.int .i64 it] 3)).drew ∧ VarIs (w1.alloc (.cells #[.int .i64 it] 3)).drew w.heap.size #[.int .i64 st, .int .i64 it, .slice a2 n2 c2, .slice a3 n3 c3, .slice a4 n4 c4, .slice a5 n5 c5] 30 ∧ (w1.alloc (.cells #[.int .i64 it] 3)).drew.cell? ⟨w.heap.size, 0, none⟩ = some (.int .i64 st) ∧ (w1.alloc (.cells #[.int .i64 it] 3)).drew.cell? ⟨w.heap.size, 1, none⟩ = some (.int .i64 it) ∧ (w1.alloc (.cells #[.int .i64 it] 3)).drew.cell? ⟨w.heap.size, 2, none⟩ = some (.slice a2 n2 c2) ∧ (w1.alloc (.cells #[.int .i64 it] 3)).drew.cell? ⟨w.heap.size, 3, none⟩ = some (.slice a3 n3 c3) ∧ (w1.alloc (.cells #[.int .i64 it] 3)).drew.cell? ⟨w.heap.size, 4, none⟩ = some (.slice a4 n4 c4) ∧ (w1.alloc (.cells #[.int .i64 it] 3)).drew.cell? ⟨w.heap.size, 5, none⟩ = some (.slice a5 n5 c5)) := ⟨(B1.out.alloc B1.out.size _).drew, V1e, V1e.cell rfl, V1e.cell rfl, V1e.cell rfl, V1e.cell rfl, V1e.cell rfl, V1e.cell rfl⟩
    have RFA : Hid (Row (w1.alloc (.cells #[.int .i64 it] 3)).drew (some ⟨w1.heap.size, 0, none⟩) 1 [it]) := row_lit1 w1 it _ rfl
    clear V1d V1e
    have CA : Hid (∀ W, Below w.heap.size w W ∧ VarIs W w.heap.size #[.int .i64 st, .int .i64 it, .slice a2 n2 c2, .slice a3 n3 c3, .slice a4 n4 c4, .slice a5 n5 c5] 30 ∧ W.cell? ⟨w.heap.size, 0, none⟩ = some (.int .i64 st) ∧ W.cell? ⟨w.heap.size, 1, none⟩ = some (.int .i64 it) ∧ W.cell? ⟨w.heap.size, 2, none⟩ = some (.slice a2 n2 c2) ∧ W.cell? ⟨w.heap.size, 3, none⟩ = some (.slice a3 n3 c3) ∧ W.cell? ⟨w.heap.size, 4, none⟩ = some (.slice a4 n4 c4) ∧ W.cell? ⟨w.heap.size, 5, none⟩ = some (.slice a5 n5 c5) → Calls Try.prog 16 #[.agg #[.int .i64 st, .int .i64 it, .slice a2 n2 c2, .slice a3 n3 c3, .slice a4 n4 c4, .slice a5 n5 c5]] W fun e w' => ∃ g c, e = .returned (.slice (some ⟨g, 0, none⟩) ns c) ∧ Row w' (some ⟨g, 0, none⟩) ns acts ∧ Below W.heap.size W w' ∧ (Below w.heap.size w w' ∧ VarIs w' w.heap.size #[.int .i64 st, .int .i64 it, .slice a2 n2 c2, .slice a3 n3 c3, .slice a4 n4 c4, .slice a5 n5 c5] 30 ∧ w'.cell? ⟨w.heap.size, 0, none⟩ = some (.int .i64 st) ∧ w'.cell? ⟨w.heap.size, 1, none⟩ = some (.int .i64 it) ∧ w'.cell? ⟨w.heap.size, 2, none⟩ = some (.slice a2 n2 c2) ∧ w'.cell? ⟨w.heap.size, 3, none⟩ = some (.slice a3 n3 c3) ∧ w'.cell? ⟨w.heap.size, 4, none⟩ = some (.slice a4 n4 c4) ∧ w'.cell? ⟨w.heap.size, 5, none⟩ = some (.slice a5 n5 c5))) := fun W hW => (CA0.out rfl W hW.1).mono fun e w' ⟨g, c, he, ho, hb⟩ => ⟨g, c, by rw [he, HNS.out], by rw [HNS.out]; exact ho.row.2.2.2, hb, ⟨hW.1.trans (hb.mono hW.1.size), hW.2.1.below hb, (hW.2.1.below hb).cell rfl, (hW.2.1.below hb).cell rfl, (hW.2.1.below hb).cell rfl, (hW.2.1.below hb).cell rfl, (hW.2.1.below hb).cell rfl, (hW.2.1.below hb).cell rfl⟩⟩
    have CL : Hid (∀ W g (g' c' : Nat), Below w.heap.size w W ∧ VarIs W w.heap.size #[.int .i64 st, .int .i64 it, .slice a2 n2 c2, .slice a3 n3 c3, .slice a4 n4 c4, .slice a5 n5 c5] 30 ∧ W.cell? ⟨w.heap.size, 0, none⟩ = some (.int .i64 st) ∧ W.cell? ⟨w.heap.size, 1, none⟩ = some (.int .i64 it) ∧ W.cell? ⟨w.heap.size, 2, none⟩ = some (.slice a2 n2 c2) ∧ W.cell? ⟨w.heap.size, 3, none⟩ = some (.slice a3 n3 c3) ∧ W.cell? ⟨w.heap.size, 4, none⟩ = some (.slice a4 n4 c4) ∧ W.cell? ⟨w.heap.size, 5, none⟩ = some (.slice a5 n5 c5) → Row W (some ⟨g, 0, none⟩) 1 [it] → Row W (some ⟨g', 0, none⟩) ns acts → Calls Try.prog 56 #[.agg #[.int .i64 st, .int .i64 it, .slice a2 n2 c2, .slice a3 n3 c3, .slice a4 n4 c4, .slice a5 n5 c5], .slice (some ⟨g, 0, none⟩) 1 1, .slice (some ⟨g', 0, none⟩) ns c'] W fun e w' => OwnRes w w.heap.size (reachedOf ⟨st, it, ins, outs, hids, steps⟩) e w' ∧ (Below w.heap.size w w' ∧ VarIs w' w.heap.size #[.int .i64 st, .int .i64 it, .slice a2 n2 c2, .slice a3 n3 c3, .slice a4 n4 c4, .slice a5 n5 c5] 30 ∧ w'.cell? ⟨w.heap.size, 0, none⟩ = some (.int .i64 st) ∧ w'.cell? ⟨w.heap.size, 1, none⟩ = some (.int .i64 it) ∧ w'.cell? ⟨w.heap.size, 2, none⟩ = some (.slice a2 n2 c2) ∧ w'.cell? ⟨w.heap.size, 3, none⟩ = some (.slice a3 n3 c3) ∧ w'.cell? ⟨w.heap.size, 4, none⟩ = some (.slice a4 n4 c4) ∧ w'.cell? ⟨w.heap.size, 5, none⟩ = some (.slice a5 n5 c5))) := fun W g g' c' hW hr1 hr2 => by
      rw [HRE.out]
      exact (along_any st it _ _ _ a5 n5 c5 steps _ 1 1 [it] _ ns c' acts W (R5.out.below hW.1) (by omega) hr1 (by omega) hr2 (by omega)).mono fun e w' ⟨g2, c2, he, ho, hb⟩ => ⟨⟨g2, c2, he, ho.mono hW.1.size, hW.1.trans (hb.mono hW.1.size)⟩, ⟨hW.1.trans (hb.mono hW.1.size), hW.2.1.below hb, (hW.2.1.below hb).cell rfl, (hW.2.1.below hb).cell rfl, (hW.2.1.below hb).cell rfl, (hW.2.1.below hb).cell rfl, (hW.2.1.below hb).cell rfl, (hW.2.1.below hb).cell rfl⟩⟩
    go_wp2_with fail
    refine wp_region_held_drew (S := fun w' => Below w.heap.size w w' ∧ VarIs w' w.heap.size #[.int .i64 st, .int .i64 it, .slice a2 n2 c2, .slice a3 n3 c3, .slice a4 n4 c4, .slice a5 n5 c5] 30 ∧ w'.cell? ⟨w.heap.size, 0, none⟩ = some (.int .i64 st) ∧ w'.cell? ⟨w.heap.size, 1, none⟩ = some (.int .i64 it) ∧ w'.cell? ⟨w.heap.size, 2, none⟩ = some (.slice a2 n2 c2) ∧ w'.cell? ⟨w.heap.size, 3, none⟩ = some (.slice a3 n3 c3) ∧ w'.cell? ⟨w.heap.size, 4, none⟩ = some (.slice a4 n4 c4) ∧ w'.cell? ⟨w.heap.size, 5, none⟩ = some (.slice a5 n5 c5)) (by kernel_rfl) S0 (fun hHeld => ?_)
    change wpAnyH _ _ _ _ _ 8 (Array.replicate 8 false) _ _
    refine take_op 0 7 (.agg #[.int .i64 st, .int .i64 it, .slice a2 n2 c2, .slice a3 n3 c3, .slice a4 n4 c4, .slice a5 n5 c5]) (fuel := 7) rfl rfl (by kernel_rfl) (by kernel_rfl) (by kernel_rfl) (fun _ _ _ h => h) (by rfl) (fun w hSw => by go_simp) hHeld ?_
    simp only [Act.put, List.setIfInBounds_toArray, List.set_cons_zero, List.set_cons_succ]
    refine take_op 1 8 (.pointer (some ⟨w.heap.size, 1, none⟩)) (fuel := 6) rfl rfl (by kernel_rfl) (by kernel_rfl) (by kernel_rfl) (fun _ _ _ h => h) (by rfl) (fun w hSw => by go_simp) hHeld ?_
    simp only [Act.put, List.setIfInBounds_toArray, List.set_cons_zero, List.set_cons_succ]
    refine take_op 2 9 (.int .i64 it) (fuel := 5) rfl rfl (by kernel_rfl) (by kernel_rfl) (by kernel_rfl) (fun _ _ _ h => h) (by rfl) (fun w hSw => by go_simp) hHeld ?_
    simp only [Act.put, List.setIfInBounds_toArray, List.set_cons_zero, List.set_cons_succ]
    refine take_op 4 11 (.agg #[.int .i64 st, .int .i64 it, .slice a2 n2 c2, .slice a3 n3 c3, .slice a4 n4 c4, .slice a5 n5 c5]) (fuel := 4) rfl rfl (by kernel_rfl) (by kernel_rfl) (by kernel_rfl) (fun _ _ _ h => h) (by rfl) (fun w hSw => by go_simp) hHeld ?_
    simp only [Act.put, List.setIfInBounds_toArray, List.set_cons_zero, List.set_cons_succ]

    refine wpAnyH_ready (rs := [3, 5]) (fuel := 3) (by kernel_rfl) (by simp) ?_
    refine AllReadyH.cons rfl (fun K hK => ?_) ?_
    · go_simp
      refine hK.out _ _ SA.out (fun hHeld => ?_)
      clear hK K
      refine wpAnyH_ready (rs := [5]) (fuel := 2) (by kernel_rfl) (by simp) ?_
      refine AllReadyH.cons rfl (fun K hK => ?_) AllReadyH.nil
      go_simp
      refine (CA.out _ SA.out).mono ?_
      rintro e w4 ⟨g4, d4, rfl, hra, hbe, hS4⟩
      have RA := Lib.hid hra
      have RF := Lib.hid (RFA.out.below hbe)
      clear hra hbe
      go_wp2_with fail
      refine hK.out _ _ hS4 (fun hHeld => ?_)
      clear hK K hS4
      refine wpAnyH_ready (rs := [6]) (fuel := 1) (by kernel_rfl) (by simp) ?_
      refine AllReadyH.cons rfl (fun K hK => ?_) AllReadyH.nil
      go_simp
      refine (CL.out _ _ _ _ hHeld RF.out RA.out).mono ?_
      rintro e w5 ⟨hO, hS5⟩
      obtain ⟨g5, d5, rfl, ho5, hb5⟩ := hO
      have HO5 := Lib.hid ho5
      have HB5 := Lib.hid hb5
      clear ho5 hb5
      go_wp2_with fail
      refine hK.out _ _ hS5 (fun hHeld => ?_)
      clear hK K
      refine wpAnyH_ready (rs := [7]) (fuel := 0) (by kernel_rfl) (by simp) ?_
      refine AllReadyH.cons rfl (fun K hK => ?_) AllReadyH.nil
      go_simp
      refine hK.out _ _ hHeld (fun hHeld => ?_)
      clear hK K
      refine wpAnyH_done (by kernel_rfl) ?_ _
      clear hHeld hS5
      go_wp2_with fail
      go_ret
      obtain rfl : L = reachedOf ⟨st, it, ins, outs, hids, steps⟩ := HL.out
      exact ⟨_, _, rfl, HO5.out, HB5.out⟩
    · refine AllReadyH.cons rfl (fun K hK => ?_) AllReadyH.nil
      go_simp
      refine (CA.out _ S0).mono ?_
      rintro e w4 ⟨g4, d4, rfl, hra, hbe, hS4⟩
      go_wp2_with fail
      refine hK.out _ _ hS4 (fun hHeld => ?_)
      clear hK K
      have hbx : Below w4.heap.size w4 (w4.alloc (.cells #[.int .i64 it] 3)) := (Below.refl _ _).alloc (Nat.le_refl _) _
      have V4e := hS4.2.1.below hbx
      have SB : Below w.heap.size w (w4.alloc (.cells #[.int .i64 it] 3)) ∧ VarIs (w4.alloc (.cells #[.int .i64 it] 3)) w.heap.size #[.int .i64 st, .int .i64 it, .slice a2 n2 c2, .slice a3 n3 c3, .slice a4 n4 c4, .slice a5 n5 c5] 30 ∧ (w4.alloc (.cells #[.int .i64 it] 3)).cell? ⟨w.heap.size, 0, none⟩ = some (.int .i64 st) ∧ (w4.alloc (.cells #[.int .i64 it] 3)).cell? ⟨w.heap.size, 1, none⟩ = some (.int .i64 it) ∧ (w4.alloc (.cells #[.int .i64 it] 3)).cell? ⟨w.heap.size, 2, none⟩ = some (.slice a2 n2 c2) ∧ (w4.alloc (.cells #[.int .i64 it] 3)).cell? ⟨w.heap.size, 3, none⟩ = some (.slice a3 n3 c3) ∧ (w4.alloc (.cells #[.int .i64 it] 3)).cell? ⟨w.heap.size, 4, none⟩ = some (.slice a4 n4 c4) ∧ (w4.alloc (.cells #[.int .i64 it] 3)).cell? ⟨w.heap.size, 5, none⟩ = some (.slice a5 n5 c5) := ⟨hS4.1.trans (hbx.mono hS4.1.size), V4e, V4e.cell rfl, V4e.cell rfl, V4e.cell rfl, V4e.cell rfl, V4e.cell rfl, V4e.cell rfl⟩
      have RA := Lib.hid (hra.below hbx)
      have RF := Lib.hid (row_lit1 w4 it _ rfl)
      clear hra hbe hbx V4e hS4
      refine wpAnyH_ready (rs := [3]) (fuel := 2) (by kernel_rfl) (by simp) ?_
      refine AllReadyH.cons rfl (fun K hK => ?_) AllReadyH.nil
      go_simp
      refine hK.out _ _ SB (fun hHeld => ?_)
      clear hK K SB
      refine wpAnyH_ready (rs := [6]) (fuel := 1) (by kernel_rfl) (by simp) ?_
      refine AllReadyH.cons rfl (fun K hK => ?_) AllReadyH.nil
      go_simp
      refine (CL.out _ _ _ _ hHeld RF.out RA.out).mono ?_
      rintro e w5 ⟨hO, hS5⟩
      obtain ⟨g5, d5, rfl, ho5, hb5⟩ := hO
      have HO5 := Lib.hid ho5
      have HB5 := Lib.hid hb5
      clear ho5 hb5
      go_wp2_with fail
      refine hK.out _ _ hS5 (fun hHeld => ?_)
      clear hK K
      refine wpAnyH_ready (rs := [7]) (fuel := 0) (by kernel_rfl) (by simp) ?_
      refine AllReadyH.cons rfl (fun K hK => ?_) AllReadyH.nil
      go_simp
      refine hK.out _ _ hHeld (fun hHeld => ?_)
      clear hK K
      refine wpAnyH_done (by kernel_rfl) ?_ _
      clear hHeld hS5
      go_wp2_with fail
      go_ret
      obtain rfl : L = reachedOf ⟨st, it, ins, outs, hids, steps⟩ := HL.out
      exact ⟨_, _, rfl, HO5.out, HB5.out⟩

end Go.Proofs.Ytodkahdnkpibiaa
