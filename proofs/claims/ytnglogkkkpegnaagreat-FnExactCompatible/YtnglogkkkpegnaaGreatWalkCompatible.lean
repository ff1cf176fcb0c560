/-
  The walk of the law FnExactCompatible: it returns true at every argument and writes nothing that was there. Conditions: none.
-/
import Derived.Test.YtnglogkkkpegnaaGreatPairIdx
import Derived.Test.YtnglogkkkpegnaaGreatReachMath
namespace Go.Proofs.YtnglogkkkpegnaaGreat
open Go.RowKit

set_option maxRecDepth 20000 in
set_option maxHeartbeats 6400000 in
theorem walk_FnExactCompatible (st it : Int) (a2 : Option Addr) (n2 c2 : Nat) (z2 : List Int) (a3 : Option Addr) (n3 c3 : Nat) (z3 : List Int) (a4 : Option Addr) (n4 c4 : Nat) (z4 : List Int) (a5 : Option Addr) (n5 c5 : Nat) (z5 : List St)
    (su iu : Int) (b2 : Option Addr) (m2 d2 : Nat) (y2 : List Int) (b3 : Option Addr) (m3 d3 : Nat) (y3 : List Int) (b4 : Option Addr) (m4 d4 : Nat) (y4 : List Int) (b5 : Option Addr) (m5 d5 : Nat) (y5 : List St) (w : World)
    (i2 : IsRow .i64 w a2 n2 c2 z2) (i3 : IsRow .i64 w a3 n3 c3 z3) (i4 : IsRow .i64 w a4 n4 c4 z4) (i5 : IsRowS w a5 n5 c5 z5) (j2 : IsRow .i64 w b2 m2 d2 y2) (j3 : IsRow .i64 w b3 m3 d3 y3) (j4 : IsRow .i64 w b4 m4 d4 y4) (j5 : IsRowS w b5 m5 d5 y5) :
    Calls Tryz.prog 5 #[.agg #[.int .i64 st, .int .i64 it, .slice a2 n2 c2, .slice a3 n3 c3, .slice a4 n4 c4, .slice a5 n5 c5], .agg #[.int .i64 su, .int .i64 iu, .slice b2 m2 d2, .slice b3 m3 d3, .slice b4 m4 d4, .slice b5 m5 d5]] w fun e w' => e = .returned (.bool true) ∧ Below w.heap.size w w' := by
  obtain ⟨ins, hins⟩ : ∃ l, l = z2.take n2 := ⟨_, rfl⟩
  obtain ⟨outs, houts⟩ : ∃ l, l = z3.take n3 := ⟨_, rfl⟩
  obtain ⟨hids, hhids⟩ : ∃ l, l = z4.take n4 := ⟨_, rfl⟩
  obtain ⟨steps, hsteps⟩ : ∃ l, l = z5.take n5 := ⟨_, rfl⟩
  obtain ⟨jns, hjns⟩ : ∃ l, l = y2.take m2 := ⟨_, rfl⟩
  obtain ⟨juts, hjuts⟩ : ∃ l, l = y3.take m3 := ⟨_, rfl⟩
  obtain ⟨jids, hjids⟩ : ∃ l, l = y4.take m4 := ⟨_, rfl⟩
  obtain ⟨jteps, hjteps⟩ : ∃ l, l = y5.take m5 := ⟨_, rfl⟩
  have r2 := i2.row
  rw [← hins] at r2
  have l2 := i2.len1
  have e2 := r2.1
  have r3 := i3.row
  rw [← houts] at r3
  have l3 := i3.len1
  have e3 := r3.1
  have r4 := i4.row
  rw [← hhids] at r4
  have l4 := i4.len1
  have e4 := r4.1
  have r5 := i5.row
  rw [← hsteps] at r5
  have l5 := i5.len1
  have e5 := r5.1
  have q2 := j2.row
  rw [← hjns] at q2
  have o2 := j2.len1
  have k2 := q2.1
  have q3 := j3.row
  rw [← hjuts] at q3
  have o3 := j3.len1
  have k3 := q3.1
  have q4 := j4.row
  rw [← hjids] at q4
  have o4 := j4.len1
  have k4 := q4.1
  have q5 := j5.row
  rw [← hjteps] at q5
  have o5 := j5.len1
  have k5 := q5.1
  have HA : Hid (∀ W, Below w.heap.size w W → IaRow W ⟨st, it, ins, outs, hids, steps⟩ (.agg #[.int .i64 st, .int .i64 it, .slice a2 n2 c2, .slice a3 n3 c3, .slice a4 n4 c4, .slice a5 n5 c5])) := fun W hW => IaRow.below ⟨a2, n2, c2, a3, n3, c3, a4, n4, c4, a5, n5, c5, rfl, r2, r3, r4, r5⟩ hW
  have HB : Hid (∀ W, Below w.heap.size w W → IaRow W ⟨su, iu, jns, juts, jids, jteps⟩ (.agg #[.int .i64 su, .int .i64 iu, .slice b2 m2 d2, .slice b3 m3 d3, .slice b4 m4 d4, .slice b5 m5 d5])) := fun W hW => IaRow.below ⟨b2, m2, d2, b3, m3, d3, b4, m4, d4, b5, m5, d5, rfl, q2, q3, q4, q5⟩ hW
  have CZ : Hid (∀ W, Calls Tryz.prog 21 #[.agg #[.int .i64 st, .int .i64 it, .slice a2 n2 c2, .slice a3 n3 c3, .slice a4 n4 c4, .slice a5 n5 c5], .int .i64 1048576] W fun e w' => e = .returned (.int .i64 (roomOf 1048576 (n2 + n3 + n4 + n5))) ∧ Below W.heap.size W w') := fun W => szIa_any st it a2 n2 c2 a3 n3 c3 a4 n4 c4 a5 n5 c5 1048576 W (by omega) (by omega) l2 l3 l4 l5
  have CY : Hid (∀ W (left : Int), 0 ≤ left → left ≤ 1048576 → Calls Tryz.prog 21 #[.agg #[.int .i64 su, .int .i64 iu, .slice b2 m2 d2, .slice b3 m3 d3, .slice b4 m4 d4, .slice b5 m5 d5], .int .i64 left] W fun e w' => e = .returned (.int .i64 (roomOf left (m2 + m3 + m4 + m5))) ∧ Below W.heap.size W w') := fun W left h0 h1 => szIa_any su iu b2 m2 d2 b3 m3 d3 b4 m4 d4 b5 m5 d5 left W h0 (by omega) o2 o3 o4 o5
  clear r2 r3 r4 r5 q2 q3 q4 q5 i2 i3 i4 i5 j2 j3 j4 j5 hins houts hhids hsteps hjns hjuts hjids hjteps z2 z3 z4 z5 y2 y3 y4 y5 l2 l3 l4 l5 o2 o3 o4 o5
  have S0 := Lib.hid (Box2.start w (iaC st it a2 n2 c2 a3 n3 c3 a4 n4 c4 a5 n5 c5) (iaC su iu b2 m2 d2 b3 m3 d3 b4 m4 d4 b5 m5 d5) 41)
  have ca0 := S0.out.2.1.cell (j := 0) (u := .int .i64 st) rfl
  have ca1 := S0.out.2.1.cell (j := 1) (u := .int .i64 it) rfl
  have ca2 := S0.out.2.1.cell (j := 2) (u := .slice a2 n2 c2) rfl
  have ca3 := S0.out.2.1.cell (j := 3) (u := .slice a3 n3 c3) rfl
  have ca4 := S0.out.2.1.cell (j := 4) (u := .slice a4 n4 c4) rfl
  have ca5 := S0.out.2.1.cell (j := 5) (u := .slice a5 n5 c5) rfl
  by_cases hbig : n2 + n3 + n4 + n5 ≤ 1048576
  · have hr : roomOf 1048576 (n2 + n3 + n4 + n5) = 1048576 - ((n2 + n3 + n4 + n5 : Nat) : Int) := roomOf_pos (by omega)
    obtain ⟨rm, hrm⟩ : ∃ m : Nat, (m : Int) = 1048576 - ((n2 + n3 + n4 + n5 : Nat) : Int) := ⟨1048576 - (n2 + n3 + n4 + n5), by omega⟩
    rw [hr, ← hrm] at CZ
    have f2 : ins.length ≤ 1048576 := by omega
    have f3 : outs.length ≤ 1048576 := by omega
    have f4 : hids.length ≤ 1048576 := by omega
    have f5 : steps.length ≤ 1048576 := by omega
    have hrm2 : (rm : Int) ≤ 1048576 := by omega
    have HRM := Lib.hid hrm
    clear hr hrm e2 e3 e4 e5
    go_enter Tryz.func5, Tryz.ntmps5
    go_wp2_with fail
    clear ca0 ca1 ca2 ca3 ca4 ca5
    refine (CZ.out _).mono ?_
    rintro e w1 ⟨rfl, hb⟩
    have S1 := Lib.hid (S0.out.below hb)
    clear hb CZ S0
    have cb0 := S1.out.2.2.cell (j := 0) (u := .int .i64 su) rfl
    have cb1 := S1.out.2.2.cell (j := 1) (u := .int .i64 iu) rfl
    have cb2 := S1.out.2.2.cell (j := 2) (u := .slice b2 m2 d2) rfl
    have cb3 := S1.out.2.2.cell (j := 3) (u := .slice b3 m3 d3) rfl
    have cb4 := S1.out.2.2.cell (j := 4) (u := .slice b4 m4 d4) rfl
    have cb5 := S1.out.2.2.cell (j := 5) (u := .slice b5 m5 d5) rfl
    go_wp2_with fail
    clear cb0 cb1 cb2 cb3 cb4 cb5
    by_cases hbig2 : m2 + m3 + m4 + m5 ≤ rm
    · have hr2 : roomOf (rm : Int) (m2 + m3 + m4 + m5) = (rm : Int) - ((m2 + m3 + m4 + m5 : Nat) : Int) := roomOf_pos (by omega)
      obtain ⟨rn, hrn⟩ : ∃ m : Nat, (m : Int) = (rm : Int) - ((m2 + m3 + m4 + m5 : Nat) : Int) := ⟨rm - (m2 + m3 + m4 + m5), by omega⟩
      have t2 : jns.length ≤ 1048576 := by omega
      have t3 : juts.length ≤ 1048576 := by omega
      have t4 : jids.length ≤ 1048576 := by omega
      have t5 : jteps.length ≤ 1048576 := by omega
      have CY2 := (CY.out w1 _ (by omega) hrm2)
      rw [hr2, ← hrn] at CY2
      refine CY2.mono ?_
      rintro e w2 ⟨rfl, hb⟩
      have S2 := Lib.hid (S1.out.below hb)
      clear hb S1 CY2 CY hr2 hrn hbig2 HRM k2 k3 k4 k5 hbig hrm2
      have CTA : Hid (∀ W, Below w.heap.size w W → Calls Tryz.prog 23 #[.agg #[.int .i64 st, .int .i64 it, .slice a2 n2 c2, .slice a3 n3 c3, .slice a4 n4 c4, .slice a5 n5 c5]] W fun e w' => ∃ v', e = .returned v' ∧ IaAt w' W.heap.size ⟨st, it, ins, outs, hids, steps⟩ v' ∧ Below W.heap.size W w') := fun W hW => toIa_any ⟨st, it, ins, outs, hids, steps⟩ _ W (HA.out W hW) (IaFits.small f2 f3 f4 f5)
      have CTB : Hid (∀ W, Below w.heap.size w W → Calls Tryz.prog 23 #[.agg #[.int .i64 su, .int .i64 iu, .slice b2 m2 d2, .slice b3 m3 d3, .slice b4 m4 d4, .slice b5 m5 d5]] W fun e w' => ∃ v', e = .returned v' ∧ IaAt w' W.heap.size ⟨su, iu, jns, juts, jids, jteps⟩ v' ∧ Below W.heap.size W w') := fun W hW => toIa_any ⟨su, iu, jns, juts, jids, jteps⟩ _ W (HB.out W hW) (IaFits.small t2 t3 t4 t5)
      have CT1 : Hid (∀ W, Box2 w W w.heap.size (w.heap.size + 1) 41 (iaC st it a2 n2 c2 a3 n3 c3 a4 n4 c4 a5 n5 c5) (iaC su iu b2 m2 d2 b3 m3 d3 b4 m4 d4 b5 m5 d5) → Calls Tryz.prog 23 #[.agg #[.int .i64 st, .int .i64 it, .slice a2 n2 c2, .slice a3 n3 c3, .slice a4 n4 c4, .slice a5 n5 c5]] W fun e w' => ∃ v', e = .returned v' ∧ IaRow w' ⟨st, it, ins, outs, hids, steps⟩ v' ∧ Box2 w w' w.heap.size (w.heap.size + 1) 41 (iaC st it a2 n2 c2 a3 n3 c3 a4 n4 c4 a5 n5 c5) (iaC su iu b2 m2 d2 b3 m3 d3 b4 m4 d4 b5 m5 d5)) := fun W hW => (CTA.out W hW.1).mono fun e w' ⟨v', he, hat, hb⟩ => ⟨v', he, hat.row, hW.below hb⟩
      have CT2 : Hid (∀ W v1, IaRow W ⟨st, it, ins, outs, hids, steps⟩ v1 → Box2 w W w.heap.size (w.heap.size + 1) 41 (iaC st it a2 n2 c2 a3 n3 c3 a4 n4 c4 a5 n5 c5) (iaC su iu b2 m2 d2 b3 m3 d3 b4 m4 d4 b5 m5 d5) → Calls Tryz.prog 23 #[.agg #[.int .i64 su, .int .i64 iu, .slice b2 m2 d2, .slice b3 m3 d3, .slice b4 m4 d4, .slice b5 m5 d5]] W fun e w' => ∃ v', e = .returned v' ∧ IaRow w' ⟨st, it, ins, outs, hids, steps⟩ v1 ∧ IaRow w' ⟨su, iu, jns, juts, jids, jteps⟩ v' ∧ Box2 w w' w.heap.size (w.heap.size + 1) 41 (iaC st it a2 n2 c2 a3 n3 c3 a4 n4 c4 a5 n5 c5) (iaC su iu b2 m2 d2 b3 m3 d3 b4 m4 d4 b5 m5 d5)) := fun W v1 hv hW => (CTB.out W hW.1).mono fun e w' ⟨v', he, hat, hb⟩ => ⟨v', he, hv.below hb, hat.row, hW.below hb⟩
      clear HA HB
      obtain ⟨q, hq⟩ : ∃ q, q = compB ⟨st, it, ins, outs, hids, steps⟩ ⟨su, iu, jns, juts, jids, jteps⟩ := ⟨_, rfl⟩
      have CP : Hid (∀ W v1 v2, IaRow W ⟨st, it, ins, outs, hids, steps⟩ v1 → IaRow W ⟨su, iu, jns, juts, jids, jteps⟩ v2 → Box2 w W w.heap.size (w.heap.size + 1) 41 (iaC st it a2 n2 c2 a3 n3 c3 a4 n4 c4 a5 n5 c5) (iaC su iu b2 m2 d2 b3 m3 d3 b4 m4 d4 b5 m5 d5) → Calls Tryz.prog 30 #[v1, v2] W fun e w' => e = .returned (.bool q) ∧ Box2 w w' w.heap.size (w.heap.size + 1) 41 (iaC st it a2 n2 c2 a3 n3 c3 a4 n4 c4 a5 n5 c5) (iaC su iu b2 m2 d2 b3 m3 d3 b4 m4 d4 b5 m5 d5)) := fun W v1 v2 h1 h2 hW => by
        rw [hq]
        exact (specCompatible_any ⟨st, it, ins, outs, hids, steps⟩ ⟨su, iu, jns, juts, jids, jteps⟩ v1 v2 W h1 h2 ⟨f2, f3, f4, f5⟩ ⟨t2, t3, t4, t5⟩).mono fun e w' ⟨he, hb⟩ => ⟨he, hW.below hb⟩
      have CI : Hid (∀ W v1 v2, IaRow W ⟨st, it, ins, outs, hids, steps⟩ v1 → IaRow W ⟨su, iu, jns, juts, jids, jteps⟩ v2 → Calls Tryz.prog 17 #[v1, v2] W fun e w' => e = .returned (.bool q) ∧ Below W.heap.size W w') := fun W v1 v2 h1 h2 => by
        rw [hq]
        exact implCompatible_any ⟨st, it, ins, outs, hids, steps⟩ ⟨su, iu, jns, juts, jids, jteps⟩ v1 v2 W h1 h2 ⟨f2, f3, f4, f5⟩ ⟨t2, t3, t4, t5⟩
      clear hq
      go_wp2_with fail
      have SD := S2.out.drew
      clear S2
      refine wp_region_held_drew (S := fun w' => Box2 w w' w.heap.size (w.heap.size + 1) 41 (iaC st it a2 n2 c2 a3 n3 c3 a4 n4 c4 a5 n5 c5) (iaC su iu b2 m2 d2 b3 m3 d3 b4 m4 d4 b5 m5 d5)) (by kernel_rfl) SD (fun hHeld => ?_)
      change wpAnyH _ _ _ _ _ 6 (Array.replicate 6 false) _ _
      refine take_yields 0 20 (.agg #[.int .i64 st, .int .i64 it, .slice a2 n2 c2, .slice a3 n3 c3, .slice a4 n4 c4, .slice a5 n5 c5]) (fuel := 5) rfl rfl (by kernel_rfl) (by kernel_rfl) (by kernel_rfl) (fun _ _ _ h => h) (yieldsIf_load_mid (by rfl) _ _ rfl (w.heap.size) 0 rfl (iaC st it a2 n2 c2 a3 n3 c3 a4 n4 c4 a5 n5 c5).toList _ (fun w hw => hw.2.1.range) Tryz.underlying41 rfl (by kernel_rfl)) hHeld ?_
      simp only [Act.put, List.setIfInBounds_toArray, List.set_cons_zero, List.set_cons_succ]
      refine take_yields 2 22 (.agg #[.int .i64 su, .int .i64 iu, .slice b2 m2 d2, .slice b3 m3 d3, .slice b4 m4 d4, .slice b5 m5 d5]) (fuel := 4) rfl rfl (by kernel_rfl) (by kernel_rfl) (by kernel_rfl) (fun _ _ _ h => h) (yieldsIf_load_mid (by rfl) _ _ rfl (w.heap.size + 1) 0 rfl (iaC su iu b2 m2 d2 b3 m3 d3 b4 m4 d4 b5 m5 d5).toList _ (fun w hw => hw.2.2.range) Tryz.underlying41 rfl (by kernel_rfl)) hHeld ?_
      simp only [Act.put, List.setIfInBounds_toArray, List.set_cons_zero, List.set_cons_succ]
      refine wpAnyH_ready (rs := [1]) (fuel := 3) (by kernel_rfl) (by simp) ?_
      refine AllReadyH.cons rfl (fun K hK => ?_) AllReadyH.nil
      go_simp
      refine (CT1.out _ hHeld).mono ?_
      rintro e w3 ⟨v1, rfl, hrA1, hS⟩
      go_wp2_with fail
      refine hK.out _ _ hS (fun hHeld => ?_)
      clear hK K
      refine wpAnyH_ready (rs := [3]) (fuel := 2) (by kernel_rfl) (by simp) ?_
      refine AllReadyH.cons rfl (fun K hK => ?_) AllReadyH.nil
      go_simp
      refine (CT2.out _ _ hrA1 hHeld).mono ?_
      rintro e w4 ⟨v2, rfl, hrA, hrB, hS⟩
      clear hrA1
      go_wp2_with fail
      refine hK.out _ _ hS (fun hHeld => ?_)
      clear hK K
      refine wpAnyH_ready (rs := [4]) (fuel := 1) (by kernel_rfl) (by simp) ?_
      refine AllReadyH.cons rfl (fun K hK => ?_) AllReadyH.nil
      go_simp
      refine (CP.out _ _ _ hrA hrB hHeld).mono ?_
      rintro e w5 ⟨rfl, hS⟩
      clear hrA hrB
      go_wp2_with fail
      refine hK.out _ _ hS (fun hHeld => ?_)
      clear hK K
      refine take_op 5 6 (.bool q) (fuel := 0) rfl rfl (by kernel_rfl) (by kernel_rfl) (by kernel_rfl) (fun _ _ _ h => h) (by rfl) (fun w hSw => by go_simp) hHeld ?_
      simp only [Act.put, List.setIfInBounds_toArray, List.set_cons_zero, List.set_cons_succ]
      refine wpAnyH_done (by kernel_rfl) ?_ _
      have S5 := Lib.hid hHeld
      clear hHeld SD
      have ca0 := S5.out.2.1.cell (j := 0) (u := .int .i64 st) rfl
      have ca1 := S5.out.2.1.cell (j := 1) (u := .int .i64 it) rfl
      have ca2 := S5.out.2.1.cell (j := 2) (u := .slice a2 n2 c2) rfl
      have ca3 := S5.out.2.1.cell (j := 3) (u := .slice a3 n3 c3) rfl
      have ca4 := S5.out.2.1.cell (j := 4) (u := .slice a4 n4 c4) rfl
      have ca5 := S5.out.2.1.cell (j := 5) (u := .slice a5 n5 c5) rfl
      go_wp2_with fail
      clear ca0 ca1 ca2 ca3 ca4 ca5
      refine (CTA.out _ S5.out.1).mono ?_
      rintro e w6 ⟨vx, rfl, hat, hb⟩
      have h56 := hb.size
      have S6 := Lib.hid (S5.out.below hb)
      obtain ⟨g2, g3, g4, g5, rfl, gb, lt3, lt4, lt5, o2, o3, o4, o5⟩ := hat
      have hg5 := (o5.lt g5 rfl).2
      have hw5 := S5.out.2.2.lt
      have XA6 : Hid (IaAt w6 w5.heap.size ⟨st, it, ins, outs, hids, steps⟩ (.agg (iaC st it (some ⟨g2, 0, none⟩) ins.length ins.length (some ⟨g3, 0, none⟩) outs.length outs.length (some ⟨g4, 0, none⟩) hids.length hids.length (some ⟨g5, 0, none⟩) steps.length steps.length))) := ⟨g2, g3, g4, g5, rfl, gb, lt3, lt4, lt5, o2, o3, o4, o5⟩
      clear hb o2 o3 o4 o5 S5
      simp only
      have bx := (Below.refl w6.heap.size w6).alloc (Nat.le_refl _) (.cells #[.int .i64 st, .int .i64 it, .slice (some ⟨g2, 0, none⟩) ins.length ins.length, .slice (some ⟨g3, 0, none⟩) outs.length outs.length, .slice (some ⟨g4, 0, none⟩) hids.length hids.length, .slice (some ⟨g5, 0, none⟩) steps.length steps.length] 27)
      have XA7 := Lib.hid (XA6.out.below bx)
      have S7 := Lib.hid (S6.out.below bx)

      have V7 : Hid (VarIs (w6.alloc (.cells #[.int .i64 st, .int .i64 it, .slice (some ⟨g2, 0, none⟩) ins.length ins.length, .slice (some ⟨g3, 0, none⟩) outs.length outs.length, .slice (some ⟨g4, 0, none⟩) hids.length hids.length, .slice (some ⟨g5, 0, none⟩) steps.length steps.length] 27)) w6.heap.size (iaC st it (some ⟨g2, 0, none⟩) ins.length ins.length (some ⟨g3, 0, none⟩) outs.length outs.length (some ⟨g4, 0, none⟩) hids.length hids.length (some ⟨g5, 0, none⟩) steps.length steps.length) 27) := VarIs.new w6 #[.int .i64 st, .int .i64 it, .slice (some ⟨g2, 0, none⟩) ins.length ins.length, .slice (some ⟨g3, 0, none⟩) outs.length outs.length, .slice (some ⟨g4, 0, none⟩) hids.length hids.length, .slice (some ⟨g5, 0, none⟩) steps.length steps.length] 27 rfl
      clear bx S6 XA6
      have cb0 := S7.out.2.2.cell (j := 0) (u := .int .i64 su) rfl
      have cb1 := S7.out.2.2.cell (j := 1) (u := .int .i64 iu) rfl
      have cb2 := S7.out.2.2.cell (j := 2) (u := .slice b2 m2 d2) rfl
      have cb3 := S7.out.2.2.cell (j := 3) (u := .slice b3 m3 d3) rfl
      have cb4 := S7.out.2.2.cell (j := 4) (u := .slice b4 m4 d4) rfl
      have cb5 := S7.out.2.2.cell (j := 5) (u := .slice b5 m5 d5) rfl
      go_wp2_with fail
      clear cb0 cb1 cb2 cb3 cb4 cb5
      refine (CTB.out _ S7.out.1).mono ?_
      rintro e w8 ⟨vx, rfl, hat, hb⟩
      have h78 : w6.heap.size + 1 ≤ w8.heap.size := by
        have := hb.size
        simpa using this
      have S8 := Lib.hid (S7.out.below hb)
      have XA8 := Lib.hid (XA7.out.below hb)
      have V8 := Lib.hid (V7.out.below hb)

      obtain ⟨h2, h3, h4, h5, rfl, gb', lt3', lt4', lt5', o2, o3, o4, o5⟩ := hat
      have hh5 := (o5.lt h5 rfl).2
      have gbh : w6.heap.size + 1 ≤ h2 := by
        have := gb'
        simpa using this
      have XB8 : Hid (IaAt w8 (w6.heap.size + 1) ⟨su, iu, jns, juts, jids, jteps⟩ (.agg (iaC su iu (some ⟨h2, 0, none⟩) jns.length jns.length (some ⟨h3, 0, none⟩) juts.length juts.length (some ⟨h4, 0, none⟩) jids.length jids.length (some ⟨h5, 0, none⟩) jteps.length jteps.length))) := by
        have : IaAt w8 _ ⟨su, iu, jns, juts, jids, jteps⟩ (.agg (iaC su iu (some ⟨h2, 0, none⟩) jns.length jns.length (some ⟨h3, 0, none⟩) juts.length juts.length (some ⟨h4, 0, none⟩) jids.length jids.length (some ⟨h5, 0, none⟩) jteps.length jteps.length)) := ⟨h2, h3, h4, h5, rfl, gb', lt3', lt4', lt5', o2, o3, o4, o5⟩
        simpa [Hid] using this
      clear hb o2 o3 o4 o5 gb' S7 XA7 V7
      simp only
      have bx := (Below.refl w8.heap.size w8).alloc (Nat.le_refl _) (.cells #[.int .i64 su, .int .i64 iu, .slice (some ⟨h2, 0, none⟩) jns.length jns.length, .slice (some ⟨h3, 0, none⟩) juts.length juts.length, .slice (some ⟨h4, 0, none⟩) jids.length jids.length, .slice (some ⟨h5, 0, none⟩) jteps.length jteps.length] 27)
      have L9 : Hid (LawS w (w8.alloc (.cells #[.int .i64 su, .int .i64 iu, .slice (some ⟨h2, 0, none⟩) jns.length jns.length, .slice (some ⟨h3, 0, none⟩) juts.length juts.length, .slice (some ⟨h4, 0, none⟩) jids.length jids.length, .slice (some ⟨h5, 0, none⟩) jteps.length jteps.length] 27)) (iaC st it a2 n2 c2 a3 n3 c3 a4 n4 c4 a5 n5 c5) (iaC su iu b2 m2 d2 b3 m3 d3 b4 m4 d4 b5 m5 d5) w6.heap.size w8.heap.size w5.heap.size (w6.heap.size + 1) ⟨st, it, ins, outs, hids, steps⟩ ⟨su, iu, jns, juts, jids, jteps⟩ (iaC st it (some ⟨g2, 0, none⟩) ins.length ins.length (some ⟨g3, 0, none⟩) outs.length outs.length (some ⟨g4, 0, none⟩) hids.length hids.length (some ⟨g5, 0, none⟩) steps.length steps.length) (iaC su iu (some ⟨h2, 0, none⟩) jns.length jns.length (some ⟨h3, 0, none⟩) juts.length juts.length (some ⟨h4, 0, none⟩) jids.length jids.length (some ⟨h5, 0, none⟩) jteps.length jteps.length)) := ⟨S8.out.below bx, ⟨V8.out.below bx, XA8.out.below bx⟩, ⟨VarIs.new w8 #[.int .i64 su, .int .i64 iu, .slice (some ⟨h2, 0, none⟩) jns.length jns.length, .slice (some ⟨h3, 0, none⟩) juts.length juts.length, .slice (some ⟨h4, 0, none⟩) jids.length jids.length, .slice (some ⟨h5, 0, none⟩) jteps.length jteps.length] 27 rfl, XB8.out.below bx⟩⟩

      have b9 := bx.size
      clear bx S8 XA8 V8 XB8
      have ca0 := L9.out.2.1.1.cell (j := 0) (u := .int .i64 st) rfl
      have ca1 := L9.out.2.1.1.cell (j := 1) (u := .int .i64 it) rfl
      have ca2 := L9.out.2.1.1.cell (j := 2) (u := .slice (some ⟨g2, 0, none⟩) ins.length ins.length) rfl
      have ca3 := L9.out.2.1.1.cell (j := 3) (u := .slice (some ⟨g3, 0, none⟩) outs.length outs.length) rfl
      have ca4 := L9.out.2.1.1.cell (j := 4) (u := .slice (some ⟨g4, 0, none⟩) hids.length hids.length) rfl
      have ca5 := L9.out.2.1.1.cell (j := 5) (u := .slice (some ⟨g5, 0, none⟩) steps.length steps.length) rfl
      have cb0 := L9.out.2.2.1.cell (j := 0) (u := .int .i64 su) rfl
      have cb1 := L9.out.2.2.1.cell (j := 1) (u := .int .i64 iu) rfl
      have cb2 := L9.out.2.2.1.cell (j := 2) (u := .slice (some ⟨h2, 0, none⟩) jns.length jns.length) rfl
      have cb3 := L9.out.2.2.1.cell (j := 3) (u := .slice (some ⟨h3, 0, none⟩) juts.length juts.length) rfl
      have cb4 := L9.out.2.2.1.cell (j := 4) (u := .slice (some ⟨h4, 0, none⟩) jids.length jids.length) rfl
      have cb5 := L9.out.2.2.1.cell (j := 5) (u := .slice (some ⟨h5, 0, none⟩) jteps.length jteps.length) rfl
      go_wp2_with fail
      clear ca0 ca1 ca2 ca3 ca4 ca5 cb0 cb1 cb2 cb3 cb4 cb5
      refine (CI.out _ _ _ L9.out.2.1.2.row L9.out.2.2.2.row).mono ?_
      rintro e w10 ⟨rfl, hb⟩
      have L10 := Lib.hid (L9.out.below hb)
      clear hb L9
      have hqq : (q == q) = true := by cases q <;> rfl
      have hqn : (q != q) = false := by cases q <;> rfl
      have E1a : Hid (∀ W, LawS w W (iaC st it a2 n2 c2 a3 n3 c3 a4 n4 c4 a5 n5 c5) (iaC su iu b2 m2 d2 b3 m3 d3 b4 m4 d4 b5 m5 d5) w6.heap.size w8.heap.size w5.heap.size (w6.heap.size + 1) ⟨st, it, ins, outs, hids, steps⟩ ⟨su, iu, jns, juts, jids, jteps⟩ (iaC st it (some ⟨g2, 0, none⟩) ins.length ins.length (some ⟨g3, 0, none⟩) outs.length outs.length (some ⟨g4, 0, none⟩) hids.length hids.length (some ⟨g5, 0, none⟩) steps.length steps.length) (iaC su iu (some ⟨h2, 0, none⟩) jns.length jns.length (some ⟨h3, 0, none⟩) juts.length juts.length (some ⟨h4, 0, none⟩) jids.length jids.length (some ⟨h5, 0, none⟩) jteps.length jteps.length) → Calls Tryz.prog 23 #[.agg #[.int .i64 st, .int .i64 it, .slice a2 n2 c2, .slice a3 n3 c3, .slice a4 n4 c4, .slice a5 n5 c5]] W fun e w' => ∃ v', e = .returned v' ∧ IaRow w' ⟨st, it, ins, outs, hids, steps⟩ v' ∧ LawS w w' (iaC st it a2 n2 c2 a3 n3 c3 a4 n4 c4 a5 n5 c5) (iaC su iu b2 m2 d2 b3 m3 d3 b4 m4 d4 b5 m5 d5) w6.heap.size w8.heap.size w5.heap.size (w6.heap.size + 1) ⟨st, it, ins, outs, hids, steps⟩ ⟨su, iu, jns, juts, jids, jteps⟩ (iaC st it (some ⟨g2, 0, none⟩) ins.length ins.length (some ⟨g3, 0, none⟩) outs.length outs.length (some ⟨g4, 0, none⟩) hids.length hids.length (some ⟨g5, 0, none⟩) steps.length steps.length) (iaC su iu (some ⟨h2, 0, none⟩) jns.length jns.length (some ⟨h3, 0, none⟩) juts.length juts.length (some ⟨h4, 0, none⟩) jids.length jids.length (some ⟨h5, 0, none⟩) jteps.length jteps.length)) := fun W hW => (CTA.out W hW.1.1).mono fun e w' ⟨v', he, hat, hb⟩ => ⟨v', he, hat.row, hW.below hb⟩
      have E2a : Hid (∀ W v', IaRow W ⟨st, it, ins, outs, hids, steps⟩ v' → LawS w W (iaC st it a2 n2 c2 a3 n3 c3 a4 n4 c4 a5 n5 c5) (iaC su iu b2 m2 d2 b3 m3 d3 b4 m4 d4 b5 m5 d5) w6.heap.size w8.heap.size w5.heap.size (w6.heap.size + 1) ⟨st, it, ins, outs, hids, steps⟩ ⟨su, iu, jns, juts, jids, jteps⟩ (iaC st it (some ⟨g2, 0, none⟩) ins.length ins.length (some ⟨g3, 0, none⟩) outs.length outs.length (some ⟨g4, 0, none⟩) hids.length hids.length (some ⟨g5, 0, none⟩) steps.length steps.length) (iaC su iu (some ⟨h2, 0, none⟩) jns.length jns.length (some ⟨h3, 0, none⟩) juts.length juts.length (some ⟨h4, 0, none⟩) jids.length jids.length (some ⟨h5, 0, none⟩) jteps.length jteps.length) → Calls Tryz.prog 26 #[.agg #[.int .i64 st, .int .i64 it, .slice (some ⟨g2, 0, none⟩) ins.length ins.length, .slice (some ⟨g3, 0, none⟩) outs.length outs.length, .slice (some ⟨g4, 0, none⟩) hids.length hids.length, .slice (some ⟨g5, 0, none⟩) steps.length steps.length], v'] W fun e w' => e = .returned (.bool true) ∧ LawS w w' (iaC st it a2 n2 c2 a3 n3 c3 a4 n4 c4 a5 n5 c5) (iaC su iu b2 m2 d2 b3 m3 d3 b4 m4 d4 b5 m5 d5) w6.heap.size w8.heap.size w5.heap.size (w6.heap.size + 1) ⟨st, it, ins, outs, hids, steps⟩ ⟨su, iu, jns, juts, jids, jteps⟩ (iaC st it (some ⟨g2, 0, none⟩) ins.length ins.length (some ⟨g3, 0, none⟩) outs.length outs.length (some ⟨g4, 0, none⟩) hids.length hids.length (some ⟨g5, 0, none⟩) steps.length steps.length) (iaC su iu (some ⟨h2, 0, none⟩) jns.length jns.length (some ⟨h3, 0, none⟩) juts.length juts.length (some ⟨h4, 0, none⟩) jids.length jids.length (some ⟨h5, 0, none⟩) jteps.length jteps.length)) := fun W v' hv hW => (eqIa_any ⟨st, it, ins, outs, hids, steps⟩ ⟨st, it, ins, outs, hids, steps⟩ _ _ W hW.2.1.2.row hv (IaFits.small f2 f3 f4 f5) (IaFits.small f2 f3 f4 f5)).mono fun e w' ⟨he, hb⟩ => ⟨by rw [he, sameB_refl], hW.below hb⟩
      go_wp2_with fail
      have SD : LawS w w10.drew (iaC st it a2 n2 c2 a3 n3 c3 a4 n4 c4 a5 n5 c5) (iaC su iu b2 m2 d2 b3 m3 d3 b4 m4 d4 b5 m5 d5) w6.heap.size w8.heap.size w5.heap.size (w6.heap.size + 1) ⟨st, it, ins, outs, hids, steps⟩ ⟨su, iu, jns, juts, jids, jteps⟩ (iaC st it (some ⟨g2, 0, none⟩) ins.length ins.length (some ⟨g3, 0, none⟩) outs.length outs.length (some ⟨g4, 0, none⟩) hids.length hids.length (some ⟨g5, 0, none⟩) steps.length steps.length) (iaC su iu (some ⟨h2, 0, none⟩) jns.length jns.length (some ⟨h3, 0, none⟩) juts.length juts.length (some ⟨h4, 0, none⟩) jids.length jids.length (some ⟨h5, 0, none⟩) jteps.length jteps.length) := L10.out.drew
      refine wp_region_held_drew (S := fun w' => LawS w w' (iaC st it a2 n2 c2 a3 n3 c3 a4 n4 c4 a5 n5 c5) (iaC su iu b2 m2 d2 b3 m3 d3 b4 m4 d4 b5 m5 d5) w6.heap.size w8.heap.size w5.heap.size (w6.heap.size + 1) ⟨st, it, ins, outs, hids, steps⟩ ⟨su, iu, jns, juts, jids, jteps⟩ (iaC st it (some ⟨g2, 0, none⟩) ins.length ins.length (some ⟨g3, 0, none⟩) outs.length outs.length (some ⟨g4, 0, none⟩) hids.length hids.length (some ⟨g5, 0, none⟩) steps.length steps.length) (iaC su iu (some ⟨h2, 0, none⟩) jns.length jns.length (some ⟨h3, 0, none⟩) juts.length juts.length (some ⟨h4, 0, none⟩) jids.length jids.length (some ⟨h5, 0, none⟩) jteps.length jteps.length)) (by kernel_rfl) SD (fun hHeld => ?_)
      change wpAnyH _ _ _ _ _ 5 (Array.replicate 5 false) _ _
      refine take_yields 0 35 (.agg #[.int .i64 st, .int .i64 it, .slice (some ⟨g2, 0, none⟩) ins.length ins.length, .slice (some ⟨g3, 0, none⟩) outs.length outs.length, .slice (some ⟨g4, 0, none⟩) hids.length hids.length, .slice (some ⟨g5, 0, none⟩) steps.length steps.length]) (fuel := 4) rfl rfl (by kernel_rfl) (by kernel_rfl) (by kernel_rfl) (fun _ _ _ h => h) (yieldsIf_load_mid (by rfl) _ _ rfl (w6.heap.size) 0 rfl (iaC st it (some ⟨g2, 0, none⟩) ins.length ins.length (some ⟨g3, 0, none⟩) outs.length outs.length (some ⟨g4, 0, none⟩) hids.length hids.length (some ⟨g5, 0, none⟩) steps.length steps.length).toList _ (fun w hw => hw.2.1.1.range) Tryz.underlying27 rfl (by kernel_rfl)) hHeld ?_
      simp only [Act.put, List.setIfInBounds_toArray, List.set_cons_zero, List.set_cons_succ]
      refine take_yields 1 36 (.agg #[.int .i64 st, .int .i64 it, .slice a2 n2 c2, .slice a3 n3 c3, .slice a4 n4 c4, .slice a5 n5 c5]) (fuel := 3) rfl rfl (by kernel_rfl) (by kernel_rfl) (by kernel_rfl) (fun _ _ _ h => h) (yieldsIf_load_mid (by rfl) _ _ rfl (w.heap.size) 0 rfl (iaC st it a2 n2 c2 a3 n3 c3 a4 n4 c4 a5 n5 c5).toList _ (fun w hw => hw.1.2.1.range) Tryz.underlying41 rfl (by kernel_rfl)) hHeld ?_
      simp only [Act.put, List.setIfInBounds_toArray, List.set_cons_zero, List.set_cons_succ]
      refine wpAnyH_ready (rs := [2]) (fuel := 2) (by kernel_rfl) (by simp) ?_
      refine AllReadyH.cons rfl (fun K hK => ?_) AllReadyH.nil
      go_simp
      refine (E1a.out _ hHeld).mono ?_
      rintro e w12a ⟨vq, rfl, hrq, hS⟩
      go_wp2_with fail
      refine hK.out _ _ hS (fun hHeld => ?_)
      clear hK K
      refine wpAnyH_ready (rs := [3]) (fuel := 1) (by kernel_rfl) (by simp) ?_
      refine AllReadyH.cons rfl (fun K hK => ?_) AllReadyH.nil
      go_simp
      refine (E2a.out _ _ hrq hHeld).mono ?_
      rintro e w13a ⟨rfl, hS⟩
      clear hrq
      go_wp2_with fail
      refine hK.out _ _ hS (fun hHeld => ?_)
      clear hK K
      refine take_op 4 39 (.bool false) (fuel := 0) rfl rfl (by kernel_rfl) (by kernel_rfl) (by kernel_rfl) (fun _ _ _ h => h) (by rfl) (fun w hSw => by go_simp) hHeld ?_
      simp only [Act.put, List.setIfInBounds_toArray, List.set_cons_zero, List.set_cons_succ]
      refine wpAnyH_done (by kernel_rfl) ?_ _
      have HSb := Lib.hid hHeld
      clear hHeld SD E1a E2a
      have E1b : Hid (∀ W, LawS w W (iaC st it a2 n2 c2 a3 n3 c3 a4 n4 c4 a5 n5 c5) (iaC su iu b2 m2 d2 b3 m3 d3 b4 m4 d4 b5 m5 d5) w6.heap.size w8.heap.size w5.heap.size (w6.heap.size + 1) ⟨st, it, ins, outs, hids, steps⟩ ⟨su, iu, jns, juts, jids, jteps⟩ (iaC st it (some ⟨g2, 0, none⟩) ins.length ins.length (some ⟨g3, 0, none⟩) outs.length outs.length (some ⟨g4, 0, none⟩) hids.length hids.length (some ⟨g5, 0, none⟩) steps.length steps.length) (iaC su iu (some ⟨h2, 0, none⟩) jns.length jns.length (some ⟨h3, 0, none⟩) juts.length juts.length (some ⟨h4, 0, none⟩) jids.length jids.length (some ⟨h5, 0, none⟩) jteps.length jteps.length) → Calls Tryz.prog 23 #[.agg #[.int .i64 su, .int .i64 iu, .slice b2 m2 d2, .slice b3 m3 d3, .slice b4 m4 d4, .slice b5 m5 d5]] W fun e w' => ∃ v', e = .returned v' ∧ IaRow w' ⟨su, iu, jns, juts, jids, jteps⟩ v' ∧ LawS w w' (iaC st it a2 n2 c2 a3 n3 c3 a4 n4 c4 a5 n5 c5) (iaC su iu b2 m2 d2 b3 m3 d3 b4 m4 d4 b5 m5 d5) w6.heap.size w8.heap.size w5.heap.size (w6.heap.size + 1) ⟨st, it, ins, outs, hids, steps⟩ ⟨su, iu, jns, juts, jids, jteps⟩ (iaC st it (some ⟨g2, 0, none⟩) ins.length ins.length (some ⟨g3, 0, none⟩) outs.length outs.length (some ⟨g4, 0, none⟩) hids.length hids.length (some ⟨g5, 0, none⟩) steps.length steps.length) (iaC su iu (some ⟨h2, 0, none⟩) jns.length jns.length (some ⟨h3, 0, none⟩) juts.length juts.length (some ⟨h4, 0, none⟩) jids.length jids.length (some ⟨h5, 0, none⟩) jteps.length jteps.length)) := fun W hW => (CTB.out W hW.1.1).mono fun e w' ⟨v', he, hat, hb⟩ => ⟨v', he, hat.row, hW.below hb⟩
      have E2b : Hid (∀ W v', IaRow W ⟨su, iu, jns, juts, jids, jteps⟩ v' → LawS w W (iaC st it a2 n2 c2 a3 n3 c3 a4 n4 c4 a5 n5 c5) (iaC su iu b2 m2 d2 b3 m3 d3 b4 m4 d4 b5 m5 d5) w6.heap.size w8.heap.size w5.heap.size (w6.heap.size + 1) ⟨st, it, ins, outs, hids, steps⟩ ⟨su, iu, jns, juts, jids, jteps⟩ (iaC st it (some ⟨g2, 0, none⟩) ins.length ins.length (some ⟨g3, 0, none⟩) outs.length outs.length (some ⟨g4, 0, none⟩) hids.length hids.length (some ⟨g5, 0, none⟩) steps.length steps.length) (iaC su iu (some ⟨h2, 0, none⟩) jns.length jns.length (some ⟨h3, 0, none⟩) juts.length juts.length (some ⟨h4, 0, none⟩) jids.length jids.length (some ⟨h5, 0, none⟩) jteps.length jteps.length) → Calls Tryz.prog 26 #[.agg #[.int .i64 su, .int .i64 iu, .slice (some ⟨h2, 0, none⟩) jns.length jns.length, .slice (some ⟨h3, 0, none⟩) juts.length juts.length, .slice (some ⟨h4, 0, none⟩) jids.length jids.length, .slice (some ⟨h5, 0, none⟩) jteps.length jteps.length], v'] W fun e w' => e = .returned (.bool true) ∧ LawS w w' (iaC st it a2 n2 c2 a3 n3 c3 a4 n4 c4 a5 n5 c5) (iaC su iu b2 m2 d2 b3 m3 d3 b4 m4 d4 b5 m5 d5) w6.heap.size w8.heap.size w5.heap.size (w6.heap.size + 1) ⟨st, it, ins, outs, hids, steps⟩ ⟨su, iu, jns, juts, jids, jteps⟩ (iaC st it (some ⟨g2, 0, none⟩) ins.length ins.length (some ⟨g3, 0, none⟩) outs.length outs.length (some ⟨g4, 0, none⟩) hids.length hids.length (some ⟨g5, 0, none⟩) steps.length steps.length) (iaC su iu (some ⟨h2, 0, none⟩) jns.length jns.length (some ⟨h3, 0, none⟩) juts.length juts.length (some ⟨h4, 0, none⟩) jids.length jids.length (some ⟨h5, 0, none⟩) jteps.length jteps.length)) := fun W v' hv hW => (eqIa_any ⟨su, iu, jns, juts, jids, jteps⟩ ⟨su, iu, jns, juts, jids, jteps⟩ _ _ W hW.2.2.2.row hv (IaFits.small t2 t3 t4 t5) (IaFits.small t2 t3 t4 t5)).mono fun e w' ⟨he, hb⟩ => ⟨by rw [he, sameB_refl], hW.below hb⟩
      go_wp2_with fail
      have SD : LawS w w13a.drew (iaC st it a2 n2 c2 a3 n3 c3 a4 n4 c4 a5 n5 c5) (iaC su iu b2 m2 d2 b3 m3 d3 b4 m4 d4 b5 m5 d5) w6.heap.size w8.heap.size w5.heap.size (w6.heap.size + 1) ⟨st, it, ins, outs, hids, steps⟩ ⟨su, iu, jns, juts, jids, jteps⟩ (iaC st it (some ⟨g2, 0, none⟩) ins.length ins.length (some ⟨g3, 0, none⟩) outs.length outs.length (some ⟨g4, 0, none⟩) hids.length hids.length (some ⟨g5, 0, none⟩) steps.length steps.length) (iaC su iu (some ⟨h2, 0, none⟩) jns.length jns.length (some ⟨h3, 0, none⟩) juts.length juts.length (some ⟨h4, 0, none⟩) jids.length jids.length (some ⟨h5, 0, none⟩) jteps.length jteps.length) := HSb.out.drew
      refine wp_region_held_drew (S := fun w' => LawS w w' (iaC st it a2 n2 c2 a3 n3 c3 a4 n4 c4 a5 n5 c5) (iaC su iu b2 m2 d2 b3 m3 d3 b4 m4 d4 b5 m5 d5) w6.heap.size w8.heap.size w5.heap.size (w6.heap.size + 1) ⟨st, it, ins, outs, hids, steps⟩ ⟨su, iu, jns, juts, jids, jteps⟩ (iaC st it (some ⟨g2, 0, none⟩) ins.length ins.length (some ⟨g3, 0, none⟩) outs.length outs.length (some ⟨g4, 0, none⟩) hids.length hids.length (some ⟨g5, 0, none⟩) steps.length steps.length) (iaC su iu (some ⟨h2, 0, none⟩) jns.length jns.length (some ⟨h3, 0, none⟩) juts.length juts.length (some ⟨h4, 0, none⟩) jids.length jids.length (some ⟨h5, 0, none⟩) jteps.length jteps.length)) (by kernel_rfl) SD (fun hHeld => ?_)
      change wpAnyH _ _ _ _ _ 5 (Array.replicate 5 false) _ _
      refine take_yields 0 40 (.agg #[.int .i64 su, .int .i64 iu, .slice (some ⟨h2, 0, none⟩) jns.length jns.length, .slice (some ⟨h3, 0, none⟩) juts.length juts.length, .slice (some ⟨h4, 0, none⟩) jids.length jids.length, .slice (some ⟨h5, 0, none⟩) jteps.length jteps.length]) (fuel := 4) rfl rfl (by kernel_rfl) (by kernel_rfl) (by kernel_rfl) (fun _ _ _ h => h) (yieldsIf_load_mid (by rfl) _ _ rfl (w8.heap.size) 0 rfl (iaC su iu (some ⟨h2, 0, none⟩) jns.length jns.length (some ⟨h3, 0, none⟩) juts.length juts.length (some ⟨h4, 0, none⟩) jids.length jids.length (some ⟨h5, 0, none⟩) jteps.length jteps.length).toList _ (fun w hw => hw.2.2.1.range) Tryz.underlying27 rfl (by kernel_rfl)) hHeld ?_
      simp only [Act.put, List.setIfInBounds_toArray, List.set_cons_zero, List.set_cons_succ]
      refine take_yields 1 41 (.agg #[.int .i64 su, .int .i64 iu, .slice b2 m2 d2, .slice b3 m3 d3, .slice b4 m4 d4, .slice b5 m5 d5]) (fuel := 3) rfl rfl (by kernel_rfl) (by kernel_rfl) (by kernel_rfl) (fun _ _ _ h => h) (yieldsIf_load_mid (by rfl) _ _ rfl (w.heap.size + 1) 0 rfl (iaC su iu b2 m2 d2 b3 m3 d3 b4 m4 d4 b5 m5 d5).toList _ (fun w hw => hw.1.2.2.range) Tryz.underlying41 rfl (by kernel_rfl)) hHeld ?_
      simp only [Act.put, List.setIfInBounds_toArray, List.set_cons_zero, List.set_cons_succ]
      refine wpAnyH_ready (rs := [2]) (fuel := 2) (by kernel_rfl) (by simp) ?_
      refine AllReadyH.cons rfl (fun K hK => ?_) AllReadyH.nil
      go_simp
      refine (E1b.out _ hHeld).mono ?_
      rintro e w12b ⟨vq, rfl, hrq, hS⟩
      go_wp2_with fail
      refine hK.out _ _ hS (fun hHeld => ?_)
      clear hK K
      refine wpAnyH_ready (rs := [3]) (fuel := 1) (by kernel_rfl) (by simp) ?_
      refine AllReadyH.cons rfl (fun K hK => ?_) AllReadyH.nil
      go_simp
      refine (E2b.out _ _ hrq hHeld).mono ?_
      rintro e w13b ⟨rfl, hS⟩
      clear hrq
      go_wp2_with fail
      refine hK.out _ _ hS (fun hHeld => ?_)
      clear hK K
      refine take_op 4 44 (.bool false) (fuel := 0) rfl rfl (by kernel_rfl) (by kernel_rfl) (by kernel_rfl) (fun _ _ _ h => h) (by rfl) (fun w hSw => by go_simp) hHeld ?_
      simp only [Act.put, List.setIfInBounds_toArray, List.set_cons_zero, List.set_cons_succ]
      refine wpAnyH_done (by kernel_rfl) ?_ _
      have HSc := Lib.hid hHeld
      clear hHeld SD E1b E2b
      go_wp2_with fail
      go_ret
      exact ⟨rfl, HSc.out.1.1⟩
    · have hr2 : roomOf (rm : Int) (m2 + m3 + m4 + m5) = -1 := roomOf_neg (by omega)
      refine (CY.out _ _ (by omega) hrm2).mono ?_
      rw [hr2]
      rintro e w2 ⟨rfl, hb⟩
      have S2 := Lib.hid (S1.out.below hb)
      clear hb S1
      go_wp2_with fail
      go_ret
      exact ⟨rfl, S2.out.1⟩
  · have hr : roomOf 1048576 (n2 + n3 + n4 + n5) = -1 := roomOf_neg (by omega)
    rw [hr] at CZ
    go_enter Tryz.func5, Tryz.ntmps5
    go_wp2_with fail
    refine (CZ.out _).mono ?_
    rintro e w1 ⟨rfl, hb⟩
    have S1 := Lib.hid (S0.out.below hb)
    clear hb CZ S0
    go_wp2_with fail
    go_ret
    exact ⟨rfl, S1.out.1⟩

end Go.Proofs.YtnglogkkkpegnaaGreat
