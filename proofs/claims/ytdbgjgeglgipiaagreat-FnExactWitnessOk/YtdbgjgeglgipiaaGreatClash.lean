/-
  The contract of the program's clash: whether one of two rows of steps says a shared action that the other does not take. Conditions: the lists have at most 2^20 elements.
-/
import Derived.Test.YtdbgjgeglgipiaaGreatClashMath
import Derived.Test.YtdbgjgeglgipiaaGreatJoin2
import Derived.Test.YtdbgjgeglgipiaaGreatRowOf
import Derived.Test.YtdbgjgeglgipiaaGreatIaLaw
import Derived.Test.YtdbgjgeglgipiaaGreatSetHas
import Derived.WalkMore
namespace Go.Proofs.YtdbgjgeglgipiaaGreat
open Go.RowKit

set_option maxRecDepth 20000 in
set_option maxHeartbeats 6400000 in
theorem clash_any (a b : IaD) (v u : Value) (w : World) (h : IaRow w a v) (k : IaRow w b u) (fa : Small a) (fb : Small b) (sa : Option Addr) (sn sc : Nat) (sh : List Int) (hs : Row w sa sn sh) (hsn : sn ≤ 1048576) (ra : Option Addr) (rn rc : Nat) (rowA : List St) (hra : RowS w ra rn rowA) (hrn : rn ≤ 400) (rb : Option Addr) (rm rd : Nat) (rowB : List St) (hrb : RowS w rb rm rowB) (hrm : rm ≤ 400) :
    Calls Tryz.prog 92 #[v, u, .slice sa sn sc, .slice ra rn rc, .slice rb rm rd] w fun e w' => e = .returned (.bool (tellB sh (Lib.compact (actsR rowA a.outs)) (Lib.compact (actsR rowB b.ins)) || tellB sh (Lib.compact (actsR rowB b.outs)) (Lib.compact (actsR rowA a.ins)))) ∧ Below w.heap.size w w' := by
  obtain ⟨a2, n2, c2, a3, n3, c3, a4, n4, c4, a5, n5, c5, rfl, r2, r3, r4, r5⟩ := h
  obtain ⟨b2, m2, d2, b3, m3, d3, b4, m4, d4, b5, m5, d5, rfl, q2, q3, q4, q5⟩ := k
  obtain ⟨st, it, ins, outs, hids, steps⟩ := a
  obtain ⟨su, iu, jns, juts, jids, jteps⟩ := b
  obtain ⟨f2, f3, f4, f5⟩ := fa
  obtain ⟨g2, g3, g4, g5⟩ := fb
  simp only at r2 r3 r4 r5 q2 q3 q4 q5 f2 f3 f4 f5 g2 g3 g4 g5
  have HA : Hid (∀ W, Below w.heap.size w W → IaRow W ⟨st, it, ins, outs, hids, steps⟩ (.agg #[.int .i64 st, .int .i64 it, .slice a2 n2 c2, .slice a3 n3 c3, .slice a4 n4 c4, .slice a5 n5 c5])) := fun W hW => IaRow.below ⟨a2, n2, c2, a3, n3, c3, a4, n4, c4, a5, n5, c5, rfl, r2, r3, r4, r5⟩ hW
  have HB : Hid (∀ W, Below w.heap.size w W → IaRow W ⟨su, iu, jns, juts, jids, jteps⟩ (.agg #[.int .i64 su, .int .i64 iu, .slice b2 m2 d2, .slice b3 m3 d3, .slice b4 m4 d4, .slice b5 m5 d5])) := fun W hW => IaRow.below ⟨b2, m2, d2, b3, m3, d3, b4, m4, d4, b5, m5, d5, rfl, q2, q3, q4, q5⟩ hW
  have S0 := Lib.hid (Box2.start w (iaC st it a2 n2 c2 a3 n3 c3 a4 n4 c4 a5 n5 c5) (iaC su iu b2 m2 d2 b3 m3 d3 b4 m4 d4 b5 m5 d5) 31)
  have e2 := r2.1
  have e3 := r3.1
  have e4 := r4.1
  have k2 := q2.1
  have k3 := q3.1
  have k4 := q4.1
  rw [e2] at f2
  rw [e3] at f3
  rw [e4] at f4
  rw [k2] at g2
  rw [k3] at g3
  rw [k4] at g4
  have R2 := Lib.hid r2
  have R3 := Lib.hid r3
  have R4 := Lib.hid r4
  have R5 := Lib.hid r5
  have Q2 := Lib.hid q2
  have Q3 := Lib.hid q3
  have Q4 := Lib.hid q4
  have Q5 := Lib.hid q5
  clear r2 r3 r4 r5 q2 q3 q4 q5
  have RA := Lib.hid hra
  have RB := Lib.hid hrb
  have RS := Lib.hid hs
  clear hra hrb hs HA HB
  simp only
  obtain ⟨L0, hL0⟩ : ∃ l, l = Lib.compact (actsR rowA outs) := ⟨_, rfl⟩
  obtain ⟨L1, hL1⟩ : ∃ l, l = Lib.compact (actsR rowB jns) := ⟨_, rfl⟩
  obtain ⟨L2, hL2⟩ : ∃ l, l = Lib.compact (actsR rowB juts) := ⟨_, rfl⟩
  obtain ⟨L3, hL3⟩ : ∃ l, l = Lib.compact (actsR rowA ins) := ⟨_, rfl⟩
  have hn0 : L0.length ≤ 400 := by
    rw [hL0]
    refine Nat.le_trans (Lib.compact_length_le _) ?_
    unfold actsR
    rw [List.length_map]
    refine Nat.le_trans (List.length_filter_le _ _) ?_
    rw [RA.out.1]
    exact hrn
  have hn1 : L1.length ≤ 400 := by
    rw [hL1]
    refine Nat.le_trans (Lib.compact_length_le _) ?_
    unfold actsR
    rw [List.length_map]
    refine Nat.le_trans (List.length_filter_le _ _) ?_
    rw [RB.out.1]
    exact hrm
  have hn2 : L2.length ≤ 400 := by
    rw [hL2]
    refine Nat.le_trans (Lib.compact_length_le _) ?_
    unfold actsR
    rw [List.length_map]
    refine Nat.le_trans (List.length_filter_le _ _) ?_
    rw [RB.out.1]
    exact hrm
  have hn3 : L3.length ≤ 400 := by
    rw [hL3]
    refine Nat.le_trans (Lib.compact_length_le _) ?_
    unfold actsR
    rw [List.length_map]
    refine Nat.le_trans (List.length_filter_le _ _) ?_
    rw [RA.out.1]
    exact hrn
  have CA3 : Hid (∀ W, Box2 w W w.heap.size (w.heap.size + 1) 31 (iaC st it a2 n2 c2 a3 n3 c3 a4 n4 c4 a5 n5 c5) (iaC su iu b2 m2 d2 b3 m3 d3 b4 m4 d4 b5 m5 d5) → Calls Tryz.prog 102 #[.slice ra rn rc, .slice a3 n3 c3] W fun e w' => ∃ ad cc, e = .returned (.slice ad L0.length cc) ∧ Owns w' w.heap.size (.slice ad L0.length cc) L0.length L0 ∧ Below W.heap.size W w') := fun W hW =>
    (actsOfRow_any ra rn rc rowA a3 n3 c3 outs W (RA.out.below hW.1) (by omega) (R3.out.below hW.1) (by omega)).mono fun e w' h => by
      obtain ⟨v, he, ho, hb⟩ := h
      rw [← hL0] at ho
      obtain ⟨ad, cc, rfl⟩ := ho.form
      exact ⟨ad, cc, he, ho.mono hW.1.size, hb⟩
  have CB2 : Hid (∀ W, Box2 w W w.heap.size (w.heap.size + 1) 31 (iaC st it a2 n2 c2 a3 n3 c3 a4 n4 c4 a5 n5 c5) (iaC su iu b2 m2 d2 b3 m3 d3 b4 m4 d4 b5 m5 d5) → Calls Tryz.prog 102 #[.slice rb rm rd, .slice b2 m2 d2] W fun e w' => ∃ ad cc, e = .returned (.slice ad L1.length cc) ∧ Owns w' w.heap.size (.slice ad L1.length cc) L1.length L1 ∧ Below W.heap.size W w') := fun W hW =>
    (actsOfRow_any rb rm rd rowB b2 m2 d2 jns W (RB.out.below hW.1) (by omega) (Q2.out.below hW.1) (by omega)).mono fun e w' h => by
      obtain ⟨v, he, ho, hb⟩ := h
      rw [← hL1] at ho
      obtain ⟨ad, cc, rfl⟩ := ho.form
      exact ⟨ad, cc, he, ho.mono hW.1.size, hb⟩
  have CB3 : Hid (∀ W, Box2 w W w.heap.size (w.heap.size + 1) 31 (iaC st it a2 n2 c2 a3 n3 c3 a4 n4 c4 a5 n5 c5) (iaC su iu b2 m2 d2 b3 m3 d3 b4 m4 d4 b5 m5 d5) → Calls Tryz.prog 102 #[.slice rb rm rd, .slice b3 m3 d3] W fun e w' => ∃ ad cc, e = .returned (.slice ad L2.length cc) ∧ Owns w' w.heap.size (.slice ad L2.length cc) L2.length L2 ∧ Below W.heap.size W w') := fun W hW =>
    (actsOfRow_any rb rm rd rowB b3 m3 d3 juts W (RB.out.below hW.1) (by omega) (Q3.out.below hW.1) (by omega)).mono fun e w' h => by
      obtain ⟨v, he, ho, hb⟩ := h
      rw [← hL2] at ho
      obtain ⟨ad, cc, rfl⟩ := ho.form
      exact ⟨ad, cc, he, ho.mono hW.1.size, hb⟩
  have CA2 : Hid (∀ W, Box2 w W w.heap.size (w.heap.size + 1) 31 (iaC st it a2 n2 c2 a3 n3 c3 a4 n4 c4 a5 n5 c5) (iaC su iu b2 m2 d2 b3 m3 d3 b4 m4 d4 b5 m5 d5) → Calls Tryz.prog 102 #[.slice ra rn rc, .slice a2 n2 c2] W fun e w' => ∃ ad cc, e = .returned (.slice ad L3.length cc) ∧ Owns w' w.heap.size (.slice ad L3.length cc) L3.length L3 ∧ Below W.heap.size W w') := fun W hW =>
    (actsOfRow_any ra rn rc rowA a2 n2 c2 ins W (RA.out.below hW.1) (by omega) (R2.out.below hW.1) (by omega)).mono fun e w' h => by
      obtain ⟨v, he, ho, hb⟩ := h
      rw [← hL3] at ho
      obtain ⟨ad, cc, rfl⟩ := ho.form
      exact ⟨ad, cc, he, ho.mono hW.1.size, hb⟩
  rw [← hL0, ← hL1, ← hL2, ← hL3]
  clear hL0 hL1 hL2 hL3
  obtain ⟨R, hR⟩ : ∃ r, r = (tellB sh L0 L1 || tellB sh L2 L3) := ⟨_, rfl⟩
  rw [← hR]
  have HR := Lib.hid hR
  clear hR
  go_enter Tryz.func92, Tryz.ntmps92
  go_wp2_with fail
  go_step3
  go_wp2_with fail
  have SD := S0.out.drew
  clear S0
  refine wp_region_held_drew (S := fun w' => Box2 w w' w.heap.size (w.heap.size + 1) 31 (iaC st it a2 n2 c2 a3 n3 c3 a4 n4 c4 a5 n5 c5) (iaC su iu b2 m2 d2 b3 m3 d3 b4 m4 d4 b5 m5 d5)) (by kernel_rfl) SD (fun hHeld => ?_)
  change wpAnyH _ _ _ _ _ 21 (Array.replicate 21 false) _ _
  refine take_op 0 17 (.slice ra rn rc) (fuel := 20) rfl rfl (by kernel_rfl) (by kernel_rfl) (by kernel_rfl) (fun _ _ _ h => h) (by rfl) (fun w hSw => by go_simp) hHeld ?_
  simp only [Act.put, List.setIfInBounds_toArray, List.set_cons_zero, List.set_cons_succ]
  refine take_op 1 18 (.pointer (some ⟨w.heap.size, 3, none⟩)) (fuel := 19) rfl rfl (by kernel_rfl) (by kernel_rfl) (by kernel_rfl) (fun _ _ _ h => h) (by rfl) (fun w hSw => by go_simp) hHeld ?_
  simp only [Act.put, List.setIfInBounds_toArray, List.set_cons_zero, List.set_cons_succ]
  refine take_op 2 19 (.slice a3 n3 c3) (fuel := 18) rfl rfl (by kernel_rfl) (by kernel_rfl) (by kernel_rfl) (fun _ _ _ h => h) (by rfl) (fun w hSw => by have m := hSw.2.1.cell (j := 3) (u := .slice a3 n3 c3) rfl; go_simp) hHeld ?_
  simp only [Act.put, List.setIfInBounds_toArray, List.set_cons_zero, List.set_cons_succ]
  refine take_op 4 21 (.slice rb rm rd) (fuel := 17) rfl rfl (by kernel_rfl) (by kernel_rfl) (by kernel_rfl) (fun _ _ _ h => h) (by rfl) (fun w hSw => by go_simp) hHeld ?_
  simp only [Act.put, List.setIfInBounds_toArray, List.set_cons_zero, List.set_cons_succ]
  refine take_op 5 22 (.pointer (some ⟨w.heap.size + 1, 2, none⟩)) (fuel := 16) rfl rfl (by kernel_rfl) (by kernel_rfl) (by kernel_rfl) (fun _ _ _ h => h) (by rfl) (fun w hSw => by go_simp) hHeld ?_
  simp only [Act.put, List.setIfInBounds_toArray, List.set_cons_zero, List.set_cons_succ]
  refine take_op 6 23 (.slice b2 m2 d2) (fuel := 15) rfl rfl (by kernel_rfl) (by kernel_rfl) (by kernel_rfl) (fun _ _ _ h => h) (by rfl) (fun w hSw => by have m := hSw.2.2.cell (j := 2) (u := .slice b2 m2 d2) rfl; go_simp) hHeld ?_
  simp only [Act.put, List.setIfInBounds_toArray, List.set_cons_zero, List.set_cons_succ]
  refine take_op 9 26 (.slice rb rm rd) (fuel := 14) rfl rfl (by kernel_rfl) (by kernel_rfl) (by kernel_rfl) (fun _ _ _ h => h) (by rfl) (fun w hSw => by go_simp) hHeld ?_
  simp only [Act.put, List.setIfInBounds_toArray, List.set_cons_zero, List.set_cons_succ]
  refine take_op 10 27 (.pointer (some ⟨w.heap.size + 1, 3, none⟩)) (fuel := 13) rfl rfl (by kernel_rfl) (by kernel_rfl) (by kernel_rfl) (fun _ _ _ h => h) (by rfl) (fun w hSw => by go_simp) hHeld ?_
  simp only [Act.put, List.setIfInBounds_toArray, List.set_cons_zero, List.set_cons_succ]
  refine take_op 11 28 (.slice b3 m3 d3) (fuel := 12) rfl rfl (by kernel_rfl) (by kernel_rfl) (by kernel_rfl) (fun _ _ _ h => h) (by rfl) (fun w hSw => by have m := hSw.2.2.cell (j := 3) (u := .slice b3 m3 d3) rfl; go_simp) hHeld ?_
  simp only [Act.put, List.setIfInBounds_toArray, List.set_cons_zero, List.set_cons_succ]
  refine take_op 13 30 (.slice ra rn rc) (fuel := 11) rfl rfl (by kernel_rfl) (by kernel_rfl) (by kernel_rfl) (fun _ _ _ h => h) (by rfl) (fun w hSw => by go_simp) hHeld ?_
  simp only [Act.put, List.setIfInBounds_toArray, List.set_cons_zero, List.set_cons_succ]
  refine take_op 14 31 (.pointer (some ⟨w.heap.size, 2, none⟩)) (fuel := 10) rfl rfl (by kernel_rfl) (by kernel_rfl) (by kernel_rfl) (fun _ _ _ h => h) (by rfl) (fun w hSw => by go_simp) hHeld ?_
  simp only [Act.put, List.setIfInBounds_toArray, List.set_cons_zero, List.set_cons_succ]
  refine take_op 15 32 (.slice a2 n2 c2) (fuel := 9) rfl rfl (by kernel_rfl) (by kernel_rfl) (by kernel_rfl) (fun _ _ _ h => h) (by rfl) (fun w hSw => by have m := hSw.2.1.cell (j := 2) (u := .slice a2 n2 c2) rfl; go_simp) hHeld ?_
  simp only [Act.put, List.setIfInBounds_toArray, List.set_cons_zero, List.set_cons_succ]
  refine join_gen (ι := Nat × Option Addr × Nat × Option Addr × Nat × Option Addr × Nat × Option Addr × Nat) (fun i => ⟨#[.agg #[.int .i64 st, .int .i64 it, .slice a2 n2 c2, .slice a3 n3 c3, .slice a4 n4 c4, .slice a5 n5 c5], .agg #[.int .i64 su, .int .i64 iu, .slice b2 m2 d2, .slice b3 m3 d3, .slice b4 m4 d4, .slice b5 m5 d5], .slice sa sn sc, .slice ra rn rc, .slice rb rm rd, .pointer (some ⟨w.heap.size, 0, none⟩), .pointer (some ⟨w.heap.size + 1, 0, none⟩), undef, undef, undef, .bool false, .pointer (some ⟨i.1, 0, none⟩), undef, undef, undef, undef, undef, .slice ra rn rc, .pointer (some ⟨w.heap.size, 3, none⟩), .slice a3 n3 c3, .slice i.2.1 L0.length i.2.2.1, .slice rb rm rd, .pointer (some ⟨w.heap.size + 1, 2, none⟩), .slice b2 m2 d2, .slice i.2.2.2.1 L1.length i.2.2.2.2.1, .agg #[.slice i.2.1 L0.length i.2.2.1, .slice i.2.2.2.1 L1.length i.2.2.2.2.1], .slice rb rm rd, .pointer (some ⟨w.heap.size + 1, 3, none⟩), .slice b3 m3 d3, .slice i.2.2.2.2.2.1 L2.length i.2.2.2.2.2.2.1, .slice ra rn rc, .pointer (some ⟨w.heap.size, 2, none⟩), .slice a2 n2 c2, .slice i.2.2.2.2.2.2.2.1 L3.length i.2.2.2.2.2.2.2.2, .agg #[.slice i.2.2.2.2.2.1 L2.length i.2.2.2.2.2.2.1, .slice i.2.2.2.2.2.2.2.1 L3.length i.2.2.2.2.2.2.2.2], .agg #[.slice i.2.1 L0.length i.2.2.1, .slice i.2.2.2.1 L1.length i.2.2.2.2.1, .slice i.2.2.2.2.2.1 L2.length i.2.2.2.2.2.2.1, .slice i.2.2.2.2.2.2.2.1 L3.length i.2.2.2.2.2.2.2.2], undef, undef, undef, undef, undef, undef, undef, undef, undef, undef, undef, undef, undef, undef, undef, undef, undef, undef, undef, undef, undef, undef, undef, undef], []⟩) (fun i we => Below w.heap.size w we ∧ i.1 < we.heap.size ∧ we.rangeAt i.1 0 [.slice i.2.1 L0.length i.2.2.1, .slice i.2.2.2.1 L1.length i.2.2.2.2.1, .slice i.2.2.2.2.2.1 L2.length i.2.2.2.2.2.2.1, .slice i.2.2.2.2.2.2.2.1 L3.length i.2.2.2.2.2.2.2.2] ∧ Owns we w.heap.size (.slice i.2.1 L0.length i.2.2.1) L0.length L0 ∧ Owns we w.heap.size (.slice i.2.2.2.1 L1.length i.2.2.2.2.1) L1.length L1 ∧ Owns we w.heap.size (.slice i.2.2.2.2.2.1 L2.length i.2.2.2.2.2.2.1) L2.length L2 ∧ Owns we w.heap.size (.slice i.2.2.2.2.2.2.2.1 L3.length i.2.2.2.2.2.2.2.2) L3.length L3) ?_ (fun REST => ?_)
  · rintro ⟨bx, x0, y0, x1, y1, x2, y2, x3, y3⟩ we ⟨hB, hlt, hrg, o0, o1, o2, o3⟩
    simp only at hB hlt hrg o0 o1 o2 o3 ⊢
    clear hHeld SD
    have BE := Lib.hid hB
    have RG := Lib.hid hrg
    have P0 := Lib.hid o0.row.2.2.2
    have P1 := Lib.hid o1.row.2.2.2
    have P2 := Lib.hid o2.row.2.2.2
    have P3 := Lib.hid o3.row.2.2.2
    clear hB hrg o0 o1 o2 o3 CA2 CA3 CB2 CB3 R2 R3 R4 R5 Q2 Q3 Q4 Q5 RA RB
    go_wp2_with fail
    go_step3
    go_wp2_with (refine wpList_load_mid rfl _ _ rfl bx 0 rfl [.slice x0 L0.length y0, .slice x1 L1.length y1, .slice x2 L2.length y2, .slice x3 L3.length y3] _ RG.out Tryz.underlying139 rfl (by kernel_rfl) ?_)
    go_loopw [12, 37] (fun fv iv wr => ∃ k : Nat, k ≤ 2 ∧ fv = .bool false ∧ iv = .int .i64 (k : Int) ∧ Hid (0 < k → tellB sh L0 L1 = false) ∧ Hid (1 < k → tellB sh L2 L3 = false) ∧ Hid (Below w.heap.size w wr) ∧ Hid (Below we.heap.size we wr)) (fun _ iv _ => 2 - (intOf iv).toNat)
    case atStart => exact ⟨0, by omega, rfl, rfl, fun h => absurd h (by omega), fun h => absurd h (by omega), BE.out, Below.refl _ _⟩
    case round =>
      obtain ⟨k, hk, rfl, rfl, HT0, HT1, HB, HBE⟩ := hrel
      by_cases hlt2 : k < 2
      · have hall : ∃ (xa : Option Addr) (xc : Nat) (X : List Int) (ya : Option Addr) (yc : Nat) (Y : List Int), (∀ W, (Instr.index 139 (.agg #[.slice x0 L0.length y0, .slice x1 L1.length y1, .slice x2 L2.length y2, .slice x3 L3.length y3]) (.int .i64 (k : Int))).run Tryz.prog W = .ok (.agg #[.slice xa X.length xc, .slice ya Y.length yc]) W) ∧ Row we xa X.length X ∧ Row we ya Y.length Y ∧ X.length ≤ 400 ∧ Y.length ≤ 400 ∧ (tellB sh X Y = true → R = true) ∧ (tellB sh X Y = false → (0 < k + 1 → tellB sh L0 L1 = false) ∧ (1 < k + 1 → tellB sh L2 L3 = false)) := by
          by_cases h0 : k = 0
          · subst h0
            exact ⟨x0, y0, L0, x1, y1, L1, fun _ => rfl, P0.out, P1.out, hn0, hn1, fun h => by rw [HR.out, h]; rfl, fun h => ⟨fun _ => h, fun h1 => absurd h1 (by omega)⟩⟩
          · obtain rfl : k = 1 := by omega
            exact ⟨x2, y2, L2, x3, y3, L3, fun _ => rfl, P2.out, P3.out, hn2, hn3, fun h => by rw [HR.out, h, Bool.or_true], fun h => ⟨fun _ => HT0.out (by omega), fun _ => h⟩⟩
        obtain ⟨xa, xc, X, ya, yc, Y, hix, rx, ry, lx, ly, hyes, hno⟩ := hall
        have RX := Lib.hid (rx.below HBE.out)
        have RY := Lib.hid (ry.below HBE.out)
        have HY := Lib.hid hyes
        have HN := Lib.hid hno
        obtain ⟨nx, hnx⟩ : ∃ n, n = X.length := ⟨_, rfl⟩
        rw [← hnx] at hix lx RX
        obtain ⟨ny, hny⟩ : ∃ n, n = Y.length := ⟨_, rfl⟩
        rw [← hny] at hix ly RY
        have HNX := Lib.hid hnx
        have hk2 : (k : Int) < 2 := by omega
        clear rx ry hyes hno hnx hny
        have hW1 : Below wr.heap.size wr (wr.alloc (.cells #[.slice xa nx xc, .slice ya ny yc] 138)) := (Below.refl _ _).alloc (Nat.le_refl _) _
        have V1 := VarIs.new wr #[.slice xa nx xc, .slice ya ny yc] 138 rfl
        have gy := V1.cell (j := 1) (u := .slice ya ny yc) rfl
        have RX1 := Lib.hid (RX.out.below hW1)
        have RY1 := Lib.hid (RY.out.below hW1)
        have RS1 := Lib.hid (RS.out.below (HB.out.trans (hW1.mono HB.out.size)))
        have HB1 : Hid (Below w.heap.size w (wr.alloc (.cells #[.slice xa nx xc, .slice ya ny yc] 138))) := HB.out.trans (hW1.mono HB.out.size)
        have HBE1 : Hid (Below we.heap.size we (wr.alloc (.cells #[.slice xa nx xc, .slice ya ny yc] 138))) := HBE.out.trans (hW1.mono HBE.out.size)
        clear hW1 V1 RX RY HB HBE
        go_wp2_with fail
        go_loopw [12, 43] (fun fv jv wr2 => ∃ j : Nat, j ≤ nx ∧ fv = .bool false ∧ jv = .int .i64 (j : Int) ∧ Hid (tellB sh (X.take j) Y = false) ∧ (wr.alloc (.cells #[.slice xa nx xc, .slice ya ny yc] 138)) = wr2) (fun _ jv _ => nx - (intOf jv).toNat)
        case atStart => exact ⟨0, Nat.zero_le _, rfl, rfl, rfl, rfl⟩
        case round =>
          obtain ⟨j, hj, rfl, rfl, HT, rfl⟩ := hrel
          by_cases hltj : j < nx
          · obtain ⟨b, off, rfl, hb, hcell⟩ := RX1.out.2 (by omega)
            have hjx : j < X.length := by rw [RX1.out.1]; exact hltj
            obtain ⟨x, hx⟩ : ∃ x, x = X[j] := ⟨_, rfl⟩
            have g0 : (wr.alloc (.cells #[.slice (some ⟨b, off, none⟩) nx xc, .slice ya ny yc] 138)).cell? ⟨b, off + j, none⟩ = some (.int .i64 x) := by
              rw [hcell j hltj, getD_eq X j hjx, hx]
            have HST : Hid (tellB sh (X.take (j + 1)) Y = (hasB sh x && !hasB Y x)) := by
              unfold Hid
              rw [List.take_succ_eq_append_getElem hjx, ← hx, tell_snoc, HT.out, Bool.false_or]
            have HM : Hid (x ∈ X) := by unfold Hid; rw [hx]; exact List.getElem_mem hjx
            obtain ⟨p, hp⟩ : ∃ p, p = hasB sh x := ⟨_, rfl⟩
            obtain ⟨q, hq⟩ : ∃ q, q = hasB Y x := ⟨_, rfl⟩
            have C1 : Hid (∀ W, Row W sa sn sh → Calls Tryz.prog 26 #[.slice sa sn sc, .int .i64 x] W fun e w' => e = .returned (.bool p) ∧ W = w') := fun W hW => by
              rw [hp]
              exact (implSetHas_any sa sn sc x sh W hW (by omega)).mono fun e w' h => ⟨h.1, h.2.symm⟩
            have C2 : Hid (∀ W, Row W ya ny Y → Calls Tryz.prog 26 #[.slice ya ny yc, .int .i64 x] W fun e w' => e = .returned (.bool q) ∧ W = w') := fun W hW => by
              rw [hq]
              exact (implSetHas_any ya ny yc x Y W hW (by omega)).mono fun e w' h => ⟨h.1, h.2.symm⟩
            have HP := Lib.hid hp
            have HQ := Lib.hid hq
            clear hx hcell hp hq
            go_wp2_with fail
            refine (C1.out _ RS1.out).mono ?_
            rintro e w' ⟨rfl, rfl⟩
            cases p with
            | false =>
              have HS2 : Hid (tellB sh (X.take (j + 1)) Y = false) := by unfold Hid; rw [HST.out, ← HP.out]; rfl
              go_wp2_with fail
              go_roundw
              case rel => exact ⟨j + 1, by omega, rfl, by go_num, HS2.out, (by first | rfl | trivial)⟩
              case measure => simp [intOf]; omega
            | true =>
              go_wp2_with fail
              refine (C2.out _ RY1.out).mono ?_
              rintro e w' ⟨rfl, rfl⟩
              cases q with
              | true =>
                have HS2 : Hid (tellB sh (X.take (j + 1)) Y = false) := by unfold Hid; rw [HST.out, ← HP.out, ← HQ.out]; rfl
                go_wp2_with fail
                go_roundw
                case rel => exact ⟨j + 1, by omega, rfl, by go_num, HS2.out, (by first | rfl | trivial)⟩
                case measure => simp [intOf]; omega
              | false =>
                have HS2 : Hid (R = true) := HY.out (tell_hit HM.out HP.out.symm HQ.out.symm)
                go_wp2_with fail
                try rw [Exit.noGoto_ret]
                go_ret
                rw [HS2.out]
                exact ⟨rfl, HB1.out⟩
          · have HE : Hid (tellB sh X Y = false) := by
              have := HT.out
              rw [List.take_of_length_le (by rw [RX1.out.1]; omega)] at this
              exact this
            go_wp2_with fail
            go_roundw
            case rel => exact ⟨k + 1, by omega, rfl, by go_num, (HN.out HE.out).1, (HN.out HE.out).2, HB1.out, HBE1.out⟩
            case measure => simp [intOf]; omega
      · have HE : Hid (R = false) := by unfold Hid; rw [HR.out, HT0.out (by omega), HT1.out (by omega)]; rfl
        go_wp2_with fail
        try rw [Exit.noGoto_ret]
        go_ret
        rw [HE.out]
        exact ⟨rfl, HB.out⟩
  refine wpAnyH_ready (rs := [3, 19]) (fuel := 8) (by kernel_rfl) (by simp) ?_
  refine AllReadyH.cons rfl (fun K hK => ?_) ?_
  · go_simp
    refine (CA3.out _ hHeld).mono ?_
    rintro e wp1 ⟨a0z1, c0z1, rfl, ho, hb⟩
    have o01 : Hid (Owns wp1 w.heap.size (.slice a0z1 L0.length c0z1) L0.length L0) := ho
    have hS1 := hHeld.below hb
    clear hb ho
    go_wp2_with fail
    refine hK.out _ _ hS1 (fun hHeld => ?_)
    clear hK K hS1
    refine wpAnyH_ready (rs := [7, 19]) (fuel := 7) (by kernel_rfl) (by simp) ?_
    refine AllReadyH.cons rfl (fun K hK => ?_) ?_
    · go_simp
      refine (CB2.out _ hHeld).mono ?_
      rintro e wp2 ⟨a1z2, c1z2, rfl, ho, hb⟩
      have o02 : Hid (Owns wp2 w.heap.size (.slice a0z1 L0.length c0z1) L0.length L0) := o01.out.below (hb)
      have o12 : Hid (Owns wp2 w.heap.size (.slice a1z2 L1.length c1z2) L1.length L1) := ho
      have hS2 := hHeld.below hb
      clear hb ho
      go_wp2_with fail
      refine hK.out _ _ hS2 (fun hHeld => ?_)
      clear hK K hS2
      refine take_op 8 25 (.agg #[.slice a0z1 L0.length c0z1, .slice a1z2 L1.length c1z2]) (fuel := 6) rfl rfl (by kernel_rfl) (by kernel_rfl) (by kernel_rfl) (fun _ _ _ h => h) (by rfl) (fun w hSw => by go_simp) hHeld ?_
      simp only [Act.put, List.setIfInBounds_toArray, List.set_cons_zero, List.set_cons_succ]
      refine wpAnyH_ready (rs := [12, 19]) (fuel := 5) (by kernel_rfl) (by simp) ?_
      refine AllReadyH.cons rfl (fun K hK => ?_) ?_
      · go_simp
        refine (CB3.out _ hHeld).mono ?_
        rintro e wp3 ⟨a2z3, c2z3, rfl, ho, hb⟩
        have o03 : Hid (Owns wp3 w.heap.size (.slice a0z1 L0.length c0z1) L0.length L0) := o02.out.below (hb)
        have o13 : Hid (Owns wp3 w.heap.size (.slice a1z2 L1.length c1z2) L1.length L1) := o12.out.below (hb)
        have o23 : Hid (Owns wp3 w.heap.size (.slice a2z3 L2.length c2z3) L2.length L2) := ho
        have hS3 := hHeld.below hb
        clear hb ho
        go_wp2_with fail
        refine hK.out _ _ hS3 (fun hHeld => ?_)
        clear hK K hS3
        refine wpAnyH_ready (rs := [16, 19]) (fuel := 4) (by kernel_rfl) (by simp) ?_
        refine AllReadyH.cons rfl (fun K hK => ?_) ?_
        · go_simp
          refine (CA2.out _ hHeld).mono ?_
          rintro e wp4 ⟨a3z4, c3z4, rfl, ho, hb⟩
          have o04 : Hid (Owns wp4 w.heap.size (.slice a0z1 L0.length c0z1) L0.length L0) := o03.out.below (hb)
          have o14 : Hid (Owns wp4 w.heap.size (.slice a1z2 L1.length c1z2) L1.length L1) := o13.out.below (hb)
          have o24 : Hid (Owns wp4 w.heap.size (.slice a2z3 L2.length c2z3) L2.length L2) := o23.out.below (hb)
          have o34 : Hid (Owns wp4 w.heap.size (.slice a3z4 L3.length c3z4) L3.length L3) := ho
          have hS4 := hHeld.below hb
          clear hb ho
          go_wp2_with fail
          refine hK.out _ _ hS4 (fun hHeld => ?_)
          clear hK K hS4
          refine take_op 17 34 (.agg #[.slice a2z3 L2.length c2z3, .slice a3z4 L3.length c3z4]) (fuel := 3) rfl rfl (by kernel_rfl) (by kernel_rfl) (by kernel_rfl) (fun _ _ _ h => h) (by rfl) (fun w hSw => by go_simp) hHeld ?_
          simp only [Act.put, List.setIfInBounds_toArray, List.set_cons_zero, List.set_cons_succ]
          refine take_op 18 35 (.agg #[.slice a0z1 L0.length c0z1, .slice a1z2 L1.length c1z2, .slice a2z3 L2.length c2z3, .slice a3z4 L3.length c3z4]) (fuel := 2) rfl rfl (by kernel_rfl) (by kernel_rfl) (by kernel_rfl) (fun _ _ _ h => h) (by rfl) (fun w hSw => by go_simp) hHeld ?_
          simp only [Act.put, List.setIfInBounds_toArray, List.set_cons_zero, List.set_cons_succ]
          refine wpAnyH_ready (rs := [19]) (fuel := 1) (by kernel_rfl) (by simp) ?_
          refine AllReadyH.cons rfl (fun K hK => ?_) AllReadyH.nil
          have o05 : Hid (Owns (wp4.alloc (.cells #[.slice none 0 0, .slice none 0 0, .slice none 0 0, .slice none 0 0] 139)) w.heap.size (.slice a0z1 L0.length c0z1) L0.length L0) := o04.out.below ((Below.refl _ wp4).alloc (Nat.le_refl _) (.cells #[.slice none 0 0, .slice none 0 0, .slice none 0 0, .slice none 0 0] 139))
          have o15 : Hid (Owns (wp4.alloc (.cells #[.slice none 0 0, .slice none 0 0, .slice none 0 0, .slice none 0 0] 139)) w.heap.size (.slice a1z2 L1.length c1z2) L1.length L1) := o14.out.below ((Below.refl _ wp4).alloc (Nat.le_refl _) (.cells #[.slice none 0 0, .slice none 0 0, .slice none 0 0, .slice none 0 0] 139))
          have o25 : Hid (Owns (wp4.alloc (.cells #[.slice none 0 0, .slice none 0 0, .slice none 0 0, .slice none 0 0] 139)) w.heap.size (.slice a2z3 L2.length c2z3) L2.length L2) := o24.out.below ((Below.refl _ wp4).alloc (Nat.le_refl _) (.cells #[.slice none 0 0, .slice none 0 0, .slice none 0 0, .slice none 0 0] 139))
          have o35 : Hid (Owns (wp4.alloc (.cells #[.slice none 0 0, .slice none 0 0, .slice none 0 0, .slice none 0 0] 139)) w.heap.size (.slice a3z4 L3.length c3z4) L3.length L3) := o34.out.below ((Below.refl _ wp4).alloc (Nat.le_refl _) (.cells #[.slice none 0 0, .slice none 0 0, .slice none 0 0, .slice none 0 0] 139))
          have BL : Hid (w.heap.size + 1 < wp4.heap.size) := by have h1 := hHeld.2.2.lt; (try simp at h1); unfold Hid; omega
          have vn5 : Hid (VarIs (wp4.alloc (.cells #[.slice none 0 0, .slice none 0 0, .slice none 0 0, .slice none 0 0] 139)) (wp4.heap.size) #[.slice none 0 0, .slice none 0 0, .slice none 0 0, .slice none 0 0] 139) := VarIs.new wp4 #[.slice none 0 0, .slice none 0 0, .slice none 0 0, .slice none 0 0] 139 (by simp)
          go_simp
          refine hK.out _ _ (hHeld.below ((Below.refl _ wp4).alloc (Nat.le_refl _) (.cells #[.slice none 0 0, .slice none 0 0, .slice none 0 0, .slice none 0 0] 139))) (fun hHeld => ?_)
          clear hK K
          try simp only [Act.put, List.setIfInBounds_toArray, List.set_cons_zero, List.set_cons_succ]
          have t1 : Hid ((wp4.alloc (.cells #[.slice none 0 0, .slice none 0 0, .slice none 0 0, .slice none 0 0] 139)).there (wp4.heap.size) 0 4) := vn5.out.there rfl
          have g1 := Lib.hid (grown_setCells (wp4.heap.size) [.slice a0z1 L0.length c0z1, .slice a1z2 L1.length c1z2, .slice a2z3 L2.length c2z3, .slice a3z4 L3.length c3z4] 0 (wp4.alloc (.cells #[.slice none 0 0, .slice none 0 0, .slice none 0 0, .slice none 0 0] 139)))
          have rg : Hid (((wp4.alloc (.cells #[.slice none 0 0, .slice none 0 0, .slice none 0 0, .slice none 0 0] 139)).setCells (wp4.heap.size) 0 [.slice a0z1 L0.length c0z1, .slice a1z2 L1.length c1z2, .slice a2z3 L2.length c2z3, .slice a3z4 L3.length c3z4]).rangeAt (wp4.heap.size) 0 [.slice a0z1 L0.length c0z1, .slice a1z2 L1.length c1z2, .slice a2z3 L2.length c2z3, .slice a3z4 L3.length c3z4]) := World.rangeAt_setCells_same (wp4.alloc (.cells #[.slice none 0 0, .slice none 0 0, .slice none 0 0, .slice none 0 0] 139)) (wp4.heap.size) 0 [.slice a0z1 L0.length c0z1, .slice a1z2 L1.length c1z2, .slice a2z3 L2.length c2z3, .slice a3z4 L3.length c3z4] (by simpa using t1.out)
          have hS9 : Hid (Box2 w ((wp4.alloc (.cells #[.slice none 0 0, .slice none 0 0, .slice none 0 0, .slice none 0 0] 139)).setCells (wp4.heap.size) 0 [.slice a0z1 L0.length c0z1, .slice a1z2 L1.length c1z2, .slice a2z3 L2.length c2z3, .slice a3z4 L3.length c3z4]) w.heap.size (w.heap.size + 1) 31 (iaC st it a2 n2 c2 a3 n3 c3 a4 n4 c4 a5 n5 c5) (iaC su iu b2 m2 d2 b3 m3 d3 b4 m4 d4 b5 m5 d5)) := ⟨hHeld.1.grown g1.out hHeld.1.size (fun q hq => by have h1 := Option.some.inj hq; have h2 := BL.out; omega), hHeld.2.1.grown g1.out (fun e => by have h1 := Option.some.inj e; have h2 := BL.out; omega), hHeld.2.2.grown g1.out (fun e => by have h1 := Option.some.inj e; have h2 := BL.out; omega)⟩
          have lt1 : Hid ((wp4.heap.size) < ((wp4.alloc (.cells #[.slice none 0 0, .slice none 0 0, .slice none 0 0, .slice none 0 0] 139)).setCells (wp4.heap.size) 0 [.slice a0z1 L0.length c0z1, .slice a1z2 L1.length c1z2, .slice a2z3 L2.length c2z3, .slice a3z4 L3.length c3z4]).heap.size) := Nat.lt_of_lt_of_le vn5.out.lt g1.out.size
          have p0 := Lib.hid (o05.out.keepVar vn5.out (by decide) g1.out)
          have p1 := Lib.hid (o15.out.keepVar vn5.out (by decide) g1.out)
          have p2 := Lib.hid (o25.out.keepVar vn5.out (by decide) g1.out)
          have p3 := Lib.hid (o35.out.keepVar vn5.out (by decide) g1.out)
          refine wpAnyH_ready (rs := [20]) (fuel := 0) (by kernel_rfl) (by simp) ?_
          refine AllReadyH.cons rfl (fun K hK => ?_) AllReadyH.nil
          rw [if_pos (by rfl)]
          refine wp_store_mid _ _ _ rfl (wp4.heap.size) 0 #[.slice a0z1 L0.length c0z1, .slice a1z2 L1.length c1z2, .slice a2z3 L2.length c2z3, .slice a3z4 L3.length c3z4] rfl rfl t1.out (by kernel_rfl) (by simp [Value.oneCell'])  ?_
          refine hK.out _ _ hS9.out (fun hHeld => ?_)
          clear hK K
          refine wpAnyH_done (by kernel_rfl) ?_ _
          exact REST.out (wp4.heap.size, a0z1, c0z1, a1z2, c1z2, a2z3, c2z3, a3z4, c3z4) _ ⟨hS9.out.1, lt1.out, rg.out, p0.out, p1.out, p2.out, p3.out⟩
        refine AllReadyH.cons rfl (fun K hK => ?_) AllReadyH.nil
        have o06 : Hid (Owns (wp3.alloc (.cells #[.slice none 0 0, .slice none 0 0, .slice none 0 0, .slice none 0 0] 139)) w.heap.size (.slice a0z1 L0.length c0z1) L0.length L0) := o03.out.below ((Below.refl _ wp3).alloc (Nat.le_refl _) (.cells #[.slice none 0 0, .slice none 0 0, .slice none 0 0, .slice none 0 0] 139))
        have o16 : Hid (Owns (wp3.alloc (.cells #[.slice none 0 0, .slice none 0 0, .slice none 0 0, .slice none 0 0] 139)) w.heap.size (.slice a1z2 L1.length c1z2) L1.length L1) := o13.out.below ((Below.refl _ wp3).alloc (Nat.le_refl _) (.cells #[.slice none 0 0, .slice none 0 0, .slice none 0 0, .slice none 0 0] 139))
        have o26 : Hid (Owns (wp3.alloc (.cells #[.slice none 0 0, .slice none 0 0, .slice none 0 0, .slice none 0 0] 139)) w.heap.size (.slice a2z3 L2.length c2z3) L2.length L2) := o23.out.below ((Below.refl _ wp3).alloc (Nat.le_refl _) (.cells #[.slice none 0 0, .slice none 0 0, .slice none 0 0, .slice none 0 0] 139))
        have BL : Hid (w.heap.size + 1 < wp3.heap.size) := by have h1 := hHeld.2.2.lt; (try simp at h1); unfold Hid; omega
        have vn6 : Hid (VarIs (wp3.alloc (.cells #[.slice none 0 0, .slice none 0 0, .slice none 0 0, .slice none 0 0] 139)) (wp3.heap.size) #[.slice none 0 0, .slice none 0 0, .slice none 0 0, .slice none 0 0] 139) := VarIs.new wp3 #[.slice none 0 0, .slice none 0 0, .slice none 0 0, .slice none 0 0] 139 (by simp)
        go_simp
        refine hK.out _ _ (hHeld.below ((Below.refl _ wp3).alloc (Nat.le_refl _) (.cells #[.slice none 0 0, .slice none 0 0, .slice none 0 0, .slice none 0 0] 139))) (fun hHeld => ?_)
        clear hK K
        try simp only [Act.put, List.setIfInBounds_toArray, List.set_cons_zero, List.set_cons_succ]
        refine wpAnyH_ready (rs := [16]) (fuel := 3) (by kernel_rfl) (by simp) ?_
        refine AllReadyH.cons rfl (fun K hK => ?_) AllReadyH.nil
        go_simp
        refine (CA2.out _ hHeld).mono ?_
        rintro e wp7 ⟨a3z7, c3z7, rfl, ho, hb⟩
        have o07 : Hid (Owns wp7 w.heap.size (.slice a0z1 L0.length c0z1) L0.length L0) := o06.out.below (hb)
        have o17 : Hid (Owns wp7 w.heap.size (.slice a1z2 L1.length c1z2) L1.length L1) := o16.out.below (hb)
        have o27 : Hid (Owns wp7 w.heap.size (.slice a2z3 L2.length c2z3) L2.length L2) := o26.out.below (hb)
        have v7 : Hid (VarIs wp7 (wp3.heap.size) #[.slice none 0 0, .slice none 0 0, .slice none 0 0, .slice none 0 0] 139) := vn6.out.below (hb)
        have o37 : Hid (Owns wp7 w.heap.size (.slice a3z7 L3.length c3z7) L3.length L3) := ho
        have hS7 := hHeld.below hb
        clear hb ho
        go_wp2_with fail
        refine hK.out _ _ hS7 (fun hHeld => ?_)
        clear hK K hS7
        refine take_op 17 34 (.agg #[.slice a2z3 L2.length c2z3, .slice a3z7 L3.length c3z7]) (fuel := 2) rfl rfl (by kernel_rfl) (by kernel_rfl) (by kernel_rfl) (fun _ _ _ h => h) (by rfl) (fun w hSw => by go_simp) hHeld ?_
        simp only [Act.put, List.setIfInBounds_toArray, List.set_cons_zero, List.set_cons_succ]
        refine take_op 18 35 (.agg #[.slice a0z1 L0.length c0z1, .slice a1z2 L1.length c1z2, .slice a2z3 L2.length c2z3, .slice a3z7 L3.length c3z7]) (fuel := 1) rfl rfl (by kernel_rfl) (by kernel_rfl) (by kernel_rfl) (fun _ _ _ h => h) (by rfl) (fun w hSw => by go_simp) hHeld ?_
        simp only [Act.put, List.setIfInBounds_toArray, List.set_cons_zero, List.set_cons_succ]
        have t1 : Hid (wp7.there (wp3.heap.size) 0 4) := v7.out.there rfl
        have g1 := Lib.hid (grown_setCells (wp3.heap.size) [.slice a0z1 L0.length c0z1, .slice a1z2 L1.length c1z2, .slice a2z3 L2.length c2z3, .slice a3z7 L3.length c3z7] 0 wp7)
        have rg : Hid ((wp7.setCells (wp3.heap.size) 0 [.slice a0z1 L0.length c0z1, .slice a1z2 L1.length c1z2, .slice a2z3 L2.length c2z3, .slice a3z7 L3.length c3z7]).rangeAt (wp3.heap.size) 0 [.slice a0z1 L0.length c0z1, .slice a1z2 L1.length c1z2, .slice a2z3 L2.length c2z3, .slice a3z7 L3.length c3z7]) := World.rangeAt_setCells_same wp7 (wp3.heap.size) 0 [.slice a0z1 L0.length c0z1, .slice a1z2 L1.length c1z2, .slice a2z3 L2.length c2z3, .slice a3z7 L3.length c3z7] (by simpa using t1.out)
        have hS9 : Hid (Box2 w (wp7.setCells (wp3.heap.size) 0 [.slice a0z1 L0.length c0z1, .slice a1z2 L1.length c1z2, .slice a2z3 L2.length c2z3, .slice a3z7 L3.length c3z7]) w.heap.size (w.heap.size + 1) 31 (iaC st it a2 n2 c2 a3 n3 c3 a4 n4 c4 a5 n5 c5) (iaC su iu b2 m2 d2 b3 m3 d3 b4 m4 d4 b5 m5 d5)) := ⟨hHeld.1.grown g1.out hHeld.1.size (fun q hq => by have h1 := Option.some.inj hq; have h2 := BL.out; omega), hHeld.2.1.grown g1.out (fun e => by have h1 := Option.some.inj e; have h2 := BL.out; omega), hHeld.2.2.grown g1.out (fun e => by have h1 := Option.some.inj e; have h2 := BL.out; omega)⟩
        have lt1 : Hid ((wp3.heap.size) < (wp7.setCells (wp3.heap.size) 0 [.slice a0z1 L0.length c0z1, .slice a1z2 L1.length c1z2, .slice a2z3 L2.length c2z3, .slice a3z7 L3.length c3z7]).heap.size) := Nat.lt_of_lt_of_le v7.out.lt g1.out.size
        have p0 := Lib.hid (o07.out.keepVar v7.out (by decide) g1.out)
        have p1 := Lib.hid (o17.out.keepVar v7.out (by decide) g1.out)
        have p2 := Lib.hid (o27.out.keepVar v7.out (by decide) g1.out)
        have p3 := Lib.hid (o37.out.keepVar v7.out (by decide) g1.out)
        refine wpAnyH_ready (rs := [20]) (fuel := 0) (by kernel_rfl) (by simp) ?_
        refine AllReadyH.cons rfl (fun K hK => ?_) AllReadyH.nil
        rw [if_pos (by rfl)]
        refine wp_store_mid _ _ _ rfl (wp3.heap.size) 0 #[.slice a0z1 L0.length c0z1, .slice a1z2 L1.length c1z2, .slice a2z3 L2.length c2z3, .slice a3z7 L3.length c3z7] rfl rfl t1.out (by kernel_rfl) (by simp [Value.oneCell'])  ?_
        refine hK.out _ _ hS9.out (fun hHeld => ?_)
        clear hK K
        refine wpAnyH_done (by kernel_rfl) ?_ _
        exact REST.out (wp3.heap.size, a0z1, c0z1, a1z2, c1z2, a2z3, c2z3, a3z7, c3z7) _ ⟨hS9.out.1, lt1.out, rg.out, p0.out, p1.out, p2.out, p3.out⟩
      refine AllReadyH.cons rfl (fun K hK => ?_) AllReadyH.nil
      have o08 : Hid (Owns (wp2.alloc (.cells #[.slice none 0 0, .slice none 0 0, .slice none 0 0, .slice none 0 0] 139)) w.heap.size (.slice a0z1 L0.length c0z1) L0.length L0) := o02.out.below ((Below.refl _ wp2).alloc (Nat.le_refl _) (.cells #[.slice none 0 0, .slice none 0 0, .slice none 0 0, .slice none 0 0] 139))
      have o18 : Hid (Owns (wp2.alloc (.cells #[.slice none 0 0, .slice none 0 0, .slice none 0 0, .slice none 0 0] 139)) w.heap.size (.slice a1z2 L1.length c1z2) L1.length L1) := o12.out.below ((Below.refl _ wp2).alloc (Nat.le_refl _) (.cells #[.slice none 0 0, .slice none 0 0, .slice none 0 0, .slice none 0 0] 139))
      have BL : Hid (w.heap.size + 1 < wp2.heap.size) := by have h1 := hHeld.2.2.lt; (try simp at h1); unfold Hid; omega
      have vn8 : Hid (VarIs (wp2.alloc (.cells #[.slice none 0 0, .slice none 0 0, .slice none 0 0, .slice none 0 0] 139)) (wp2.heap.size) #[.slice none 0 0, .slice none 0 0, .slice none 0 0, .slice none 0 0] 139) := VarIs.new wp2 #[.slice none 0 0, .slice none 0 0, .slice none 0 0, .slice none 0 0] 139 (by simp)
      go_simp
      refine hK.out _ _ (hHeld.below ((Below.refl _ wp2).alloc (Nat.le_refl _) (.cells #[.slice none 0 0, .slice none 0 0, .slice none 0 0, .slice none 0 0] 139))) (fun hHeld => ?_)
      clear hK K
      try simp only [Act.put, List.setIfInBounds_toArray, List.set_cons_zero, List.set_cons_succ]
      refine wpAnyH_ready (rs := [12]) (fuel := 4) (by kernel_rfl) (by simp) ?_
      refine AllReadyH.cons rfl (fun K hK => ?_) AllReadyH.nil
      go_simp
      refine (CB3.out _ hHeld).mono ?_
      rintro e wp9 ⟨a2z9, c2z9, rfl, ho, hb⟩
      have o09 : Hid (Owns wp9 w.heap.size (.slice a0z1 L0.length c0z1) L0.length L0) := o08.out.below (hb)
      have o19 : Hid (Owns wp9 w.heap.size (.slice a1z2 L1.length c1z2) L1.length L1) := o18.out.below (hb)
      have v9 : Hid (VarIs wp9 (wp2.heap.size) #[.slice none 0 0, .slice none 0 0, .slice none 0 0, .slice none 0 0] 139) := vn8.out.below (hb)
      have o29 : Hid (Owns wp9 w.heap.size (.slice a2z9 L2.length c2z9) L2.length L2) := ho
      have hS9 := hHeld.below hb
      clear hb ho
      go_wp2_with fail
      refine hK.out _ _ hS9 (fun hHeld => ?_)
      clear hK K hS9
      refine wpAnyH_ready (rs := [16]) (fuel := 3) (by kernel_rfl) (by simp) ?_
      refine AllReadyH.cons rfl (fun K hK => ?_) AllReadyH.nil
      go_simp
      refine (CA2.out _ hHeld).mono ?_
      rintro e wp10 ⟨a3z10, c3z10, rfl, ho, hb⟩
      have o010 : Hid (Owns wp10 w.heap.size (.slice a0z1 L0.length c0z1) L0.length L0) := o09.out.below (hb)
      have o110 : Hid (Owns wp10 w.heap.size (.slice a1z2 L1.length c1z2) L1.length L1) := o19.out.below (hb)
      have v10 : Hid (VarIs wp10 (wp2.heap.size) #[.slice none 0 0, .slice none 0 0, .slice none 0 0, .slice none 0 0] 139) := v9.out.below (hb)
      have o210 : Hid (Owns wp10 w.heap.size (.slice a2z9 L2.length c2z9) L2.length L2) := o29.out.below (hb)
      have o310 : Hid (Owns wp10 w.heap.size (.slice a3z10 L3.length c3z10) L3.length L3) := ho
      have hS10 := hHeld.below hb
      clear hb ho
      go_wp2_with fail
      refine hK.out _ _ hS10 (fun hHeld => ?_)
      clear hK K hS10
      refine take_op 17 34 (.agg #[.slice a2z9 L2.length c2z9, .slice a3z10 L3.length c3z10]) (fuel := 2) rfl rfl (by kernel_rfl) (by kernel_rfl) (by kernel_rfl) (fun _ _ _ h => h) (by rfl) (fun w hSw => by go_simp) hHeld ?_
      simp only [Act.put, List.setIfInBounds_toArray, List.set_cons_zero, List.set_cons_succ]
      refine take_op 18 35 (.agg #[.slice a0z1 L0.length c0z1, .slice a1z2 L1.length c1z2, .slice a2z9 L2.length c2z9, .slice a3z10 L3.length c3z10]) (fuel := 1) rfl rfl (by kernel_rfl) (by kernel_rfl) (by kernel_rfl) (fun _ _ _ h => h) (by rfl) (fun w hSw => by go_simp) hHeld ?_
      simp only [Act.put, List.setIfInBounds_toArray, List.set_cons_zero, List.set_cons_succ]
      have t1 : Hid (wp10.there (wp2.heap.size) 0 4) := v10.out.there rfl
      have g1 := Lib.hid (grown_setCells (wp2.heap.size) [.slice a0z1 L0.length c0z1, .slice a1z2 L1.length c1z2, .slice a2z9 L2.length c2z9, .slice a3z10 L3.length c3z10] 0 wp10)
      have rg : Hid ((wp10.setCells (wp2.heap.size) 0 [.slice a0z1 L0.length c0z1, .slice a1z2 L1.length c1z2, .slice a2z9 L2.length c2z9, .slice a3z10 L3.length c3z10]).rangeAt (wp2.heap.size) 0 [.slice a0z1 L0.length c0z1, .slice a1z2 L1.length c1z2, .slice a2z9 L2.length c2z9, .slice a3z10 L3.length c3z10]) := World.rangeAt_setCells_same wp10 (wp2.heap.size) 0 [.slice a0z1 L0.length c0z1, .slice a1z2 L1.length c1z2, .slice a2z9 L2.length c2z9, .slice a3z10 L3.length c3z10] (by simpa using t1.out)
      have hS9 : Hid (Box2 w (wp10.setCells (wp2.heap.size) 0 [.slice a0z1 L0.length c0z1, .slice a1z2 L1.length c1z2, .slice a2z9 L2.length c2z9, .slice a3z10 L3.length c3z10]) w.heap.size (w.heap.size + 1) 31 (iaC st it a2 n2 c2 a3 n3 c3 a4 n4 c4 a5 n5 c5) (iaC su iu b2 m2 d2 b3 m3 d3 b4 m4 d4 b5 m5 d5)) := ⟨hHeld.1.grown g1.out hHeld.1.size (fun q hq => by have h1 := Option.some.inj hq; have h2 := BL.out; omega), hHeld.2.1.grown g1.out (fun e => by have h1 := Option.some.inj e; have h2 := BL.out; omega), hHeld.2.2.grown g1.out (fun e => by have h1 := Option.some.inj e; have h2 := BL.out; omega)⟩
      have lt1 : Hid ((wp2.heap.size) < (wp10.setCells (wp2.heap.size) 0 [.slice a0z1 L0.length c0z1, .slice a1z2 L1.length c1z2, .slice a2z9 L2.length c2z9, .slice a3z10 L3.length c3z10]).heap.size) := Nat.lt_of_lt_of_le v10.out.lt g1.out.size
      have p0 := Lib.hid (o010.out.keepVar v10.out (by decide) g1.out)
      have p1 := Lib.hid (o110.out.keepVar v10.out (by decide) g1.out)
      have p2 := Lib.hid (o210.out.keepVar v10.out (by decide) g1.out)
      have p3 := Lib.hid (o310.out.keepVar v10.out (by decide) g1.out)
      refine wpAnyH_ready (rs := [20]) (fuel := 0) (by kernel_rfl) (by simp) ?_
      refine AllReadyH.cons rfl (fun K hK => ?_) AllReadyH.nil
      rw [if_pos (by rfl)]
      refine wp_store_mid _ _ _ rfl (wp2.heap.size) 0 #[.slice a0z1 L0.length c0z1, .slice a1z2 L1.length c1z2, .slice a2z9 L2.length c2z9, .slice a3z10 L3.length c3z10] rfl rfl t1.out (by kernel_rfl) (by simp [Value.oneCell'])  ?_
      refine hK.out _ _ hS9.out (fun hHeld => ?_)
      clear hK K
      refine wpAnyH_done (by kernel_rfl) ?_ _
      exact REST.out (wp2.heap.size, a0z1, c0z1, a1z2, c1z2, a2z9, c2z9, a3z10, c3z10) _ ⟨hS9.out.1, lt1.out, rg.out, p0.out, p1.out, p2.out, p3.out⟩
    refine AllReadyH.cons rfl (fun K hK => ?_) AllReadyH.nil
    have o011 : Hid (Owns (wp1.alloc (.cells #[.slice none 0 0, .slice none 0 0, .slice none 0 0, .slice none 0 0] 139)) w.heap.size (.slice a0z1 L0.length c0z1) L0.length L0) := o01.out.below ((Below.refl _ wp1).alloc (Nat.le_refl _) (.cells #[.slice none 0 0, .slice none 0 0, .slice none 0 0, .slice none 0 0] 139))
    have BL : Hid (w.heap.size + 1 < wp1.heap.size) := by have h1 := hHeld.2.2.lt; (try simp at h1); unfold Hid; omega
    have vn11 : Hid (VarIs (wp1.alloc (.cells #[.slice none 0 0, .slice none 0 0, .slice none 0 0, .slice none 0 0] 139)) (wp1.heap.size) #[.slice none 0 0, .slice none 0 0, .slice none 0 0, .slice none 0 0] 139) := VarIs.new wp1 #[.slice none 0 0, .slice none 0 0, .slice none 0 0, .slice none 0 0] 139 (by simp)
    go_simp
    refine hK.out _ _ (hHeld.below ((Below.refl _ wp1).alloc (Nat.le_refl _) (.cells #[.slice none 0 0, .slice none 0 0, .slice none 0 0, .slice none 0 0] 139))) (fun hHeld => ?_)
    clear hK K
    try simp only [Act.put, List.setIfInBounds_toArray, List.set_cons_zero, List.set_cons_succ]
    refine wpAnyH_ready (rs := [7]) (fuel := 6) (by kernel_rfl) (by simp) ?_
    refine AllReadyH.cons rfl (fun K hK => ?_) AllReadyH.nil
    go_simp
    refine (CB2.out _ hHeld).mono ?_
    rintro e wp12 ⟨a1z12, c1z12, rfl, ho, hb⟩
    have o012 : Hid (Owns wp12 w.heap.size (.slice a0z1 L0.length c0z1) L0.length L0) := o011.out.below (hb)
    have v12 : Hid (VarIs wp12 (wp1.heap.size) #[.slice none 0 0, .slice none 0 0, .slice none 0 0, .slice none 0 0] 139) := vn11.out.below (hb)
    have o112 : Hid (Owns wp12 w.heap.size (.slice a1z12 L1.length c1z12) L1.length L1) := ho
    have hS12 := hHeld.below hb
    clear hb ho
    go_wp2_with fail
    refine hK.out _ _ hS12 (fun hHeld => ?_)
    clear hK K hS12
    refine take_op 8 25 (.agg #[.slice a0z1 L0.length c0z1, .slice a1z12 L1.length c1z12]) (fuel := 5) rfl rfl (by kernel_rfl) (by kernel_rfl) (by kernel_rfl) (fun _ _ _ h => h) (by rfl) (fun w hSw => by go_simp) hHeld ?_
    simp only [Act.put, List.setIfInBounds_toArray, List.set_cons_zero, List.set_cons_succ]
    refine wpAnyH_ready (rs := [12]) (fuel := 4) (by kernel_rfl) (by simp) ?_
    refine AllReadyH.cons rfl (fun K hK => ?_) AllReadyH.nil
    go_simp
    refine (CB3.out _ hHeld).mono ?_
    rintro e wp13 ⟨a2z13, c2z13, rfl, ho, hb⟩
    have o013 : Hid (Owns wp13 w.heap.size (.slice a0z1 L0.length c0z1) L0.length L0) := o012.out.below (hb)
    have v13 : Hid (VarIs wp13 (wp1.heap.size) #[.slice none 0 0, .slice none 0 0, .slice none 0 0, .slice none 0 0] 139) := v12.out.below (hb)
    have o113 : Hid (Owns wp13 w.heap.size (.slice a1z12 L1.length c1z12) L1.length L1) := o112.out.below (hb)
    have o213 : Hid (Owns wp13 w.heap.size (.slice a2z13 L2.length c2z13) L2.length L2) := ho
    have hS13 := hHeld.below hb
    clear hb ho
    go_wp2_with fail
    refine hK.out _ _ hS13 (fun hHeld => ?_)
    clear hK K hS13
    refine wpAnyH_ready (rs := [16]) (fuel := 3) (by kernel_rfl) (by simp) ?_
    refine AllReadyH.cons rfl (fun K hK => ?_) AllReadyH.nil
    go_simp
    refine (CA2.out _ hHeld).mono ?_
    rintro e wp14 ⟨a3z14, c3z14, rfl, ho, hb⟩
    have o014 : Hid (Owns wp14 w.heap.size (.slice a0z1 L0.length c0z1) L0.length L0) := o013.out.below (hb)
    have v14 : Hid (VarIs wp14 (wp1.heap.size) #[.slice none 0 0, .slice none 0 0, .slice none 0 0, .slice none 0 0] 139) := v13.out.below (hb)
    have o114 : Hid (Owns wp14 w.heap.size (.slice a1z12 L1.length c1z12) L1.length L1) := o113.out.below (hb)
    have o214 : Hid (Owns wp14 w.heap.size (.slice a2z13 L2.length c2z13) L2.length L2) := o213.out.below (hb)
    have o314 : Hid (Owns wp14 w.heap.size (.slice a3z14 L3.length c3z14) L3.length L3) := ho
    have hS14 := hHeld.below hb
    clear hb ho
    go_wp2_with fail
    refine hK.out _ _ hS14 (fun hHeld => ?_)
    clear hK K hS14
    refine take_op 17 34 (.agg #[.slice a2z13 L2.length c2z13, .slice a3z14 L3.length c3z14]) (fuel := 2) rfl rfl (by kernel_rfl) (by kernel_rfl) (by kernel_rfl) (fun _ _ _ h => h) (by rfl) (fun w hSw => by go_simp) hHeld ?_
    simp only [Act.put, List.setIfInBounds_toArray, List.set_cons_zero, List.set_cons_succ]
    refine take_op 18 35 (.agg #[.slice a0z1 L0.length c0z1, .slice a1z12 L1.length c1z12, .slice a2z13 L2.length c2z13, .slice a3z14 L3.length c3z14]) (fuel := 1) rfl rfl (by kernel_rfl) (by kernel_rfl) (by kernel_rfl) (fun _ _ _ h => h) (by rfl) (fun w hSw => by go_simp) hHeld ?_
    simp only [Act.put, List.setIfInBounds_toArray, List.set_cons_zero, List.set_cons_succ]
    have t1 : Hid (wp14.there (wp1.heap.size) 0 4) := v14.out.there rfl
    have g1 := Lib.hid (grown_setCells (wp1.heap.size) [.slice a0z1 L0.length c0z1, .slice a1z12 L1.length c1z12, .slice a2z13 L2.length c2z13, .slice a3z14 L3.length c3z14] 0 wp14)
    have rg : Hid ((wp14.setCells (wp1.heap.size) 0 [.slice a0z1 L0.length c0z1, .slice a1z12 L1.length c1z12, .slice a2z13 L2.length c2z13, .slice a3z14 L3.length c3z14]).rangeAt (wp1.heap.size) 0 [.slice a0z1 L0.length c0z1, .slice a1z12 L1.length c1z12, .slice a2z13 L2.length c2z13, .slice a3z14 L3.length c3z14]) := World.rangeAt_setCells_same wp14 (wp1.heap.size) 0 [.slice a0z1 L0.length c0z1, .slice a1z12 L1.length c1z12, .slice a2z13 L2.length c2z13, .slice a3z14 L3.length c3z14] (by simpa using t1.out)
    have hS9 : Hid (Box2 w (wp14.setCells (wp1.heap.size) 0 [.slice a0z1 L0.length c0z1, .slice a1z12 L1.length c1z12, .slice a2z13 L2.length c2z13, .slice a3z14 L3.length c3z14]) w.heap.size (w.heap.size + 1) 31 (iaC st it a2 n2 c2 a3 n3 c3 a4 n4 c4 a5 n5 c5) (iaC su iu b2 m2 d2 b3 m3 d3 b4 m4 d4 b5 m5 d5)) := ⟨hHeld.1.grown g1.out hHeld.1.size (fun q hq => by have h1 := Option.some.inj hq; have h2 := BL.out; omega), hHeld.2.1.grown g1.out (fun e => by have h1 := Option.some.inj e; have h2 := BL.out; omega), hHeld.2.2.grown g1.out (fun e => by have h1 := Option.some.inj e; have h2 := BL.out; omega)⟩
    have lt1 : Hid ((wp1.heap.size) < (wp14.setCells (wp1.heap.size) 0 [.slice a0z1 L0.length c0z1, .slice a1z12 L1.length c1z12, .slice a2z13 L2.length c2z13, .slice a3z14 L3.length c3z14]).heap.size) := Nat.lt_of_lt_of_le v14.out.lt g1.out.size
    have p0 := Lib.hid (o014.out.keepVar v14.out (by decide) g1.out)
    have p1 := Lib.hid (o114.out.keepVar v14.out (by decide) g1.out)
    have p2 := Lib.hid (o214.out.keepVar v14.out (by decide) g1.out)
    have p3 := Lib.hid (o314.out.keepVar v14.out (by decide) g1.out)
    refine wpAnyH_ready (rs := [20]) (fuel := 0) (by kernel_rfl) (by simp) ?_
    refine AllReadyH.cons rfl (fun K hK => ?_) AllReadyH.nil
    rw [if_pos (by rfl)]
    refine wp_store_mid _ _ _ rfl (wp1.heap.size) 0 #[.slice a0z1 L0.length c0z1, .slice a1z12 L1.length c1z12, .slice a2z13 L2.length c2z13, .slice a3z14 L3.length c3z14] rfl rfl t1.out (by kernel_rfl) (by simp [Value.oneCell'])  ?_
    refine hK.out _ _ hS9.out (fun hHeld => ?_)
    clear hK K
    refine wpAnyH_done (by kernel_rfl) ?_ _
    exact REST.out (wp1.heap.size, a0z1, c0z1, a1z12, c1z12, a2z13, c2z13, a3z14, c3z14) _ ⟨hS9.out.1, lt1.out, rg.out, p0.out, p1.out, p2.out, p3.out⟩
  refine AllReadyH.cons rfl (fun K hK => ?_) AllReadyH.nil
  have BL : Hid (w.heap.size + 1 < w.heap.size + 1 + 1) := by have h1 := hHeld.2.2.lt; (try simp at h1); unfold Hid; omega
  have vn15 : Hid (VarIs (((w.alloc (.cells #[.int .i64 st, .int .i64 it, .slice a2 n2 c2, .slice a3 n3 c3, .slice a4 n4 c4, .slice a5 n5 c5] 31)).alloc (.cells #[.int .i64 su, .int .i64 iu, .slice b2 m2 d2, .slice b3 m3 d3, .slice b4 m4 d4, .slice b5 m5 d5] 31)).drew.alloc (.cells #[.slice none 0 0, .slice none 0 0, .slice none 0 0, .slice none 0 0] 139)) (w.heap.size + 1 + 1) #[.slice none 0 0, .slice none 0 0, .slice none 0 0, .slice none 0 0] 139) := VarIs.new ((w.alloc (.cells #[.int .i64 st, .int .i64 it, .slice a2 n2 c2, .slice a3 n3 c3, .slice a4 n4 c4, .slice a5 n5 c5] 31)).alloc (.cells #[.int .i64 su, .int .i64 iu, .slice b2 m2 d2, .slice b3 m3 d3, .slice b4 m4 d4, .slice b5 m5 d5] 31)).drew #[.slice none 0 0, .slice none 0 0, .slice none 0 0, .slice none 0 0] 139 (by simp)
  go_simp
  refine hK.out _ _ (hHeld.below ((Below.refl _ ((w.alloc (.cells #[.int .i64 st, .int .i64 it, .slice a2 n2 c2, .slice a3 n3 c3, .slice a4 n4 c4, .slice a5 n5 c5] 31)).alloc (.cells #[.int .i64 su, .int .i64 iu, .slice b2 m2 d2, .slice b3 m3 d3, .slice b4 m4 d4, .slice b5 m5 d5] 31)).drew).alloc (Nat.le_refl _) (.cells #[.slice none 0 0, .slice none 0 0, .slice none 0 0, .slice none 0 0] 139))) (fun hHeld => ?_)
  clear hK K
  try simp only [Act.put, List.setIfInBounds_toArray, List.set_cons_zero, List.set_cons_succ]
  refine wpAnyH_ready (rs := [3]) (fuel := 7) (by kernel_rfl) (by simp) ?_
  refine AllReadyH.cons rfl (fun K hK => ?_) AllReadyH.nil
  go_simp
  refine (CA3.out _ hHeld).mono ?_
  rintro e wp16 ⟨a0z16, c0z16, rfl, ho, hb⟩
  have v16 : Hid (VarIs wp16 (w.heap.size + 1 + 1) #[.slice none 0 0, .slice none 0 0, .slice none 0 0, .slice none 0 0] 139) := vn15.out.below (hb)
  have o016 : Hid (Owns wp16 w.heap.size (.slice a0z16 L0.length c0z16) L0.length L0) := ho
  have hS16 := hHeld.below hb
  clear hb ho
  go_wp2_with fail
  refine hK.out _ _ hS16 (fun hHeld => ?_)
  clear hK K hS16
  refine wpAnyH_ready (rs := [7]) (fuel := 6) (by kernel_rfl) (by simp) ?_
  refine AllReadyH.cons rfl (fun K hK => ?_) AllReadyH.nil
  go_simp
  refine (CB2.out _ hHeld).mono ?_
  rintro e wp17 ⟨a1z17, c1z17, rfl, ho, hb⟩
  have v17 : Hid (VarIs wp17 (w.heap.size + 1 + 1) #[.slice none 0 0, .slice none 0 0, .slice none 0 0, .slice none 0 0] 139) := v16.out.below (hb)
  have o017 : Hid (Owns wp17 w.heap.size (.slice a0z16 L0.length c0z16) L0.length L0) := o016.out.below (hb)
  have o117 : Hid (Owns wp17 w.heap.size (.slice a1z17 L1.length c1z17) L1.length L1) := ho
  have hS17 := hHeld.below hb
  clear hb ho
  go_wp2_with fail
  refine hK.out _ _ hS17 (fun hHeld => ?_)
  clear hK K hS17
  refine take_op 8 25 (.agg #[.slice a0z16 L0.length c0z16, .slice a1z17 L1.length c1z17]) (fuel := 5) rfl rfl (by kernel_rfl) (by kernel_rfl) (by kernel_rfl) (fun _ _ _ h => h) (by rfl) (fun w hSw => by go_simp) hHeld ?_
  simp only [Act.put, List.setIfInBounds_toArray, List.set_cons_zero, List.set_cons_succ]
  refine wpAnyH_ready (rs := [12]) (fuel := 4) (by kernel_rfl) (by simp) ?_
  refine AllReadyH.cons rfl (fun K hK => ?_) AllReadyH.nil
  go_simp
  refine (CB3.out _ hHeld).mono ?_
  rintro e wp18 ⟨a2z18, c2z18, rfl, ho, hb⟩
  have v18 : Hid (VarIs wp18 (w.heap.size + 1 + 1) #[.slice none 0 0, .slice none 0 0, .slice none 0 0, .slice none 0 0] 139) := v17.out.below (hb)
  have o018 : Hid (Owns wp18 w.heap.size (.slice a0z16 L0.length c0z16) L0.length L0) := o017.out.below (hb)
  have o118 : Hid (Owns wp18 w.heap.size (.slice a1z17 L1.length c1z17) L1.length L1) := o117.out.below (hb)
  have o218 : Hid (Owns wp18 w.heap.size (.slice a2z18 L2.length c2z18) L2.length L2) := ho
  have hS18 := hHeld.below hb
  clear hb ho
  go_wp2_with fail
  refine hK.out _ _ hS18 (fun hHeld => ?_)
  clear hK K hS18
  refine wpAnyH_ready (rs := [16]) (fuel := 3) (by kernel_rfl) (by simp) ?_
  refine AllReadyH.cons rfl (fun K hK => ?_) AllReadyH.nil
  go_simp
  refine (CA2.out _ hHeld).mono ?_
  rintro e wp19 ⟨a3z19, c3z19, rfl, ho, hb⟩
  have v19 : Hid (VarIs wp19 (w.heap.size + 1 + 1) #[.slice none 0 0, .slice none 0 0, .slice none 0 0, .slice none 0 0] 139) := v18.out.below (hb)
  have o019 : Hid (Owns wp19 w.heap.size (.slice a0z16 L0.length c0z16) L0.length L0) := o018.out.below (hb)
  have o119 : Hid (Owns wp19 w.heap.size (.slice a1z17 L1.length c1z17) L1.length L1) := o118.out.below (hb)
  have o219 : Hid (Owns wp19 w.heap.size (.slice a2z18 L2.length c2z18) L2.length L2) := o218.out.below (hb)
  have o319 : Hid (Owns wp19 w.heap.size (.slice a3z19 L3.length c3z19) L3.length L3) := ho
  have hS19 := hHeld.below hb
  clear hb ho
  go_wp2_with fail
  refine hK.out _ _ hS19 (fun hHeld => ?_)
  clear hK K hS19
  refine take_op 17 34 (.agg #[.slice a2z18 L2.length c2z18, .slice a3z19 L3.length c3z19]) (fuel := 2) rfl rfl (by kernel_rfl) (by kernel_rfl) (by kernel_rfl) (fun _ _ _ h => h) (by rfl) (fun w hSw => by go_simp) hHeld ?_
  simp only [Act.put, List.setIfInBounds_toArray, List.set_cons_zero, List.set_cons_succ]
  refine take_op 18 35 (.agg #[.slice a0z16 L0.length c0z16, .slice a1z17 L1.length c1z17, .slice a2z18 L2.length c2z18, .slice a3z19 L3.length c3z19]) (fuel := 1) rfl rfl (by kernel_rfl) (by kernel_rfl) (by kernel_rfl) (fun _ _ _ h => h) (by rfl) (fun w hSw => by go_simp) hHeld ?_
  simp only [Act.put, List.setIfInBounds_toArray, List.set_cons_zero, List.set_cons_succ]
  have t1 : Hid (wp19.there (w.heap.size + 1 + 1) 0 4) := v19.out.there rfl
  have g1 := Lib.hid (grown_setCells (w.heap.size + 1 + 1) [.slice a0z16 L0.length c0z16, .slice a1z17 L1.length c1z17, .slice a2z18 L2.length c2z18, .slice a3z19 L3.length c3z19] 0 wp19)
  have rg : Hid ((wp19.setCells (w.heap.size + 1 + 1) 0 [.slice a0z16 L0.length c0z16, .slice a1z17 L1.length c1z17, .slice a2z18 L2.length c2z18, .slice a3z19 L3.length c3z19]).rangeAt (w.heap.size + 1 + 1) 0 [.slice a0z16 L0.length c0z16, .slice a1z17 L1.length c1z17, .slice a2z18 L2.length c2z18, .slice a3z19 L3.length c3z19]) := World.rangeAt_setCells_same wp19 (w.heap.size + 1 + 1) 0 [.slice a0z16 L0.length c0z16, .slice a1z17 L1.length c1z17, .slice a2z18 L2.length c2z18, .slice a3z19 L3.length c3z19] (by simpa using t1.out)
  have hS9 : Hid (Box2 w (wp19.setCells (w.heap.size + 1 + 1) 0 [.slice a0z16 L0.length c0z16, .slice a1z17 L1.length c1z17, .slice a2z18 L2.length c2z18, .slice a3z19 L3.length c3z19]) w.heap.size (w.heap.size + 1) 31 (iaC st it a2 n2 c2 a3 n3 c3 a4 n4 c4 a5 n5 c5) (iaC su iu b2 m2 d2 b3 m3 d3 b4 m4 d4 b5 m5 d5)) := ⟨hHeld.1.grown g1.out hHeld.1.size (fun q hq => by have h1 := Option.some.inj hq; have h2 := BL.out; omega), hHeld.2.1.grown g1.out (fun e => by have h1 := Option.some.inj e; have h2 := BL.out; omega), hHeld.2.2.grown g1.out (fun e => by have h1 := Option.some.inj e; have h2 := BL.out; omega)⟩
  have lt1 : Hid ((w.heap.size + 1 + 1) < (wp19.setCells (w.heap.size + 1 + 1) 0 [.slice a0z16 L0.length c0z16, .slice a1z17 L1.length c1z17, .slice a2z18 L2.length c2z18, .slice a3z19 L3.length c3z19]).heap.size) := Nat.lt_of_lt_of_le v19.out.lt g1.out.size
  have p0 := Lib.hid (o019.out.keepVar v19.out (by decide) g1.out)
  have p1 := Lib.hid (o119.out.keepVar v19.out (by decide) g1.out)
  have p2 := Lib.hid (o219.out.keepVar v19.out (by decide) g1.out)
  have p3 := Lib.hid (o319.out.keepVar v19.out (by decide) g1.out)
  refine wpAnyH_ready (rs := [20]) (fuel := 0) (by kernel_rfl) (by simp) ?_
  refine AllReadyH.cons rfl (fun K hK => ?_) AllReadyH.nil
  rw [if_pos (by rfl)]
  refine wp_store_mid _ _ _ rfl (w.heap.size + 1 + 1) 0 #[.slice a0z16 L0.length c0z16, .slice a1z17 L1.length c1z17, .slice a2z18 L2.length c2z18, .slice a3z19 L3.length c3z19] rfl rfl t1.out (by kernel_rfl) (by simp [Value.oneCell'])  ?_
  refine hK.out _ _ hS9.out (fun hHeld => ?_)
  clear hK K
  refine wpAnyH_done (by kernel_rfl) ?_ _
  exact REST.out (w.heap.size + 1 + 1, a0z16, c0z16, a1z17, c1z17, a2z18, c2z18, a3z19, c3z19) _ ⟨hS9.out.1, lt1.out, rg.out, p0.out, p1.out, p2.out, p3.out⟩

end Go.Proofs.YtdbgjgeglgipiaaGreat
