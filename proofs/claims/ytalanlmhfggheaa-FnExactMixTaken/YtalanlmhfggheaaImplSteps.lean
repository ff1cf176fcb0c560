/-
  The contract of the program's stepsOk: it answers as the model's condition on steps. Conditions: the automaton's lists have at most 2^20 elements.
-/
import Derived.Test.YtalanlmhfggheaaImplStep
import Derived.Test.YtalanlmhfggheaaSpecIaOk
import Derived.Test.YtalanlmhfggheaaRegion
namespace Go.Proofs.Ytalanlmhfggheaa
open Go.RowKit

set_option maxRecDepth 20000 in
set_option maxHeartbeats 6400000 in
theorem stepsOk_any (st it : Int) (a2 : Option Addr) (n2 c2 : Nat) (a3 : Option Addr) (n3 c3 : Nat) (a4 : Option Addr) (n4 c4 : Nat) (a5 : Option Addr) (n5 c5 : Nat) (ins outs hids : List Int) (steps : List St) (w : World)
    (r2 : Row w a2 n2 ins) (r3 : Row w a3 n3 outs) (r4 : Row w a4 n4 hids) (r5 : RowS w a5 n5 steps) (f2 : n2 ≤ 1048576) (f3 : n3 ≤ 1048576) (f4 : n4 ≤ 1048576) (f5 : n5 ≤ 1048576) :
    Calls Try.prog 65 #[.agg #[.int .i64 st, .int .i64 it, .slice a2 n2 c2, .slice a3 n3 c3, .slice a4 n4 c4, .slice a5 n5 c5]] w fun e w' => e = .returned (.bool (decide (n5 ≤ 400) && stepsB ⟨st, it, ins, outs, hids, steps⟩ steps)) ∧ Below w.heap.size w w' := by
  have R2 := Lib.hid r2
  have R3 := Lib.hid r3
  have R4 := Lib.hid r4
  have HL5 := Lib.hid r5.1
  have HC5 := Lib.hid r5.2
  clear r2 r3 r4 r5
  obtain ⟨r, hr⟩ : ∃ r, r = (decide (n5 ≤ 400) && stepsB ⟨st, it, ins, outs, hids, steps⟩ steps) := ⟨_, rfl⟩
  rw [← hr]
  have HR := Lib.hid hr
  clear hr
  have V0 := Lib.hid (VarIs.new w #[.int .i64 st, .int .i64 it, .slice a2 n2 c2, .slice a3 n3 c3, .slice a4 n4 c4, .slice a5 n5 c5] 30 rfl)
  have B0 : Hid (∀ o, Below w.heap.size w (w.alloc o)) := fun o => (Below.refl _ _).alloc (Nat.le_refl _) _
  by_cases h4 : n5 ≤ 400
  · have HR2 : Hid (r = stepsB ⟨st, it, ins, outs, hids, steps⟩ steps) := by
      have := HR.out
      rwa [decide_eq_true h4, Bool.true_and] at this
    clear HR
    go_enter Try.func65, Try.ntmps65
    go_wp2_with fail
    go_loopw [12] (fun i wr => ∃ k : Nat, k ≤ n5 ∧ i = .int .i64 k ∧ Hid (stepsB ⟨st, it, ins, outs, hids, steps⟩ (steps.take k) = true) ∧ Below w.heap.size w wr ∧ Hid (VarIs wr w.heap.size #[.int .i64 st, .int .i64 it, .slice a2 n2 c2, .slice a3 n3 c3, .slice a4 n4 c4, .slice a5 n5 c5] 30)) (fun i _ => n5 - (intOf i).toNat)
    case atStart => exact ⟨0, Nat.zero_le _, rfl, by simp [Hid, stepsB], B0.out _, V0.out⟩
    case round =>
      obtain ⟨k, hk, rfl, HT, hnx, HV⟩ := hrel
      by_cases hlt : k < n5
      · obtain ⟨b, off, rfl, hb, hcell⟩ := HC5.out (by omega)
        have hb0 := Lib.hid hb
        have kb := HV.out.cell (j := 5) rfl
        have hkx : k < steps.length := by rw [HL5.out]; exact hlt
        obtain ⟨⟨x, y, z⟩, hs⟩ : ∃ t, t = steps[k] := ⟨_, rfl⟩
        obtain ⟨d0, d1, d2⟩ := hcell k steps[k] (List.getElem?_eq_getElem hkx)
        rw [← hs] at d0 d1 d2
        have HS := Lib.hid hs
        have g0 := (hnx.cell (p := ⟨b, off + k * 3, none⟩) hb).trans d0
        have g1 := (hnx.cell (p := ⟨b, off + k * 3 + 1, none⟩) hb).trans d1
        have g2 := (hnx.cell (p := ⟨b, off + k * 3 + 2, none⟩) hb).trans d2
        simp only at g0 g1 g2
        have HVA := Lib.hid (HV.out.alloc (.cells #[.int .i64 x, .int .i64 y, .int .i64 z] 60))
        have HX := Lib.hid (VarIs.new wr #[.int .i64 x, .int .i64 y, .int .i64 z] 60 rfl)
        have BX := Lib.hid (hnx.alloc hnx.size (.cells #[.int .i64 x, .int .i64 y, .int .i64 z] 60))
        have HCL := Lib.hid hcell
        clear d0 d1 d2 hs hcell
        by_cases hg : goodStepB ⟨st, it, ins, outs, hids, steps⟩ (x, y, z) = true
        · have HP : Hid ((btw x 0 (st - 1) && btw z 0 (st - 1) && (hasB ins y || hasB outs y || hasB hids y)) = true) := hg
          have HG := Lib.hid hg
          clear hg
          by_cases h0 : 0 < k
          · obtain ⟨⟨x', y', z'⟩, hs'⟩ : ∃ t, t = steps[k - 1]'(by omega) := ⟨_, rfl⟩
            obtain ⟨d0, d1, d2⟩ := HCL.out (k - 1) (steps[k - 1]'(by omega)) (List.getElem?_eq_getElem (by omega))
            rw [← hs'] at d0 d1 d2
            obtain ⟨f, hf⟩ : ∃ f, f = followB ins (x', y', z') (x, y, z) := ⟨_, rfl⟩
            have HF := Lib.hid hf.symm
            have HN : Hid (stepsB ⟨st, it, ins, outs, hids, steps⟩ (steps.take (k + 1)) = f) := by
              unfold Hid
              rw [stepsB_at _ _ k h0 hkx, HT.out, ← HS.out, ← hs', HG.out, Bool.true_and, Bool.and_true, hf]
              rfl
            have HNF : Hid (f = false → r = false) := fun h => by
              rw [HR2.out]
              refine stepsB_off _ _ k h0 hkx ?_
              rw [← HS.out, ← hs', ← h, hf]
              rfl
            obtain ⟨j, hj⟩ : ∃ j, j = k - 1 := ⟨_, rfl⟩
            rw [← hj] at d0 d1 d2
            have e0 := Lib.hid d0
            have e1 := Lib.hid d1
            have e2 := Lib.hid d2
            have hw1 : IntKind.i64.wrap ((k : Int) - 1) = (j : Int) := by rw [IntWalk.i64_in _ (by omega)]; omega
            have hw3 : j < n5 := by omega
            have hw4 : (j : Int) < (n5 : Int) := by omega
            have HJ := Lib.hid hj
            clear hj
            clear d0 d1 d2 hs' hf
            have CS : Hid (∀ W, Below w.heap.size w W ∧ VarIs W w.heap.size #[.int .i64 st, .int .i64 it, .slice a2 n2 c2, .slice a3 n3 c3, .slice a4 n4 c4, .slice (some ⟨b, off, none⟩) n5 c5] 30 ∧ VarIs W wr.heap.size #[.int .i64 x, .int .i64 y, .int .i64 z] 60 ∧ W.cell? ⟨w.heap.size, 0, none⟩ = some (.int .i64 st) ∧ W.cell? ⟨w.heap.size, 1, none⟩ = some (.int .i64 it) ∧ W.cell? ⟨w.heap.size, 2, none⟩ = some (.slice a2 n2 c2) ∧ W.cell? ⟨w.heap.size, 3, none⟩ = some (.slice a3 n3 c3) ∧ W.cell? ⟨w.heap.size, 4, none⟩ = some (.slice a4 n4 c4) ∧ W.cell? ⟨w.heap.size, 5, none⟩ = some (.slice (some ⟨b, off, none⟩) n5 c5) ∧ W.cell? ⟨wr.heap.size, 0, none⟩ = some (.int .i64 x) ∧ W.cell? ⟨wr.heap.size, 1, none⟩ = some (.int .i64 y) ∧ W.cell? ⟨wr.heap.size, 2, none⟩ = some (.int .i64 z) ∧ W.cell? ⟨b, off + j * 3, none⟩ = some (.int .i64 x') ∧ W.cell? ⟨b, off + j * 3 + 1, none⟩ = some (.int .i64 y') ∧ W.cell? ⟨b, off + j * 3 + 2, none⟩ = some (.int .i64 z') → Calls Try.prog 76 #[.agg #[.int .i64 st, .int .i64 it, .slice a2 n2 c2, .slice a3 n3 c3, .slice a4 n4 c4, .slice (some ⟨b, off, none⟩) n5 c5], .agg #[.int .i64 x, .int .i64 y, .int .i64 z]] W fun e w' => e = .returned (.bool true) ∧ (Below w.heap.size w w' ∧ VarIs w' w.heap.size #[.int .i64 st, .int .i64 it, .slice a2 n2 c2, .slice a3 n3 c3, .slice a4 n4 c4, .slice (some ⟨b, off, none⟩) n5 c5] 30 ∧ VarIs w' wr.heap.size #[.int .i64 x, .int .i64 y, .int .i64 z] 60 ∧ w'.cell? ⟨w.heap.size, 0, none⟩ = some (.int .i64 st) ∧ w'.cell? ⟨w.heap.size, 1, none⟩ = some (.int .i64 it) ∧ w'.cell? ⟨w.heap.size, 2, none⟩ = some (.slice a2 n2 c2) ∧ w'.cell? ⟨w.heap.size, 3, none⟩ = some (.slice a3 n3 c3) ∧ w'.cell? ⟨w.heap.size, 4, none⟩ = some (.slice a4 n4 c4) ∧ w'.cell? ⟨w.heap.size, 5, none⟩ = some (.slice (some ⟨b, off, none⟩) n5 c5) ∧ w'.cell? ⟨wr.heap.size, 0, none⟩ = some (.int .i64 x) ∧ w'.cell? ⟨wr.heap.size, 1, none⟩ = some (.int .i64 y) ∧ w'.cell? ⟨wr.heap.size, 2, none⟩ = some (.int .i64 z) ∧ w'.cell? ⟨b, off + j * 3, none⟩ = some (.int .i64 x') ∧ w'.cell? ⟨b, off + j * 3 + 1, none⟩ = some (.int .i64 y') ∧ w'.cell? ⟨b, off + j * 3 + 2, none⟩ = some (.int .i64 z'))) := fun W hW =>
              (stepOk_any st it a2 n2 c2 a3 n3 c3 a4 n4 c4 _ ins outs hids x y z W (R2.out.below hW.1) (R3.out.below hW.1) (R4.out.below hW.1) f2 f3 f4).mono fun e w' ⟨he, hb⟩ => ⟨by rw [he]; exact congrArg (fun q => Ending.returned (.bool q)) HP.out, ⟨hW.1.trans (hb.mono hW.1.size), hW.2.1.below hb, hW.2.2.1.below hb, (hW.2.1.below hb).cell rfl, (hW.2.1.below hb).cell rfl, (hW.2.1.below hb).cell rfl, (hW.2.1.below hb).cell rfl, (hW.2.1.below hb).cell rfl, (hW.2.1.below hb).cell rfl, (hW.2.2.1.below hb).cell rfl, (hW.2.2.1.below hb).cell rfl, (hW.2.2.1.below hb).cell rfl, ((hW.1.trans (hb.mono hW.1.size)).cell (p := ⟨b, off + j * 3, none⟩) hb0.out).trans e0.out, ((hW.1.trans (hb.mono hW.1.size)).cell (p := ⟨b, off + j * 3 + 1, none⟩) hb0.out).trans e1.out, ((hW.1.trans (hb.mono hW.1.size)).cell (p := ⟨b, off + j * 3 + 2, none⟩) hb0.out).trans e2.out⟩⟩
            have CF : Hid (∀ W, Below w.heap.size w W ∧ VarIs W w.heap.size #[.int .i64 st, .int .i64 it, .slice a2 n2 c2, .slice a3 n3 c3, .slice a4 n4 c4, .slice (some ⟨b, off, none⟩) n5 c5] 30 ∧ VarIs W wr.heap.size #[.int .i64 x, .int .i64 y, .int .i64 z] 60 ∧ W.cell? ⟨w.heap.size, 0, none⟩ = some (.int .i64 st) ∧ W.cell? ⟨w.heap.size, 1, none⟩ = some (.int .i64 it) ∧ W.cell? ⟨w.heap.size, 2, none⟩ = some (.slice a2 n2 c2) ∧ W.cell? ⟨w.heap.size, 3, none⟩ = some (.slice a3 n3 c3) ∧ W.cell? ⟨w.heap.size, 4, none⟩ = some (.slice a4 n4 c4) ∧ W.cell? ⟨w.heap.size, 5, none⟩ = some (.slice (some ⟨b, off, none⟩) n5 c5) ∧ W.cell? ⟨wr.heap.size, 0, none⟩ = some (.int .i64 x) ∧ W.cell? ⟨wr.heap.size, 1, none⟩ = some (.int .i64 y) ∧ W.cell? ⟨wr.heap.size, 2, none⟩ = some (.int .i64 z) ∧ W.cell? ⟨b, off + j * 3, none⟩ = some (.int .i64 x') ∧ W.cell? ⟨b, off + j * 3 + 1, none⟩ = some (.int .i64 y') ∧ W.cell? ⟨b, off + j * 3 + 2, none⟩ = some (.int .i64 z') → Calls Try.prog 77 #[.agg #[.int .i64 st, .int .i64 it, .slice a2 n2 c2, .slice a3 n3 c3, .slice a4 n4 c4, .slice (some ⟨b, off, none⟩) n5 c5], .agg #[.int .i64 x', .int .i64 y', .int .i64 z'], .agg #[.int .i64 x, .int .i64 y, .int .i64 z]] W fun e w' => e = .returned (.bool f) ∧ (Below w.heap.size w w' ∧ VarIs w' w.heap.size #[.int .i64 st, .int .i64 it, .slice a2 n2 c2, .slice a3 n3 c3, .slice a4 n4 c4, .slice (some ⟨b, off, none⟩) n5 c5] 30 ∧ VarIs w' wr.heap.size #[.int .i64 x, .int .i64 y, .int .i64 z] 60 ∧ w'.cell? ⟨w.heap.size, 0, none⟩ = some (.int .i64 st) ∧ w'.cell? ⟨w.heap.size, 1, none⟩ = some (.int .i64 it) ∧ w'.cell? ⟨w.heap.size, 2, none⟩ = some (.slice a2 n2 c2) ∧ w'.cell? ⟨w.heap.size, 3, none⟩ = some (.slice a3 n3 c3) ∧ w'.cell? ⟨w.heap.size, 4, none⟩ = some (.slice a4 n4 c4) ∧ w'.cell? ⟨w.heap.size, 5, none⟩ = some (.slice (some ⟨b, off, none⟩) n5 c5) ∧ w'.cell? ⟨wr.heap.size, 0, none⟩ = some (.int .i64 x) ∧ w'.cell? ⟨wr.heap.size, 1, none⟩ = some (.int .i64 y) ∧ w'.cell? ⟨wr.heap.size, 2, none⟩ = some (.int .i64 z) ∧ w'.cell? ⟨b, off + j * 3, none⟩ = some (.int .i64 x') ∧ w'.cell? ⟨b, off + j * 3 + 1, none⟩ = some (.int .i64 y') ∧ w'.cell? ⟨b, off + j * 3 + 2, none⟩ = some (.int .i64 z'))) := fun W hW =>
              (mayFollow_any st it a2 n2 c2 _ _ _ ins x' y' z' x y z W (R2.out.below hW.1) f2).mono fun e w' ⟨he, hb⟩ => ⟨by rw [he, HF.out], ⟨hW.1.trans (hb.mono hW.1.size), hW.2.1.below hb, hW.2.2.1.below hb, (hW.2.1.below hb).cell rfl, (hW.2.1.below hb).cell rfl, (hW.2.1.below hb).cell rfl, (hW.2.1.below hb).cell rfl, (hW.2.1.below hb).cell rfl, (hW.2.1.below hb).cell rfl, (hW.2.2.1.below hb).cell rfl, (hW.2.2.1.below hb).cell rfl, (hW.2.2.1.below hb).cell rfl, ((hW.1.trans (hb.mono hW.1.size)).cell (p := ⟨b, off + j * 3, none⟩) hb0.out).trans e0.out, ((hW.1.trans (hb.mono hW.1.size)).cell (p := ⟨b, off + j * 3 + 1, none⟩) hb0.out).trans e1.out, ((hW.1.trans (hb.mono hW.1.size)).cell (p := ⟨b, off + j * 3 + 2, none⟩) hb0.out).trans e2.out⟩⟩
            have S0 : Below w.heap.size w (wr.alloc (.cells #[.int .i64 x, .int .i64 y, .int .i64 z] 60)).drew ∧ VarIs (wr.alloc (.cells #[.int .i64 x, .int .i64 y, .int .i64 z] 60)).drew w.heap.size #[.int .i64 st, .int .i64 it, .slice a2 n2 c2, .slice a3 n3 c3, .slice a4 n4 c4, .slice (some ⟨b, off, none⟩) n5 c5] 30 ∧ VarIs (wr.alloc (.cells #[.int .i64 x, .int .i64 y, .int .i64 z] 60)).drew wr.heap.size #[.int .i64 x, .int .i64 y, .int .i64 z] 60 ∧ (wr.alloc (.cells #[.int .i64 x, .int .i64 y, .int .i64 z] 60)).drew.cell? ⟨w.heap.size, 0, none⟩ = some (.int .i64 st) ∧ (wr.alloc (.cells #[.int .i64 x, .int .i64 y, .int .i64 z] 60)).drew.cell? ⟨w.heap.size, 1, none⟩ = some (.int .i64 it) ∧ (wr.alloc (.cells #[.int .i64 x, .int .i64 y, .int .i64 z] 60)).drew.cell? ⟨w.heap.size, 2, none⟩ = some (.slice a2 n2 c2) ∧ (wr.alloc (.cells #[.int .i64 x, .int .i64 y, .int .i64 z] 60)).drew.cell? ⟨w.heap.size, 3, none⟩ = some (.slice a3 n3 c3) ∧ (wr.alloc (.cells #[.int .i64 x, .int .i64 y, .int .i64 z] 60)).drew.cell? ⟨w.heap.size, 4, none⟩ = some (.slice a4 n4 c4) ∧ (wr.alloc (.cells #[.int .i64 x, .int .i64 y, .int .i64 z] 60)).drew.cell? ⟨w.heap.size, 5, none⟩ = some (.slice (some ⟨b, off, none⟩) n5 c5) ∧ (wr.alloc (.cells #[.int .i64 x, .int .i64 y, .int .i64 z] 60)).drew.cell? ⟨wr.heap.size, 0, none⟩ = some (.int .i64 x) ∧ (wr.alloc (.cells #[.int .i64 x, .int .i64 y, .int .i64 z] 60)).drew.cell? ⟨wr.heap.size, 1, none⟩ = some (.int .i64 y) ∧ (wr.alloc (.cells #[.int .i64 x, .int .i64 y, .int .i64 z] 60)).drew.cell? ⟨wr.heap.size, 2, none⟩ = some (.int .i64 z) ∧ (wr.alloc (.cells #[.int .i64 x, .int .i64 y, .int .i64 z] 60)).drew.cell? ⟨b, off + j * 3, none⟩ = some (.int .i64 x') ∧ (wr.alloc (.cells #[.int .i64 x, .int .i64 y, .int .i64 z] 60)).drew.cell? ⟨b, off + j * 3 + 1, none⟩ = some (.int .i64 y') ∧ (wr.alloc (.cells #[.int .i64 x, .int .i64 y, .int .i64 z] 60)).drew.cell? ⟨b, off + j * 3 + 2, none⟩ = some (.int .i64 z') := ⟨BX.out.drew, HVA.out, HX.out, HVA.out.cell rfl, HVA.out.cell rfl, HVA.out.cell rfl, HVA.out.cell rfl, HVA.out.cell rfl, HVA.out.cell rfl, HX.out.cell rfl, HX.out.cell rfl, HX.out.cell rfl, (BX.out.drew.cell (p := ⟨b, off + j * 3, none⟩) hb0.out).trans e0.out, (BX.out.drew.cell (p := ⟨b, off + j * 3 + 1, none⟩) hb0.out).trans e1.out, (BX.out.drew.cell (p := ⟨b, off + j * 3 + 2, none⟩) hb0.out).trans e2.out⟩
            go_wp2_with fail
            clear g0 g1 g2 kb
            go_region_held3 (fun w' => Below w.heap.size w w' ∧ VarIs w' w.heap.size #[.int .i64 st, .int .i64 it, .slice a2 n2 c2, .slice a3 n3 c3, .slice a4 n4 c4, .slice (some ⟨b, off, none⟩) n5 c5] 30 ∧ VarIs w' wr.heap.size #[.int .i64 x, .int .i64 y, .int .i64 z] 60 ∧ w'.cell? ⟨w.heap.size, 0, none⟩ = some (.int .i64 st) ∧ w'.cell? ⟨w.heap.size, 1, none⟩ = some (.int .i64 it) ∧ w'.cell? ⟨w.heap.size, 2, none⟩ = some (.slice a2 n2 c2) ∧ w'.cell? ⟨w.heap.size, 3, none⟩ = some (.slice a3 n3 c3) ∧ w'.cell? ⟨w.heap.size, 4, none⟩ = some (.slice a4 n4 c4) ∧ w'.cell? ⟨w.heap.size, 5, none⟩ = some (.slice (some ⟨b, off, none⟩) n5 c5) ∧ w'.cell? ⟨wr.heap.size, 0, none⟩ = some (.int .i64 x) ∧ w'.cell? ⟨wr.heap.size, 1, none⟩ = some (.int .i64 y) ∧ w'.cell? ⟨wr.heap.size, 2, none⟩ = some (.int .i64 z) ∧ w'.cell? ⟨b, off + j * 3, none⟩ = some (.int .i64 x') ∧ w'.cell? ⟨b, off + j * 3 + 1, none⟩ = some (.int .i64 y') ∧ w'.cell? ⟨b, off + j * 3 + 2, none⟩ = some (.int .i64 z'))
              (first | exact hS2 | exact hS1 | exact S0)
              ((first | (go_at_call 76; refine (CS.out _ S0).mono ?_; rintro e w' ⟨rfl, hS1⟩) | (go_at_call 77; refine (CF.out _ hS1).mono ?_; rintro e w' ⟨rfl, hS2⟩)))
            have B5 := Lib.hid hS2.1
            have V5 := Lib.hid hS2.2.1
            clear S0 hS1 hS2 CF CS
            cases f with
            | true =>
              go_wp2_with fail
              go_roundw
              case rel => exact ⟨k + 1, by omega, by go_num, HN.out, B5.out, V5.out⟩
              case measure => simp [intOf]; omega
            | false =>
              go_wp2_with fail
              go_ret
              exact ⟨ret_bool (HNF.out (by simp)).symm, B5.out⟩
          · have hd : decide ((0 : Int) < (k : Int)) = false := by simp; omega
            have hd2 : decide (0 < k) = false := by simp; omega
            have HZ : Hid (stepsB ⟨st, it, ins, outs, hids, steps⟩ (steps.take (k + 1)) = true) := by
              unfold Hid
              rw [stepsB_zero _ _ k h0 hkx, ← HS.out]
              exact HG.out
            clear h0
            have CS : Hid (∀ W, Below w.heap.size w W ∧ VarIs W w.heap.size #[.int .i64 st, .int .i64 it, .slice a2 n2 c2, .slice a3 n3 c3, .slice a4 n4 c4, .slice (some ⟨b, off, none⟩) n5 c5] 30 ∧ VarIs W wr.heap.size #[.int .i64 x, .int .i64 y, .int .i64 z] 60 ∧ W.cell? ⟨w.heap.size, 0, none⟩ = some (.int .i64 st) ∧ W.cell? ⟨w.heap.size, 1, none⟩ = some (.int .i64 it) ∧ W.cell? ⟨w.heap.size, 2, none⟩ = some (.slice a2 n2 c2) ∧ W.cell? ⟨w.heap.size, 3, none⟩ = some (.slice a3 n3 c3) ∧ W.cell? ⟨w.heap.size, 4, none⟩ = some (.slice a4 n4 c4) ∧ W.cell? ⟨w.heap.size, 5, none⟩ = some (.slice (some ⟨b, off, none⟩) n5 c5) ∧ W.cell? ⟨wr.heap.size, 0, none⟩ = some (.int .i64 x) ∧ W.cell? ⟨wr.heap.size, 1, none⟩ = some (.int .i64 y) ∧ W.cell? ⟨wr.heap.size, 2, none⟩ = some (.int .i64 z) → Calls Try.prog 76 #[.agg #[.int .i64 st, .int .i64 it, .slice a2 n2 c2, .slice a3 n3 c3, .slice a4 n4 c4, .slice (some ⟨b, off, none⟩) n5 c5], .agg #[.int .i64 x, .int .i64 y, .int .i64 z]] W fun e w' => e = .returned (.bool true) ∧ (Below w.heap.size w w' ∧ VarIs w' w.heap.size #[.int .i64 st, .int .i64 it, .slice a2 n2 c2, .slice a3 n3 c3, .slice a4 n4 c4, .slice (some ⟨b, off, none⟩) n5 c5] 30 ∧ VarIs w' wr.heap.size #[.int .i64 x, .int .i64 y, .int .i64 z] 60 ∧ w'.cell? ⟨w.heap.size, 0, none⟩ = some (.int .i64 st) ∧ w'.cell? ⟨w.heap.size, 1, none⟩ = some (.int .i64 it) ∧ w'.cell? ⟨w.heap.size, 2, none⟩ = some (.slice a2 n2 c2) ∧ w'.cell? ⟨w.heap.size, 3, none⟩ = some (.slice a3 n3 c3) ∧ w'.cell? ⟨w.heap.size, 4, none⟩ = some (.slice a4 n4 c4) ∧ w'.cell? ⟨w.heap.size, 5, none⟩ = some (.slice (some ⟨b, off, none⟩) n5 c5) ∧ w'.cell? ⟨wr.heap.size, 0, none⟩ = some (.int .i64 x) ∧ w'.cell? ⟨wr.heap.size, 1, none⟩ = some (.int .i64 y) ∧ w'.cell? ⟨wr.heap.size, 2, none⟩ = some (.int .i64 z))) := fun W hW =>
              (stepOk_any st it a2 n2 c2 a3 n3 c3 a4 n4 c4 _ ins outs hids x y z W (R2.out.below hW.1) (R3.out.below hW.1) (R4.out.below hW.1) f2 f3 f4).mono fun e w' ⟨he, hb⟩ => ⟨by rw [he]; exact congrArg (fun q => Ending.returned (.bool q)) HP.out, ⟨hW.1.trans (hb.mono hW.1.size), hW.2.1.below hb, hW.2.2.1.below hb, (hW.2.1.below hb).cell rfl, (hW.2.1.below hb).cell rfl, (hW.2.1.below hb).cell rfl, (hW.2.1.below hb).cell rfl, (hW.2.1.below hb).cell rfl, (hW.2.1.below hb).cell rfl, (hW.2.2.1.below hb).cell rfl, (hW.2.2.1.below hb).cell rfl, (hW.2.2.1.below hb).cell rfl⟩⟩
            have S0 : Below w.heap.size w (wr.alloc (.cells #[.int .i64 x, .int .i64 y, .int .i64 z] 60)).drew ∧ VarIs (wr.alloc (.cells #[.int .i64 x, .int .i64 y, .int .i64 z] 60)).drew w.heap.size #[.int .i64 st, .int .i64 it, .slice a2 n2 c2, .slice a3 n3 c3, .slice a4 n4 c4, .slice (some ⟨b, off, none⟩) n5 c5] 30 ∧ VarIs (wr.alloc (.cells #[.int .i64 x, .int .i64 y, .int .i64 z] 60)).drew wr.heap.size #[.int .i64 x, .int .i64 y, .int .i64 z] 60 ∧ (wr.alloc (.cells #[.int .i64 x, .int .i64 y, .int .i64 z] 60)).drew.cell? ⟨w.heap.size, 0, none⟩ = some (.int .i64 st) ∧ (wr.alloc (.cells #[.int .i64 x, .int .i64 y, .int .i64 z] 60)).drew.cell? ⟨w.heap.size, 1, none⟩ = some (.int .i64 it) ∧ (wr.alloc (.cells #[.int .i64 x, .int .i64 y, .int .i64 z] 60)).drew.cell? ⟨w.heap.size, 2, none⟩ = some (.slice a2 n2 c2) ∧ (wr.alloc (.cells #[.int .i64 x, .int .i64 y, .int .i64 z] 60)).drew.cell? ⟨w.heap.size, 3, none⟩ = some (.slice a3 n3 c3) ∧ (wr.alloc (.cells #[.int .i64 x, .int .i64 y, .int .i64 z] 60)).drew.cell? ⟨w.heap.size, 4, none⟩ = some (.slice a4 n4 c4) ∧ (wr.alloc (.cells #[.int .i64 x, .int .i64 y, .int .i64 z] 60)).drew.cell? ⟨w.heap.size, 5, none⟩ = some (.slice (some ⟨b, off, none⟩) n5 c5) ∧ (wr.alloc (.cells #[.int .i64 x, .int .i64 y, .int .i64 z] 60)).drew.cell? ⟨wr.heap.size, 0, none⟩ = some (.int .i64 x) ∧ (wr.alloc (.cells #[.int .i64 x, .int .i64 y, .int .i64 z] 60)).drew.cell? ⟨wr.heap.size, 1, none⟩ = some (.int .i64 y) ∧ (wr.alloc (.cells #[.int .i64 x, .int .i64 y, .int .i64 z] 60)).drew.cell? ⟨wr.heap.size, 2, none⟩ = some (.int .i64 z) := ⟨BX.out.drew, HVA.out, HX.out, HVA.out.cell rfl, HVA.out.cell rfl, HVA.out.cell rfl, HVA.out.cell rfl, HVA.out.cell rfl, HVA.out.cell rfl, HX.out.cell rfl, HX.out.cell rfl, HX.out.cell rfl⟩
            go_wp2_with fail
            clear g0 g1 g2 kb
            refine wp_region_held_drew (S := fun w' => Below w.heap.size w w' ∧ VarIs w' w.heap.size #[.int .i64 st, .int .i64 it, .slice a2 n2 c2, .slice a3 n3 c3, .slice a4 n4 c4, .slice (some ⟨b, off, none⟩) n5 c5] 30 ∧ VarIs w' wr.heap.size #[.int .i64 x, .int .i64 y, .int .i64 z] 60 ∧ w'.cell? ⟨w.heap.size, 0, none⟩ = some (.int .i64 st) ∧ w'.cell? ⟨w.heap.size, 1, none⟩ = some (.int .i64 it) ∧ w'.cell? ⟨w.heap.size, 2, none⟩ = some (.slice a2 n2 c2) ∧ w'.cell? ⟨w.heap.size, 3, none⟩ = some (.slice a3 n3 c3) ∧ w'.cell? ⟨w.heap.size, 4, none⟩ = some (.slice a4 n4 c4) ∧ w'.cell? ⟨w.heap.size, 5, none⟩ = some (.slice (some ⟨b, off, none⟩) n5 c5) ∧ w'.cell? ⟨wr.heap.size, 0, none⟩ = some (.int .i64 x) ∧ w'.cell? ⟨wr.heap.size, 1, none⟩ = some (.int .i64 y) ∧ w'.cell? ⟨wr.heap.size, 2, none⟩ = some (.int .i64 z)) (by kernel_rfl) S0 (fun hHeld => ?_)
            change wpAnyH _ _ _ _ _ 20 (Array.replicate 20 false) _ _
            refine take_op 0 17 (.agg #[.int .i64 st, .int .i64 it, .slice a2 n2 c2, .slice a3 n3 c3, .slice a4 n4 c4, .slice (some ⟨b, off, none⟩) n5 c5]) (fuel := 19) rfl rfl (by kernel_rfl) (by kernel_rfl) (by kernel_rfl) (fun _ _ _ h => h) (by rfl) (fun w hSw => by go_simp) hHeld ?_
            simp only [Act.put, List.setIfInBounds_toArray, List.set_cons_zero, List.set_cons_succ]
            refine take_op 1 18 (.agg #[.int .i64 x, .int .i64 y, .int .i64 z]) (fuel := 18) rfl rfl (by kernel_rfl) (by kernel_rfl) (by kernel_rfl) (fun _ _ _ h => h) (by rfl) (fun w hSw => by go_simp) hHeld ?_
            simp only [Act.put, List.setIfInBounds_toArray, List.set_cons_zero, List.set_cons_succ]
            refine wpAnyH_ready (rs := [2]) (fuel := 17) (by kernel_rfl) (by simp) ?_
            refine AllReadyH.cons rfl (fun K hK => ?_) AllReadyH.nil
            go_simp
            refine (CS.out _ S0).mono ?_
            rintro e w' ⟨rfl, hS1⟩
            go_wp2_with fail
            refine hK.out _ _ hS1 (fun hHeld => ?_)
            clear hK K
            refine take_op 3 20 (.bool false) (fuel := 16) rfl rfl (by kernel_rfl) (by kernel_rfl) (by kernel_rfl) (fun _ _ _ h => h) (by rfl) (fun w hSw => by go_simp) hHeld ?_
            simp only [Act.put, List.setIfInBounds_toArray, List.set_cons_zero, List.set_cons_succ]
            refine take_op 4 21 (.bool false) (fuel := 15) rfl rfl (by kernel_rfl) (by kernel_rfl) (by kernel_rfl) (fun _ _ _ h => h) (by rfl) (fun w hSw => by go_simp) hHeld ?_
            simp only [Act.put, List.setIfInBounds_toArray, List.set_cons_zero, List.set_cons_succ]
            refine take_op 5 22 (.int .i64 k) (fuel := 14) rfl rfl (by kernel_rfl) (by kernel_rfl) (by kernel_rfl) (fun _ _ _ h => h) (by rfl) (fun w hSw => by go_simp) hHeld ?_
            simp only [Act.put, List.setIfInBounds_toArray, List.set_cons_zero, List.set_cons_succ]
            refine take_op 6 23 (.bool false) (fuel := 13) rfl rfl (by kernel_rfl) (by kernel_rfl) (by kernel_rfl) (fun _ _ _ h => h) (by rfl) (fun w hSw => by go_simp) hHeld ?_
            simp only [Act.put, List.setIfInBounds_toArray, List.set_cons_zero, List.set_cons_succ]
            refine take_op 7 24 (.bool false) (fuel := 12) rfl rfl (by kernel_rfl) (by kernel_rfl) (by kernel_rfl) (fun _ _ _ h => h) (by rfl) (fun w hSw => by go_simp) hHeld ?_
            simp only [Act.put, List.setIfInBounds_toArray, List.set_cons_zero, List.set_cons_succ]
            refine skip_op 8 25 (fuel := 11) rfl rfl (by kernel_rfl) (by kernel_rfl) (by kernel_rfl) (fun _ _ _ h => h) (by rfl) hHeld ?_
            simp only [Act.put, List.setIfInBounds_toArray, List.set_cons_zero, List.set_cons_succ]
            refine skip_op 9 26 (fuel := 10) rfl rfl (by kernel_rfl) (by kernel_rfl) (by kernel_rfl) (fun _ _ _ h => h) (by rfl) hHeld ?_
            simp only [Act.put, List.setIfInBounds_toArray, List.set_cons_zero, List.set_cons_succ]
            refine skip_op 10 27 (fuel := 9) rfl rfl (by kernel_rfl) (by kernel_rfl) (by kernel_rfl) (fun _ _ _ h => h) (by rfl) hHeld ?_
            simp only [Act.put, List.setIfInBounds_toArray, List.set_cons_zero, List.set_cons_succ]
            refine skip_op 11 28 (fuel := 8) rfl rfl (by kernel_rfl) (by kernel_rfl) (by kernel_rfl) (fun _ _ _ h => h) (by rfl) hHeld ?_
            simp only [Act.put, List.setIfInBounds_toArray, List.set_cons_zero, List.set_cons_succ]
            refine skip_op 12 29 (fuel := 7) rfl rfl (by kernel_rfl) (by kernel_rfl) (by kernel_rfl) (fun _ _ _ h => h) (by rfl) hHeld ?_
            simp only [Act.put, List.setIfInBounds_toArray, List.set_cons_zero, List.set_cons_succ]
            refine skip_op 13 30 (fuel := 6) rfl rfl (by kernel_rfl) (by kernel_rfl) (by kernel_rfl) (fun _ _ _ h => h) (by rfl) hHeld ?_
            simp only [Act.put, List.setIfInBounds_toArray, List.set_cons_zero, List.set_cons_succ]
            refine skip_op 14 31 (fuel := 5) rfl rfl (by kernel_rfl) (by kernel_rfl) (by kernel_rfl) (fun _ _ _ h => h) (by rfl) hHeld ?_
            simp only [Act.put, List.setIfInBounds_toArray, List.set_cons_zero, List.set_cons_succ]
            refine skip_op 15 32 (fuel := 4) rfl rfl (by kernel_rfl) (by kernel_rfl) (by kernel_rfl) (fun _ _ _ h => h) (by rfl) hHeld ?_
            simp only [Act.put, List.setIfInBounds_toArray, List.set_cons_zero, List.set_cons_succ]
            refine skip_op 16 33 (fuel := 3) rfl rfl (by kernel_rfl) (by kernel_rfl) (by kernel_rfl) (fun _ _ _ h => h) (by rfl) hHeld ?_
            simp only [Act.put, List.setIfInBounds_toArray, List.set_cons_zero, List.set_cons_succ]
            refine skip_op 17 34 (fuel := 2) rfl rfl (by kernel_rfl) (by kernel_rfl) (by kernel_rfl) (fun _ _ _ h => h) (by rfl) hHeld ?_
            simp only [Act.put, List.setIfInBounds_toArray, List.set_cons_zero, List.set_cons_succ]
            refine take_op 18 35 (.bool false) (fuel := 1) rfl rfl (by kernel_rfl) (by kernel_rfl) (by kernel_rfl) (fun _ _ _ h => h) (by rfl) (fun w hSw => by go_simp) hHeld ?_
            simp only [Act.put, List.setIfInBounds_toArray, List.set_cons_zero, List.set_cons_succ]
            refine take_op 19 36 (.bool false) (fuel := 0) rfl rfl (by kernel_rfl) (by kernel_rfl) (by kernel_rfl) (fun _ _ _ h => h) (by rfl) (fun w hSw => by go_simp) hHeld ?_
            simp only [Act.put, List.setIfInBounds_toArray, List.set_cons_zero, List.set_cons_succ]
            refine wpAnyH_done (by kernel_rfl) ?_ _
            have B5 := Lib.hid hS1.1
            have V5 := Lib.hid hS1.2.1
            clear S0 hS1  CS
            go_wp2_with fail
            go_roundw
            case rel => exact ⟨k + 1, by omega, by go_num, HZ.out, B5.out, V5.out⟩
            case measure => simp [intOf]; omega
        · have HP : Hid ((btw x 0 (st - 1) && btw z 0 (st - 1) && (hasB ins y || hasB outs y || hasB hids y)) = false) := Bool.eq_false_iff.2 hg
          have HBAD : Hid (r = false) := by
            unfold Hid
            rw [HR2.out]
            exact stepsB_bad _ _ k hkx (by rw [← HS.out]; exact HP.out)
          clear hg
          have CS : Hid (∀ W, Below w.heap.size w W ∧ VarIs W w.heap.size #[.int .i64 st, .int .i64 it, .slice a2 n2 c2, .slice a3 n3 c3, .slice a4 n4 c4, .slice (some ⟨b, off, none⟩) n5 c5] 30 ∧ VarIs W wr.heap.size #[.int .i64 x, .int .i64 y, .int .i64 z] 60 ∧ W.cell? ⟨w.heap.size, 0, none⟩ = some (.int .i64 st) ∧ W.cell? ⟨w.heap.size, 1, none⟩ = some (.int .i64 it) ∧ W.cell? ⟨w.heap.size, 2, none⟩ = some (.slice a2 n2 c2) ∧ W.cell? ⟨w.heap.size, 3, none⟩ = some (.slice a3 n3 c3) ∧ W.cell? ⟨w.heap.size, 4, none⟩ = some (.slice a4 n4 c4) ∧ W.cell? ⟨w.heap.size, 5, none⟩ = some (.slice (some ⟨b, off, none⟩) n5 c5) ∧ W.cell? ⟨wr.heap.size, 0, none⟩ = some (.int .i64 x) ∧ W.cell? ⟨wr.heap.size, 1, none⟩ = some (.int .i64 y) ∧ W.cell? ⟨wr.heap.size, 2, none⟩ = some (.int .i64 z) → Calls Try.prog 76 #[.agg #[.int .i64 st, .int .i64 it, .slice a2 n2 c2, .slice a3 n3 c3, .slice a4 n4 c4, .slice (some ⟨b, off, none⟩) n5 c5], .agg #[.int .i64 x, .int .i64 y, .int .i64 z]] W fun e w' => e = .returned (.bool false) ∧ (Below w.heap.size w w' ∧ VarIs w' w.heap.size #[.int .i64 st, .int .i64 it, .slice a2 n2 c2, .slice a3 n3 c3, .slice a4 n4 c4, .slice (some ⟨b, off, none⟩) n5 c5] 30 ∧ VarIs w' wr.heap.size #[.int .i64 x, .int .i64 y, .int .i64 z] 60 ∧ w'.cell? ⟨w.heap.size, 0, none⟩ = some (.int .i64 st) ∧ w'.cell? ⟨w.heap.size, 1, none⟩ = some (.int .i64 it) ∧ w'.cell? ⟨w.heap.size, 2, none⟩ = some (.slice a2 n2 c2) ∧ w'.cell? ⟨w.heap.size, 3, none⟩ = some (.slice a3 n3 c3) ∧ w'.cell? ⟨w.heap.size, 4, none⟩ = some (.slice a4 n4 c4) ∧ w'.cell? ⟨w.heap.size, 5, none⟩ = some (.slice (some ⟨b, off, none⟩) n5 c5) ∧ w'.cell? ⟨wr.heap.size, 0, none⟩ = some (.int .i64 x) ∧ w'.cell? ⟨wr.heap.size, 1, none⟩ = some (.int .i64 y) ∧ w'.cell? ⟨wr.heap.size, 2, none⟩ = some (.int .i64 z))) := fun W hW =>
            (stepOk_any st it a2 n2 c2 a3 n3 c3 a4 n4 c4 _ ins outs hids x y z W (R2.out.below hW.1) (R3.out.below hW.1) (R4.out.below hW.1) f2 f3 f4).mono fun e w' ⟨he, hb⟩ => ⟨by rw [he]; exact congrArg (fun q => Ending.returned (.bool q)) HP.out, ⟨hW.1.trans (hb.mono hW.1.size), hW.2.1.below hb, hW.2.2.1.below hb, (hW.2.1.below hb).cell rfl, (hW.2.1.below hb).cell rfl, (hW.2.1.below hb).cell rfl, (hW.2.1.below hb).cell rfl, (hW.2.1.below hb).cell rfl, (hW.2.1.below hb).cell rfl, (hW.2.2.1.below hb).cell rfl, (hW.2.2.1.below hb).cell rfl, (hW.2.2.1.below hb).cell rfl⟩⟩
          have S0 : Below w.heap.size w (wr.alloc (.cells #[.int .i64 x, .int .i64 y, .int .i64 z] 60)).drew ∧ VarIs (wr.alloc (.cells #[.int .i64 x, .int .i64 y, .int .i64 z] 60)).drew w.heap.size #[.int .i64 st, .int .i64 it, .slice a2 n2 c2, .slice a3 n3 c3, .slice a4 n4 c4, .slice (some ⟨b, off, none⟩) n5 c5] 30 ∧ VarIs (wr.alloc (.cells #[.int .i64 x, .int .i64 y, .int .i64 z] 60)).drew wr.heap.size #[.int .i64 x, .int .i64 y, .int .i64 z] 60 ∧ (wr.alloc (.cells #[.int .i64 x, .int .i64 y, .int .i64 z] 60)).drew.cell? ⟨w.heap.size, 0, none⟩ = some (.int .i64 st) ∧ (wr.alloc (.cells #[.int .i64 x, .int .i64 y, .int .i64 z] 60)).drew.cell? ⟨w.heap.size, 1, none⟩ = some (.int .i64 it) ∧ (wr.alloc (.cells #[.int .i64 x, .int .i64 y, .int .i64 z] 60)).drew.cell? ⟨w.heap.size, 2, none⟩ = some (.slice a2 n2 c2) ∧ (wr.alloc (.cells #[.int .i64 x, .int .i64 y, .int .i64 z] 60)).drew.cell? ⟨w.heap.size, 3, none⟩ = some (.slice a3 n3 c3) ∧ (wr.alloc (.cells #[.int .i64 x, .int .i64 y, .int .i64 z] 60)).drew.cell? ⟨w.heap.size, 4, none⟩ = some (.slice a4 n4 c4) ∧ (wr.alloc (.cells #[.int .i64 x, .int .i64 y, .int .i64 z] 60)).drew.cell? ⟨w.heap.size, 5, none⟩ = some (.slice (some ⟨b, off, none⟩) n5 c5) ∧ (wr.alloc (.cells #[.int .i64 x, .int .i64 y, .int .i64 z] 60)).drew.cell? ⟨wr.heap.size, 0, none⟩ = some (.int .i64 x) ∧ (wr.alloc (.cells #[.int .i64 x, .int .i64 y, .int .i64 z] 60)).drew.cell? ⟨wr.heap.size, 1, none⟩ = some (.int .i64 y) ∧ (wr.alloc (.cells #[.int .i64 x, .int .i64 y, .int .i64 z] 60)).drew.cell? ⟨wr.heap.size, 2, none⟩ = some (.int .i64 z) := ⟨BX.out.drew, HVA.out, HX.out, HVA.out.cell rfl, HVA.out.cell rfl, HVA.out.cell rfl, HVA.out.cell rfl, HVA.out.cell rfl, HVA.out.cell rfl, HX.out.cell rfl, HX.out.cell rfl, HX.out.cell rfl⟩
          go_wp2_with fail
          clear g0 g1 g2 kb
          refine wp_region_held_drew (S := fun w' => Below w.heap.size w w' ∧ VarIs w' w.heap.size #[.int .i64 st, .int .i64 it, .slice a2 n2 c2, .slice a3 n3 c3, .slice a4 n4 c4, .slice (some ⟨b, off, none⟩) n5 c5] 30 ∧ VarIs w' wr.heap.size #[.int .i64 x, .int .i64 y, .int .i64 z] 60 ∧ w'.cell? ⟨w.heap.size, 0, none⟩ = some (.int .i64 st) ∧ w'.cell? ⟨w.heap.size, 1, none⟩ = some (.int .i64 it) ∧ w'.cell? ⟨w.heap.size, 2, none⟩ = some (.slice a2 n2 c2) ∧ w'.cell? ⟨w.heap.size, 3, none⟩ = some (.slice a3 n3 c3) ∧ w'.cell? ⟨w.heap.size, 4, none⟩ = some (.slice a4 n4 c4) ∧ w'.cell? ⟨w.heap.size, 5, none⟩ = some (.slice (some ⟨b, off, none⟩) n5 c5) ∧ w'.cell? ⟨wr.heap.size, 0, none⟩ = some (.int .i64 x) ∧ w'.cell? ⟨wr.heap.size, 1, none⟩ = some (.int .i64 y) ∧ w'.cell? ⟨wr.heap.size, 2, none⟩ = some (.int .i64 z)) (by kernel_rfl) S0 (fun hHeld => ?_)
          change wpAnyH _ _ _ _ _ 20 (Array.replicate 20 false) _ _
          refine take_op 0 17 (.agg #[.int .i64 st, .int .i64 it, .slice a2 n2 c2, .slice a3 n3 c3, .slice a4 n4 c4, .slice (some ⟨b, off, none⟩) n5 c5]) (fuel := 19) rfl rfl (by kernel_rfl) (by kernel_rfl) (by kernel_rfl) (fun _ _ _ h => h) (by rfl) (fun w hSw => by go_simp) hHeld ?_
          simp only [Act.put, List.setIfInBounds_toArray, List.set_cons_zero, List.set_cons_succ]
          refine take_op 1 18 (.agg #[.int .i64 x, .int .i64 y, .int .i64 z]) (fuel := 18) rfl rfl (by kernel_rfl) (by kernel_rfl) (by kernel_rfl) (fun _ _ _ h => h) (by rfl) (fun w hSw => by go_simp) hHeld ?_
          simp only [Act.put, List.setIfInBounds_toArray, List.set_cons_zero, List.set_cons_succ]
          refine wpAnyH_ready (rs := [2]) (fuel := 17) (by kernel_rfl) (by simp) ?_
          refine AllReadyH.cons rfl (fun K hK => ?_) AllReadyH.nil
          go_simp
          refine (CS.out _ S0).mono ?_
          rintro e w' ⟨rfl, hS1⟩
          go_wp2_with fail
          refine hK.out _ _ hS1 (fun hHeld => ?_)
          clear hK K
          refine take_op 3 20 (.bool true) (fuel := 16) rfl rfl (by kernel_rfl) (by kernel_rfl) (by kernel_rfl) (fun _ _ _ h => h) (by rfl) (fun w hSw => by go_simp) hHeld ?_
          simp only [Act.put, List.setIfInBounds_toArray, List.set_cons_zero, List.set_cons_succ]
          refine take_op 4 21 (.bool true) (fuel := 15) rfl rfl (by kernel_rfl) (by kernel_rfl) (by kernel_rfl) (fun _ _ _ h => h) (by rfl) (fun w hSw => by go_simp) hHeld ?_
          simp only [Act.put, List.setIfInBounds_toArray, List.set_cons_zero, List.set_cons_succ]
          refine skip_op 5 22 (fuel := 14) rfl rfl (by kernel_rfl) (by kernel_rfl) (by kernel_rfl) (fun _ _ _ h => h) (by rfl) hHeld ?_
          simp only [Act.put, List.setIfInBounds_toArray, List.set_cons_zero, List.set_cons_succ]
          refine skip_op 6 23 (fuel := 13) rfl rfl (by kernel_rfl) (by kernel_rfl) (by kernel_rfl) (fun _ _ _ h => h) (by rfl) hHeld ?_
          simp only [Act.put, List.setIfInBounds_toArray, List.set_cons_zero, List.set_cons_succ]
          refine skip_op 7 24 (fuel := 12) rfl rfl (by kernel_rfl) (by kernel_rfl) (by kernel_rfl) (fun _ _ _ h => h) (by rfl) hHeld ?_
          simp only [Act.put, List.setIfInBounds_toArray, List.set_cons_zero, List.set_cons_succ]
          refine skip_op 8 25 (fuel := 11) rfl rfl (by kernel_rfl) (by kernel_rfl) (by kernel_rfl) (fun _ _ _ h => h) (by rfl) hHeld ?_
          simp only [Act.put, List.setIfInBounds_toArray, List.set_cons_zero, List.set_cons_succ]
          refine skip_op 9 26 (fuel := 10) rfl rfl (by kernel_rfl) (by kernel_rfl) (by kernel_rfl) (fun _ _ _ h => h) (by rfl) hHeld ?_
          simp only [Act.put, List.setIfInBounds_toArray, List.set_cons_zero, List.set_cons_succ]
          refine skip_op 10 27 (fuel := 9) rfl rfl (by kernel_rfl) (by kernel_rfl) (by kernel_rfl) (fun _ _ _ h => h) (by rfl) hHeld ?_
          simp only [Act.put, List.setIfInBounds_toArray, List.set_cons_zero, List.set_cons_succ]
          refine skip_op 11 28 (fuel := 8) rfl rfl (by kernel_rfl) (by kernel_rfl) (by kernel_rfl) (fun _ _ _ h => h) (by rfl) hHeld ?_
          simp only [Act.put, List.setIfInBounds_toArray, List.set_cons_zero, List.set_cons_succ]
          refine skip_op 12 29 (fuel := 7) rfl rfl (by kernel_rfl) (by kernel_rfl) (by kernel_rfl) (fun _ _ _ h => h) (by rfl) hHeld ?_
          simp only [Act.put, List.setIfInBounds_toArray, List.set_cons_zero, List.set_cons_succ]
          refine skip_op 13 30 (fuel := 6) rfl rfl (by kernel_rfl) (by kernel_rfl) (by kernel_rfl) (fun _ _ _ h => h) (by rfl) hHeld ?_
          simp only [Act.put, List.setIfInBounds_toArray, List.set_cons_zero, List.set_cons_succ]
          refine skip_op 14 31 (fuel := 5) rfl rfl (by kernel_rfl) (by kernel_rfl) (by kernel_rfl) (fun _ _ _ h => h) (by rfl) hHeld ?_
          simp only [Act.put, List.setIfInBounds_toArray, List.set_cons_zero, List.set_cons_succ]
          refine skip_op 15 32 (fuel := 4) rfl rfl (by kernel_rfl) (by kernel_rfl) (by kernel_rfl) (fun _ _ _ h => h) (by rfl) hHeld ?_
          simp only [Act.put, List.setIfInBounds_toArray, List.set_cons_zero, List.set_cons_succ]
          refine skip_op 16 33 (fuel := 3) rfl rfl (by kernel_rfl) (by kernel_rfl) (by kernel_rfl) (fun _ _ _ h => h) (by rfl) hHeld ?_
          simp only [Act.put, List.setIfInBounds_toArray, List.set_cons_zero, List.set_cons_succ]
          refine skip_op 17 34 (fuel := 2) rfl rfl (by kernel_rfl) (by kernel_rfl) (by kernel_rfl) (fun _ _ _ h => h) (by rfl) hHeld ?_
          simp only [Act.put, List.setIfInBounds_toArray, List.set_cons_zero, List.set_cons_succ]
          refine skip_op 18 35 (fuel := 1) rfl rfl (by kernel_rfl) (by kernel_rfl) (by kernel_rfl) (fun _ _ _ h => h) (by rfl) hHeld ?_
          simp only [Act.put, List.setIfInBounds_toArray, List.set_cons_zero, List.set_cons_succ]
          refine take_op 19 36 (.bool true) (fuel := 0) rfl rfl (by kernel_rfl) (by kernel_rfl) (by kernel_rfl) (fun _ _ _ h => h) (by rfl) (fun w hSw => by go_simp) hHeld ?_
          simp only [Act.put, List.setIfInBounds_toArray, List.set_cons_zero, List.set_cons_succ]
          refine wpAnyH_done (by kernel_rfl) ?_ _
          have B5 := Lib.hid hS1.1
          have V5 := Lib.hid hS1.2.1
          clear S0 hS1  CS
          go_wp2_with fail
          go_ret
          exact ⟨ret_bool HBAD.out.symm, B5.out⟩
      · have HE : Hid (r = true) := by
          have := HT.out
          rw [List.take_of_length_le (by rw [HL5.out]; omega)] at this
          rw [HR2.out]; exact this
        go_wp2_with fail
        go_ret
        exact ⟨ret_bool HE.out.symm, hnx⟩
  · have HR2 : Hid (r = false) := by
      have := HR.out
      rwa [decide_eq_false h4, Bool.false_and] at this
    clear HR
    go_enter Try.func65, Try.ntmps65
    go_wp2_with fail
    go_ret
    exact ⟨ret_bool HR2.out.symm, B0.out _⟩

end Go.Proofs.Ytalanlmhfggheaa
