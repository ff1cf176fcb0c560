/-
  The contract of the model's IaText: the text of an automaton, empty where it is not right. Conditions: the slices read as lists of at most 2^20 elements.
-/
import Derived.Test.YtfhjhfhfbgddeaaGreatDoorSpecIaOk
import Derived.Test.YtfhjhfhfbgddeaaGreatDoorMarked
import Derived.Test.YtfhjhfhfbgddeaaGreatDoorIaLaw
import Derived.Test.YtfhjhfhfbgddeaaGreatDoorRegion
import Derived.StillTailTactics
namespace Go.Proofs.YtfhjhfhfbgddeaaGreatDoor
open Go.RowKit

/-- All numbers of an automaton may stand in a text. -/
structure IaNums (a : IaD) : Prop where
  states : small a.states
  init : small a.init
  ins : ∀ x ∈ a.ins, small x
  outs : ∀ x ∈ a.outs, small x
  hids : ∀ x ∈ a.hids, small x
  steps : ∀ x ∈ a.steps, small x.1 ∧ small x.2.1 ∧ small x.2.2
  count : a.steps.length ≤ 400

theorem iaOk_nums {a : IaD} (h : iaOkB a = true) : IaNums a := by
  simp only [iaOkB, setsB, Bool.and_eq_true, decide_eq_true_eq] at h
  obtain ⟨⟨⟨⟨h1, h2⟩, ⟨⟨⟨s3, s4⟩, s5⟩, hc⟩⟩, _⟩, hs⟩ := h
  have b1 : 1 ≤ a.states ∧ a.states ≤ 40 := by simpa [btw] using h1
  have b2 : 0 ≤ a.init ∧ a.init ≤ a.states - 1 := by simpa [stateB, btw] using h2
  refine ⟨⟨by omega, by omega⟩, ⟨by omega, by omega⟩, fun x hx => ?_, fun x hx => ?_, fun x hx => ?_, fun x hx => ?_, hc⟩
  · have := setOk_small s3 hx; exact ⟨by omega, by omega⟩
  · have := setOk_small s4 hx; exact ⟨by omega, by omega⟩
  · have := setOk_small s5 hx; exact ⟨by omega, by omega⟩
  · have g := stepsB_good a a.steps hs x hx
    simp only [goodStepB, stateB, btw, Bool.and_eq_true, Bool.or_eq_true, decide_eq_true_eq, hasB] at g
    obtain ⟨⟨⟨a1, a2⟩, ⟨b1, b2⟩⟩, hm⟩ := g
    have : 0 ≤ x.2.1 ∧ x.2.1 ≤ 11 := by
      rcases hm with (hm | hm) | hm
      · exact setOk_small s3 hm
      · exact setOk_small s4 hm
      · exact setOk_small s5 hm
    exact ⟨⟨by omega, by omega⟩, ⟨by omega, by omega⟩, ⟨by omega, by omega⟩⟩

/-- The first lines, as the model puts them together. -/
theorem head_bytes (st it : Int) (ins outs hids : List Int) (steps : List St) {T1 T2 T3 T4 : ByteArray} (h1 : T1 = bs (numsOf [st, it])) (h2 : T2 = bs (numsOf ins)) (h3 : T3 = bs (numsOf outs)) (h4 : T4 = bs (numsOf hids)) :
    bs [115, 116, 97, 116, 101, 115] ++ T1 ++ bs [10, 105, 110, 115] ++ T2 ++ bs [10, 111, 117, 116, 115] ++ T3 ++ bs [10, 104, 105, 100, 115] ++ T4 ++ bs [10] = bs (headOf ⟨st, it, ins, outs, hids, steps⟩) := by
  subst h1; subst h2; subst h3; subst h4
  simp only [bs_app]
  congr 1
  simp [headOf, lineOf, wStates, wIns, wOuts, wHids, List.append_assoc]

theorem step_bytes (x : St) {T : ByteArray} (h : T = bs (numsOf (stepNums x))) : bs [115, 116, 101, 112] ++ T ++ bs [10] = bs (stepLine x) := by
  subst h
  simp only [bs_app]
  rfl

theorem steps_take {ss : List St} {k : Nat} (h : k < ss.length) : (ss.take (k + 1)).flatMap stepLine = (ss.take k).flatMap stepLine ++ stepLine ss[k] := by
  rw [List.take_succ_eq_append_getElem h, List.flatMap_append, List.flatMap_cons, List.flatMap_nil, List.append_nil]

theorem stepLine_len {x : St} (h1 : small x.1) (h2 : small x.2.1) (h3 : small x.2.2) : (stepLine x).length ≤ 71 := by
  refine Nat.le_trans (lineOf_len _ _ ?_) (by simp [wStep, stepNums])
  intro y hy
  simp [stepNums] at hy
  rcases hy with rfl | rfl | rfl
  · exact h1.i64
  · exact h2.i64
  · exact h3.i64

theorem nums_small {l : List Int} (h : ∀ x ∈ l, small x) : ∀ x ∈ l, InI64 x := fun x hx => (h x hx).i64

theorem nums_two {x y : Int} (hx : small x) (hy : small y) : ∀ z ∈ [x, y], InI64 z := by
  intro z hz
  simp at hz
  rcases hz with rfl | rfl
  · exact hx.i64
  · exact hy.i64

theorem nums_step {x : St} (h : small x.1 ∧ small x.2.1 ∧ small x.2.2) : ∀ z ∈ stepNums x, InI64 z := by
  intro z hz
  simp [stepNums] at hz
  rcases hz with rfl | rfl | rfl
  · exact h.1.i64
  · exact h.2.1.i64
  · exact h.2.2.i64

theorem head_len {a : IaD} (h : IaNums a) (f2 : a.ins.length ≤ 1048576) (f3 : a.outs.length ≤ 1048576) (f4 : a.hids.length ≤ 1048576) : (headOf a).length ≤ 100000000 := by
  have h1 := lineOf_len wStates [a.states, a.init] (nums_two h.states h.init)
  have h2 := lineOf_len wIns a.ins (nums_small h.ins)
  have h3 := lineOf_len wOuts a.outs (nums_small h.outs)
  have h4 := lineOf_len wHids a.hids (nums_small h.hids)
  simp only [wStates, wIns, wOuts, wHids, List.length_cons, List.length_nil] at h1 h2 h3 h4
  unfold headOf
  simp only [wStates, wIns, wOuts, wHids, List.length_append]
  omega

theorem steps_len : ∀ (ss : List St), (∀ x ∈ ss, small x.1 ∧ small x.2.1 ∧ small x.2.2) → (ss.flatMap stepLine).length ≤ 71 * ss.length
  | [], _ => by simp
  | x :: r, h => by
    have h1 := steps_len r (fun y hy => h y (List.mem_cons_of_mem _ hy))
    obtain ⟨a, b, c⟩ := h x (List.mem_cons_self ..)
    have h2 := stepLine_len a b c
    rw [List.flatMap_cons, List.length_append, List.length_cons]
    omega

theorem row_lit (w : World) (l : List Int) : Row (w.alloc (.cells (l.map (Value.int .i64)).toArray 3)) (some ⟨w.heap.size, 0, none⟩) l.length l := by
  refine ⟨rfl, fun hn => ⟨w.heap.size, 0, rfl, by simp, fun j hj => ?_⟩⟩
  rw [Nat.zero_add, cell_of_row _ w.heap.size j _ 3 (0, 0) (heap_alloc_new w _)]
  simp [hj]

set_option maxRecDepth 20000 in
set_option maxHeartbeats 3200000 in
theorem specIaText_any (a : IaD) (v : Value) (w : World) (h : IaRow w a v) (f2 : a.ins.length ≤ 1048576) (f3 : a.outs.length ≤ 1048576) (f4 : a.hids.length ≤ 1048576) (f5 : a.steps.length ≤ 1048576) :
    Calls Tryz.prog 7 #[v] w fun e w' => e = .returned (.string (bs (iaTextOf a))) ∧ Below w.heap.size w w' := by
  have CO : Hid (∀ W, Below w.heap.size w W → Calls Tryz.prog 8 #[v] W fun e w' => e = .returned (.bool (iaOkB a)) ∧ Below W.heap.size W w') := fun W hW => specIaOk_any a v W (h.below hW) f2 f3 f4 f5
  have HN : Hid (iaOkB a = true → IaNums a) := iaOk_nums
  obtain ⟨q, hq⟩ : ∃ q, q = iaOkB a := ⟨_, rfl⟩
  obtain ⟨L, hL⟩ : ∃ L, L = iaTextOf a := ⟨_, rfl⟩
  have HL : Hid (L = if q then iaLines a else []) := by rw [hL, hq]; rfl
  have HHL : Hid (IaNums a → (headOf a).length ≤ 100000000) := fun hn => head_len hn f2 f3 f4
  have HSL : Hid (IaNums a → ∀ k, ((a.steps.take k).flatMap stepLine).length ≤ 71 * k) := fun hn k => Nat.le_trans (steps_len _ (fun x hx => hn.steps x (List.mem_of_mem_take hx))) (by rw [List.length_take]; omega)
  rw [← hL]
  rw [← hq] at CO HN
  clear hq hL
  obtain ⟨a2, n2, c2, a3, n3, c3, a4, n4, c4, a5, n5, c5, rfl, r2, r3, r4, r5⟩ := h
  obtain ⟨st, it, ins, outs, hids, steps⟩ := a
  simp only at r2 r3 r4 r5 f2 f3 f4 f5
  have hl2 := r2.1
  have hl3 := r3.1
  have hl4 := r4.1
  have hl5 := r5.1
  rw [hl2] at f2
  rw [hl3] at f3
  rw [hl4] at f4
  rw [hl5] at f5
  have R2 := Lib.hid r2
  have R3 := Lib.hid r3
  have R4 := Lib.hid r4
  have R5 := Lib.hid r5
  clear r2 r3 r4 r5
  have B0 : Hid (∀ o, Below w.heap.size w (w.alloc o)) := fun o => (Below.refl _ _).alloc (Nat.le_refl _) _
  have V0 := Lib.hid (VarIs.new w #[.int .i64 st, .int .i64 it, .slice a2 n2 c2, .slice a3 n3 c3, .slice a4 n4 c4, .slice a5 n5 c5] 27 rfl)
  simp only at CO
  go_enter Tryz.func7, Tryz.ntmps7
  go_wp2_with fail
  refine (CO.out _ (B0.out _)).mono ?_
  rintro e w1 ⟨rfl, hb⟩
  have B1 : Hid (Below w.heap.size w w1) := (B0.out _).trans (hb.mono (B0.out _).size)
  have V1 := Lib.hid (V0.out.below hb)
  clear hb V0 CO
  cases q with
  | false =>
    go_wp2_with fail
    go_ret
    obtain rfl : L = [] := HL.out
    exact ⟨rfl, B1.out⟩
  | true =>
    have HN1 := Lib.hid (HN.out rfl)
    have HHL1 := Lib.hid (HHL.out HN1.out)
    have HSL1 := Lib.hid (HSL.out HN1.out)
    have HL1 : Hid (L = iaLines ⟨st, it, ins, outs, hids, steps⟩) := HL.out
    clear HN HHL HSL HL
    obtain ⟨T1, hT1⟩ : ∃ T, T = bs (numsOf [st, it]) := ⟨_, rfl⟩
    obtain ⟨T2, hT2⟩ : ∃ T, T = bs (numsOf ins) := ⟨_, rfl⟩
    obtain ⟨T3, hT3⟩ : ∃ T, T = bs (numsOf outs) := ⟨_, rfl⟩
    obtain ⟨T4, hT4⟩ : ∃ T, T = bs (numsOf hids) := ⟨_, rfl⟩
    have z1 : T1.size ≤ 44 := by rw [hT1, bs_size]; exact numsOf_len _ (nums_two HN1.out.states HN1.out.init)
    have z2 : T2.size ≤ 23068672 := by rw [hT2, bs_size]; have := numsOf_len _ (nums_small HN1.out.ins); simp only at this; omega
    have z3 : T3.size ≤ 23068672 := by rw [hT3, bs_size]; have := numsOf_len _ (nums_small HN1.out.outs); simp only at this; omega
    have z4 : T4.size ≤ 23068672 := by rw [hT4, bs_size]; have := numsOf_len _ (nums_small HN1.out.hids); simp only at this; omega
    have HH : Hid ((⟨#[115, 116, 97, 116, 101, 115]⟩ : ByteArray) ++ T1 ++ (⟨#[10, 105, 110, 115]⟩ : ByteArray) ++ T2 ++ (⟨#[10, 111, 117, 116, 115]⟩ : ByteArray) ++ T3 ++ (⟨#[10, 104, 105, 100, 115]⟩ : ByteArray) ++ T4 ++ (⟨#[10]⟩ : ByteArray) = bs (headOf ⟨st, it, ins, outs, hids, steps⟩)) := head_bytes st it ins outs hids steps hT1 hT2 hT3 hT4
    have V1d := V1.out.drew
    have S0 : Below w.heap.size w w1.drew ∧ VarIs w1.drew w.heap.size #[.int .i64 st, .int .i64 it, .slice a2 n2 c2, .slice a3 n3 c3, .slice a4 n4 c4, .slice a5 n5 c5] 27 ∧ w1.drew.cell? ⟨w.heap.size, 0, none⟩ = some (.int .i64 st) ∧ w1.drew.cell? ⟨w.heap.size, 1, none⟩ = some (.int .i64 it) ∧ w1.drew.cell? ⟨w.heap.size, 2, none⟩ = some (.slice a2 n2 c2) ∧ w1.drew.cell? ⟨w.heap.size, 3, none⟩ = some (.slice a3 n3 c3) ∧ w1.drew.cell? ⟨w.heap.size, 4, none⟩ = some (.slice a4 n4 c4) ∧ w1.drew.cell? ⟨w.heap.size, 5, none⟩ = some (.slice a5 n5 c5) := ⟨B1.out.drew, V1d, V1d.cell rfl, V1d.cell rfl, V1d.cell rfl, V1d.cell rfl, V1d.cell rfl, V1d.cell rfl⟩
    have SA : ∀ o, Below w.heap.size w (w1.drew.alloc o) ∧ VarIs (w1.drew.alloc o) w.heap.size #[.int .i64 st, .int .i64 it, .slice a2 n2 c2, .slice a3 n3 c3, .slice a4 n4 c4, .slice a5 n5 c5] 27 ∧ (w1.drew.alloc o).cell? ⟨w.heap.size, 0, none⟩ = some (.int .i64 st) ∧ (w1.drew.alloc o).cell? ⟨w.heap.size, 1, none⟩ = some (.int .i64 it) ∧ (w1.drew.alloc o).cell? ⟨w.heap.size, 2, none⟩ = some (.slice a2 n2 c2) ∧ (w1.drew.alloc o).cell? ⟨w.heap.size, 3, none⟩ = some (.slice a3 n3 c3) ∧ (w1.drew.alloc o).cell? ⟨w.heap.size, 4, none⟩ = some (.slice a4 n4 c4) ∧ (w1.drew.alloc o).cell? ⟨w.heap.size, 5, none⟩ = some (.slice a5 n5 c5) := fun o => ⟨B1.out.drew.alloc B1.out.size o, V1d.alloc o, (V1d.alloc o).cell rfl, (V1d.alloc o).cell rfl, (V1d.alloc o).cell rfl, (V1d.alloc o).cell rfl, (V1d.alloc o).cell rfl, (V1d.alloc o).cell rfl⟩
    clear V1d
    have C1 : Hid (Calls Tryz.prog 19 #[.slice (some ⟨w1.heap.size, 0, none⟩) 2 2] (w1.drew.alloc (.cells #[.int .i64 st, .int .i64 it] 3)) fun e w' => e = .returned (.string T1) ∧ (Below w.heap.size w w' ∧ VarIs w' w.heap.size #[.int .i64 st, .int .i64 it, .slice a2 n2 c2, .slice a3 n3 c3, .slice a4 n4 c4, .slice a5 n5 c5] 27 ∧ w'.cell? ⟨w.heap.size, 0, none⟩ = some (.int .i64 st) ∧ w'.cell? ⟨w.heap.size, 1, none⟩ = some (.int .i64 it) ∧ w'.cell? ⟨w.heap.size, 2, none⟩ = some (.slice a2 n2 c2) ∧ w'.cell? ⟨w.heap.size, 3, none⟩ = some (.slice a3 n3 c3) ∧ w'.cell? ⟨w.heap.size, 4, none⟩ = some (.slice a4 n4 c4) ∧ w'.cell? ⟨w.heap.size, 5, none⟩ = some (.slice a5 n5 c5))) := by
      rw [hT1]
      exact (specNums_any (some ⟨w1.heap.size, 0, none⟩) 2 2 [st, it] _ (row_lit w1.drew [st, it]) (by omega) (nums_two HN1.out.states HN1.out.init)).mono fun e w' ⟨he, hb⟩ => by
        have hW := SA (.cells #[.int .i64 st, .int .i64 it] 3)
        exact ⟨he, hW.1.trans (hb.mono hW.1.size), hW.2.1.below hb, (hW.2.1.below hb).cell rfl, (hW.2.1.below hb).cell rfl, (hW.2.1.below hb).cell rfl, (hW.2.1.below hb).cell rfl, (hW.2.1.below hb).cell rfl, (hW.2.1.below hb).cell rfl⟩
    have C2 : Hid (∀ W, Below w.heap.size w W ∧ VarIs W w.heap.size #[.int .i64 st, .int .i64 it, .slice a2 n2 c2, .slice a3 n3 c3, .slice a4 n4 c4, .slice a5 n5 c5] 27 ∧ W.cell? ⟨w.heap.size, 0, none⟩ = some (.int .i64 st) ∧ W.cell? ⟨w.heap.size, 1, none⟩ = some (.int .i64 it) ∧ W.cell? ⟨w.heap.size, 2, none⟩ = some (.slice a2 n2 c2) ∧ W.cell? ⟨w.heap.size, 3, none⟩ = some (.slice a3 n3 c3) ∧ W.cell? ⟨w.heap.size, 4, none⟩ = some (.slice a4 n4 c4) ∧ W.cell? ⟨w.heap.size, 5, none⟩ = some (.slice a5 n5 c5) → Calls Tryz.prog 19 #[.slice a2 n2 c2] W fun e w' => e = .returned (.string T2) ∧ (Below w.heap.size w w' ∧ VarIs w' w.heap.size #[.int .i64 st, .int .i64 it, .slice a2 n2 c2, .slice a3 n3 c3, .slice a4 n4 c4, .slice a5 n5 c5] 27 ∧ w'.cell? ⟨w.heap.size, 0, none⟩ = some (.int .i64 st) ∧ w'.cell? ⟨w.heap.size, 1, none⟩ = some (.int .i64 it) ∧ w'.cell? ⟨w.heap.size, 2, none⟩ = some (.slice a2 n2 c2) ∧ w'.cell? ⟨w.heap.size, 3, none⟩ = some (.slice a3 n3 c3) ∧ w'.cell? ⟨w.heap.size, 4, none⟩ = some (.slice a4 n4 c4) ∧ w'.cell? ⟨w.heap.size, 5, none⟩ = some (.slice a5 n5 c5))) := by
      rw [hT2]
      exact fun W hW => (specNums_any a2 n2 c2 ins W (R2.out.below hW.1) f2 (nums_small HN1.out.ins)).mono fun e w' ⟨he, hb⟩ => ⟨he, hW.1.trans (hb.mono hW.1.size), hW.2.1.below hb, (hW.2.1.below hb).cell rfl, (hW.2.1.below hb).cell rfl, (hW.2.1.below hb).cell rfl, (hW.2.1.below hb).cell rfl, (hW.2.1.below hb).cell rfl, (hW.2.1.below hb).cell rfl⟩
    have C3 : Hid (∀ W, Below w.heap.size w W ∧ VarIs W w.heap.size #[.int .i64 st, .int .i64 it, .slice a2 n2 c2, .slice a3 n3 c3, .slice a4 n4 c4, .slice a5 n5 c5] 27 ∧ W.cell? ⟨w.heap.size, 0, none⟩ = some (.int .i64 st) ∧ W.cell? ⟨w.heap.size, 1, none⟩ = some (.int .i64 it) ∧ W.cell? ⟨w.heap.size, 2, none⟩ = some (.slice a2 n2 c2) ∧ W.cell? ⟨w.heap.size, 3, none⟩ = some (.slice a3 n3 c3) ∧ W.cell? ⟨w.heap.size, 4, none⟩ = some (.slice a4 n4 c4) ∧ W.cell? ⟨w.heap.size, 5, none⟩ = some (.slice a5 n5 c5) → Calls Tryz.prog 19 #[.slice a3 n3 c3] W fun e w' => e = .returned (.string T3) ∧ (Below w.heap.size w w' ∧ VarIs w' w.heap.size #[.int .i64 st, .int .i64 it, .slice a2 n2 c2, .slice a3 n3 c3, .slice a4 n4 c4, .slice a5 n5 c5] 27 ∧ w'.cell? ⟨w.heap.size, 0, none⟩ = some (.int .i64 st) ∧ w'.cell? ⟨w.heap.size, 1, none⟩ = some (.int .i64 it) ∧ w'.cell? ⟨w.heap.size, 2, none⟩ = some (.slice a2 n2 c2) ∧ w'.cell? ⟨w.heap.size, 3, none⟩ = some (.slice a3 n3 c3) ∧ w'.cell? ⟨w.heap.size, 4, none⟩ = some (.slice a4 n4 c4) ∧ w'.cell? ⟨w.heap.size, 5, none⟩ = some (.slice a5 n5 c5))) := by
      rw [hT3]
      exact fun W hW => (specNums_any a3 n3 c3 outs W (R3.out.below hW.1) f3 (nums_small HN1.out.outs)).mono fun e w' ⟨he, hb⟩ => ⟨he, hW.1.trans (hb.mono hW.1.size), hW.2.1.below hb, (hW.2.1.below hb).cell rfl, (hW.2.1.below hb).cell rfl, (hW.2.1.below hb).cell rfl, (hW.2.1.below hb).cell rfl, (hW.2.1.below hb).cell rfl, (hW.2.1.below hb).cell rfl⟩
    have C4 : Hid (∀ W, Below w.heap.size w W ∧ VarIs W w.heap.size #[.int .i64 st, .int .i64 it, .slice a2 n2 c2, .slice a3 n3 c3, .slice a4 n4 c4, .slice a5 n5 c5] 27 ∧ W.cell? ⟨w.heap.size, 0, none⟩ = some (.int .i64 st) ∧ W.cell? ⟨w.heap.size, 1, none⟩ = some (.int .i64 it) ∧ W.cell? ⟨w.heap.size, 2, none⟩ = some (.slice a2 n2 c2) ∧ W.cell? ⟨w.heap.size, 3, none⟩ = some (.slice a3 n3 c3) ∧ W.cell? ⟨w.heap.size, 4, none⟩ = some (.slice a4 n4 c4) ∧ W.cell? ⟨w.heap.size, 5, none⟩ = some (.slice a5 n5 c5) → Calls Tryz.prog 19 #[.slice a4 n4 c4] W fun e w' => e = .returned (.string T4) ∧ (Below w.heap.size w w' ∧ VarIs w' w.heap.size #[.int .i64 st, .int .i64 it, .slice a2 n2 c2, .slice a3 n3 c3, .slice a4 n4 c4, .slice a5 n5 c5] 27 ∧ w'.cell? ⟨w.heap.size, 0, none⟩ = some (.int .i64 st) ∧ w'.cell? ⟨w.heap.size, 1, none⟩ = some (.int .i64 it) ∧ w'.cell? ⟨w.heap.size, 2, none⟩ = some (.slice a2 n2 c2) ∧ w'.cell? ⟨w.heap.size, 3, none⟩ = some (.slice a3 n3 c3) ∧ w'.cell? ⟨w.heap.size, 4, none⟩ = some (.slice a4 n4 c4) ∧ w'.cell? ⟨w.heap.size, 5, none⟩ = some (.slice a5 n5 c5))) := by
      rw [hT4]
      exact fun W hW => (specNums_any a4 n4 c4 hids W (R4.out.below hW.1) f4 (nums_small HN1.out.hids)).mono fun e w' ⟨he, hb⟩ => ⟨he, hW.1.trans (hb.mono hW.1.size), hW.2.1.below hb, (hW.2.1.below hb).cell rfl, (hW.2.1.below hb).cell rfl, (hW.2.1.below hb).cell rfl, (hW.2.1.below hb).cell rfl, (hW.2.1.below hb).cell rfl, (hW.2.1.below hb).cell rfl⟩
    clear hT1 hT2 hT3 hT4
    have CV : Hid (∀ W, Below w.heap.size w W ∧ VarIs W w.heap.size #[.int .i64 st, .int .i64 it, .slice a2 n2 c2, .slice a3 n3 c3, .slice a4 n4 c4, .slice a5 n5 c5] 27 ∧ W.cell? ⟨w.heap.size, 0, none⟩ = some (.int .i64 st) ∧ W.cell? ⟨w.heap.size, 1, none⟩ = some (.int .i64 it) ∧ W.cell? ⟨w.heap.size, 2, none⟩ = some (.slice a2 n2 c2) ∧ W.cell? ⟨w.heap.size, 3, none⟩ = some (.slice a3 n3 c3) ∧ W.cell? ⟨w.heap.size, 4, none⟩ = some (.slice a4 n4 c4) ∧ W.cell? ⟨w.heap.size, 5, none⟩ = some (.slice a5 n5 c5) → ∃ v w', (convert 9 22 (.string ((⟨#[115, 116, 97, 116, 101, 115]⟩ : ByteArray) ++ T1 ++ (⟨#[10, 105, 110, 115]⟩ : ByteArray) ++ T2 ++ (⟨#[10, 111, 117, 116, 115]⟩ : ByteArray) ++ T3 ++ (⟨#[10, 104, 105, 100, 115]⟩ : ByteArray) ++ T4 ++ (⟨#[10]⟩ : ByteArray)))).run Tryz.prog W = .ok v w' ∧ OwnsM w' W.heap.size v (headOf ⟨st, it, ins, outs, hids, steps⟩).length (headOf ⟨st, it, ins, outs, hids, steps⟩) ∧ (Below w.heap.size w w' ∧ VarIs w' w.heap.size #[.int .i64 st, .int .i64 it, .slice a2 n2 c2, .slice a3 n3 c3, .slice a4 n4 c4, .slice a5 n5 c5] 27 ∧ w'.cell? ⟨w.heap.size, 0, none⟩ = some (.int .i64 st) ∧ w'.cell? ⟨w.heap.size, 1, none⟩ = some (.int .i64 it) ∧ w'.cell? ⟨w.heap.size, 2, none⟩ = some (.slice a2 n2 c2) ∧ w'.cell? ⟨w.heap.size, 3, none⟩ = some (.slice a3 n3 c3) ∧ w'.cell? ⟨w.heap.size, 4, none⟩ = some (.slice a4 n4 c4) ∧ w'.cell? ⟨w.heap.size, 5, none⟩ = some (.slice a5 n5 c5))) := fun W hW => by
      rw [HH.out]
      obtain ⟨v, w', h1, h2, hb⟩ := ownsM_of_text (P := Tryz.prog) W (headOf ⟨st, it, ins, outs, hids, steps⟩) (Nat.le_trans HHL1.out (by decide)) Tryz.underlying22 Tryz.underlying5 Tryz.underlying9
      exact ⟨v, w', h1, h2, hW.1.trans (hb.mono hW.1.size), hW.2.1.below hb, (hW.2.1.below hb).cell rfl, (hW.2.1.below hb).cell rfl, (hW.2.1.below hb).cell rfl, (hW.2.1.below hb).cell rfl, (hW.2.1.below hb).cell rfl, (hW.2.1.below hb).cell rfl⟩
    go_wp2_with fail
    have q1 : ¬ 9223372036854775807 < 6 + T1.size := by omega
    have q2 : ¬ 9223372036854775807 < 6 + T1.size + 4 := by omega
    have q3 : ¬ 9223372036854775807 < 6 + T1.size + 4 + T2.size := by omega
    have q4 : ¬ 9223372036854775807 < 6 + T1.size + 4 + T2.size + 5 := by omega
    have q5 : ¬ 9223372036854775807 < 6 + T1.size + 4 + T2.size + 5 + T3.size := by omega
    have q6 : ¬ 9223372036854775807 < 6 + T1.size + 4 + T2.size + 5 + T3.size + 5 := by omega
    have q7 : ¬ 9223372036854775807 < 6 + T1.size + 4 + T2.size + 5 + T3.size + 5 + T4.size := by omega
    have q8 : ¬ 9223372036854775807 < 6 + T1.size + 4 + T2.size + 5 + T3.size + 5 + T4.size + 1 := by omega
    refine wp_region_held_drew (S := fun w' => Below w.heap.size w w' ∧ VarIs w' w.heap.size #[.int .i64 st, .int .i64 it, .slice a2 n2 c2, .slice a3 n3 c3, .slice a4 n4 c4, .slice a5 n5 c5] 27 ∧ w'.cell? ⟨w.heap.size, 0, none⟩ = some (.int .i64 st) ∧ w'.cell? ⟨w.heap.size, 1, none⟩ = some (.int .i64 it) ∧ w'.cell? ⟨w.heap.size, 2, none⟩ = some (.slice a2 n2 c2) ∧ w'.cell? ⟨w.heap.size, 3, none⟩ = some (.slice a3 n3 c3) ∧ w'.cell? ⟨w.heap.size, 4, none⟩ = some (.slice a4 n4 c4) ∧ w'.cell? ⟨w.heap.size, 5, none⟩ = some (.slice a5 n5 c5)) (by kernel_rfl) S0 (fun hHeld => ?_)
    change wpAnyH _ _ _ _ _ 25 (Array.replicate 25 false) _ _
    refine take_op 0 8 (.pointer (some ⟨w.heap.size, 0, none⟩)) (fuel := 24) rfl rfl (by kernel_rfl) (by kernel_rfl) (by kernel_rfl) (fun _ _ _ h => h) (by rfl) (fun w hSw => by go_simp) hHeld ?_
    simp only [Act.put, List.setIfInBounds_toArray, List.set_cons_zero, List.set_cons_succ]
    refine take_op 1 9 (.int .i64 st) (fuel := 23) rfl rfl (by kernel_rfl) (by kernel_rfl) (by kernel_rfl) (fun _ _ _ h => h) (by rfl) (fun w hSw => by go_simp) hHeld ?_
    simp only [Act.put, List.setIfInBounds_toArray, List.set_cons_zero, List.set_cons_succ]
    refine take_op 2 10 (.pointer (some ⟨w.heap.size, 1, none⟩)) (fuel := 22) rfl rfl (by kernel_rfl) (by kernel_rfl) (by kernel_rfl) (fun _ _ _ h => h) (by rfl) (fun w hSw => by go_simp) hHeld ?_
    simp only [Act.put, List.setIfInBounds_toArray, List.set_cons_zero, List.set_cons_succ]
    refine take_op 3 11 (.int .i64 it) (fuel := 21) rfl rfl (by kernel_rfl) (by kernel_rfl) (by kernel_rfl) (fun _ _ _ h => h) (by rfl) (fun w hSw => by go_simp) hHeld ?_
    simp only [Act.put, List.setIfInBounds_toArray, List.set_cons_zero, List.set_cons_succ]
    refine take_op 8 16 (.pointer (some ⟨w.heap.size, 2, none⟩)) (fuel := 20) rfl rfl (by kernel_rfl) (by kernel_rfl) (by kernel_rfl) (fun _ _ _ h => h) (by rfl) (fun w hSw => by go_simp) hHeld ?_
    simp only [Act.put, List.setIfInBounds_toArray, List.set_cons_zero, List.set_cons_succ]
    refine take_op 9 17 (.slice a2 n2 c2) (fuel := 19) rfl rfl (by kernel_rfl) (by kernel_rfl) (by kernel_rfl) (fun _ _ _ h => h) (by rfl) (fun w hSw => by go_simp) hHeld ?_
    simp only [Act.put, List.setIfInBounds_toArray, List.set_cons_zero, List.set_cons_succ]
    refine take_op 13 21 (.pointer (some ⟨w.heap.size, 3, none⟩)) (fuel := 18) rfl rfl (by kernel_rfl) (by kernel_rfl) (by kernel_rfl) (fun _ _ _ h => h) (by rfl) (fun w hSw => by go_simp) hHeld ?_
    simp only [Act.put, List.setIfInBounds_toArray, List.set_cons_zero, List.set_cons_succ]
    refine take_op 14 22 (.slice a3 n3 c3) (fuel := 17) rfl rfl (by kernel_rfl) (by kernel_rfl) (by kernel_rfl) (fun _ _ _ h => h) (by rfl) (fun w hSw => by go_simp) hHeld ?_
    simp only [Act.put, List.setIfInBounds_toArray, List.set_cons_zero, List.set_cons_succ]
    refine take_op 18 26 (.pointer (some ⟨w.heap.size, 4, none⟩)) (fuel := 16) rfl rfl (by kernel_rfl) (by kernel_rfl) (by kernel_rfl) (fun _ _ _ h => h) (by rfl) (fun w hSw => by go_simp) hHeld ?_
    simp only [Act.put, List.setIfInBounds_toArray, List.set_cons_zero, List.set_cons_succ]
    refine take_op 19 27 (.slice a4 n4 c4) (fuel := 15) rfl rfl (by kernel_rfl) (by kernel_rfl) (by kernel_rfl) (fun _ _ _ h => h) (by rfl) (fun w hSw => by go_simp) hHeld ?_
    simp only [Act.put, List.setIfInBounds_toArray, List.set_cons_zero, List.set_cons_succ]
    refine wpAnyH_ready (rs := [4]) (fuel := 14) (by kernel_rfl) (by simp) ?_
    refine AllReadyH.cons rfl (fun K hK => ?_) AllReadyH.nil
    go_simp
    refine hK.out _ _ (SA _) (fun hHeld => ?_)
    clear hK K
    refine wpAnyH_ready (rs := [5]) (fuel := 13) (by kernel_rfl) (by simp) ?_
    refine AllReadyH.cons rfl (fun K hK => ?_) AllReadyH.nil
    go_simp
    refine (C1.out).mono ?_
    rintro e w' ⟨rfl, hS1⟩
    go_wp2_with fail
    refine hK.out _ _ hS1 (fun hHeld => ?_)
    clear hK K
    refine take_op 6 14 (.string ((⟨#[115, 116, 97, 116, 101, 115]⟩ : ByteArray) ++ T1)) (fuel := 12) rfl rfl (by kernel_rfl) (by kernel_rfl) (by kernel_rfl) (fun _ _ _ h => h) (by rfl) (fun w hSw => by go_simp) hHeld ?_
    simp only [Act.put, List.setIfInBounds_toArray, List.set_cons_zero, List.set_cons_succ]
    refine take_op 7 15 (.string ((⟨#[115, 116, 97, 116, 101, 115]⟩ : ByteArray) ++ T1 ++ (⟨#[10, 105, 110, 115]⟩ : ByteArray))) (fuel := 11) rfl rfl (by kernel_rfl) (by kernel_rfl) (by kernel_rfl) (fun _ _ _ h => h) (by rfl) (fun w hSw => by go_simp) hHeld ?_
    simp only [Act.put, List.setIfInBounds_toArray, List.set_cons_zero, List.set_cons_succ]
    refine wpAnyH_ready (rs := [10]) (fuel := 10) (by kernel_rfl) (by simp) ?_
    refine AllReadyH.cons rfl (fun K hK => ?_) AllReadyH.nil
    go_simp
    refine (C2.out _ hS1).mono ?_
    rintro e w' ⟨rfl, hS2⟩
    go_wp2_with fail
    refine hK.out _ _ hS2 (fun hHeld => ?_)
    clear hK K
    refine take_op 11 19 (.string ((⟨#[115, 116, 97, 116, 101, 115]⟩ : ByteArray) ++ T1 ++ (⟨#[10, 105, 110, 115]⟩ : ByteArray) ++ T2)) (fuel := 9) rfl rfl (by kernel_rfl) (by kernel_rfl) (by kernel_rfl) (fun _ _ _ h => h) (by rfl) (fun w hSw => by go_simp) hHeld ?_
    simp only [Act.put, List.setIfInBounds_toArray, List.set_cons_zero, List.set_cons_succ]
    refine take_op 12 20 (.string ((⟨#[115, 116, 97, 116, 101, 115]⟩ : ByteArray) ++ T1 ++ (⟨#[10, 105, 110, 115]⟩ : ByteArray) ++ T2 ++ (⟨#[10, 111, 117, 116, 115]⟩ : ByteArray))) (fuel := 8) rfl rfl (by kernel_rfl) (by kernel_rfl) (by kernel_rfl) (fun _ _ _ h => h) (by rfl) (fun w hSw => by go_simp) hHeld ?_
    simp only [Act.put, List.setIfInBounds_toArray, List.set_cons_zero, List.set_cons_succ]
    refine wpAnyH_ready (rs := [15]) (fuel := 7) (by kernel_rfl) (by simp) ?_
    refine AllReadyH.cons rfl (fun K hK => ?_) AllReadyH.nil
    go_simp
    refine (C3.out _ hS2).mono ?_
    rintro e w' ⟨rfl, hS3⟩
    go_wp2_with fail
    refine hK.out _ _ hS3 (fun hHeld => ?_)
    clear hK K
    refine take_op 16 24 (.string ((⟨#[115, 116, 97, 116, 101, 115]⟩ : ByteArray) ++ T1 ++ (⟨#[10, 105, 110, 115]⟩ : ByteArray) ++ T2 ++ (⟨#[10, 111, 117, 116, 115]⟩ : ByteArray) ++ T3)) (fuel := 6) rfl rfl (by kernel_rfl) (by kernel_rfl) (by kernel_rfl) (fun _ _ _ h => h) (by rfl) (fun w hSw => by go_simp) hHeld ?_
    simp only [Act.put, List.setIfInBounds_toArray, List.set_cons_zero, List.set_cons_succ]
    refine take_op 17 25 (.string ((⟨#[115, 116, 97, 116, 101, 115]⟩ : ByteArray) ++ T1 ++ (⟨#[10, 105, 110, 115]⟩ : ByteArray) ++ T2 ++ (⟨#[10, 111, 117, 116, 115]⟩ : ByteArray) ++ T3 ++ (⟨#[10, 104, 105, 100, 115]⟩ : ByteArray))) (fuel := 5) rfl rfl (by kernel_rfl) (by kernel_rfl) (by kernel_rfl) (fun _ _ _ h => h) (by rfl) (fun w hSw => by go_simp) hHeld ?_
    simp only [Act.put, List.setIfInBounds_toArray, List.set_cons_zero, List.set_cons_succ]
    refine wpAnyH_ready (rs := [20]) (fuel := 4) (by kernel_rfl) (by simp) ?_
    refine AllReadyH.cons rfl (fun K hK => ?_) AllReadyH.nil
    go_simp
    refine (C4.out _ hS3).mono ?_
    rintro e w' ⟨rfl, hS4⟩
    go_wp2_with fail
    refine hK.out _ _ hS4 (fun hHeld => ?_)
    clear hK K
    refine take_op 21 29 (.string ((⟨#[115, 116, 97, 116, 101, 115]⟩ : ByteArray) ++ T1 ++ (⟨#[10, 105, 110, 115]⟩ : ByteArray) ++ T2 ++ (⟨#[10, 111, 117, 116, 115]⟩ : ByteArray) ++ T3 ++ (⟨#[10, 104, 105, 100, 115]⟩ : ByteArray) ++ T4)) (fuel := 3) rfl rfl (by kernel_rfl) (by kernel_rfl) (by kernel_rfl) (fun _ _ _ h => h) (by rfl) (fun w hSw => by go_simp) hHeld ?_
    simp only [Act.put, List.setIfInBounds_toArray, List.set_cons_zero, List.set_cons_succ]
    refine take_op 22 30 (.string ((⟨#[115, 116, 97, 116, 101, 115]⟩ : ByteArray) ++ T1 ++ (⟨#[10, 105, 110, 115]⟩ : ByteArray) ++ T2 ++ (⟨#[10, 111, 117, 116, 115]⟩ : ByteArray) ++ T3 ++ (⟨#[10, 104, 105, 100, 115]⟩ : ByteArray) ++ T4 ++ (⟨#[10]⟩ : ByteArray))) (fuel := 2) rfl rfl (by kernel_rfl) (by kernel_rfl) (by kernel_rfl) (fun _ _ _ h => h) (by rfl) (fun w hSw => by go_simp) hHeld ?_
    simp only [Act.put, List.setIfInBounds_toArray, List.set_cons_zero, List.set_cons_succ]
    obtain ⟨vo, w5, hcv, hO5, hS5⟩ := CV.out _ hS4
    have B5h := Lib.hid hS4.2.1.lt
    refine wpAnyH_ready (rs := [23]) (fuel := 1) (by kernel_rfl) (by simp) ?_
    refine AllReadyH.cons rfl (fun K hK => ?_) AllReadyH.nil
    go_simp
    refine hK.out _ _ hS5 (fun hHeld => ?_)
    clear hK K
    refine wpAnyH_ready (rs := [24]) (fuel := 0) (by kernel_rfl) (by simp) ?_
    refine AllReadyH.cons rfl (fun K hK => ?_) AllReadyH.nil
    go_simp
    refine hK.out _ _ hS5 (fun hHeld => ?_)
    clear hK K
    refine wpAnyH_done (by kernel_rfl) ?_ _
    clear hHeld hS1 hS2 hS3 hS4 S0 SA C1 C2 C3 C4 CV q1 q2 q3 q4 q5 q6 q7 q8 z1 z2 z3 z4 hcv HH
    have B5 := Lib.hid hS5.1
    have V5 := Lib.hid hS5.2.1
    have O5 : Hid (OwnsM w5 (w.heap.size + 1) vo (headOf ⟨st, it, ins, outs, hids, steps⟩).length (headOf ⟨st, it, ins, outs, hids, steps⟩)) := hO5.mono B5h.out
    clear hS5 hO5 B1 V1 B5h
    have B5s : Hid (w.heap.size + 1 ≤ w5.heap.size) := V5.out.lt
    go_wp2_with fail
    go_loopw [3, 4] (fun out i wr => ∃ (k len : Nat), k ≤ n5 ∧ i = .int .i64 k ∧ len ≤ 100000000 + 71 * k ∧ Hid (OwnsM wr (w.heap.size + 1) out len (headOf ⟨st, it, ins, outs, hids, steps⟩ ++ (steps.take k).flatMap stepLine)) ∧ Hid (Below w.heap.size w wr) ∧ Hid (VarIs wr w.heap.size #[.int .i64 st, .int .i64 it, .slice a2 n2 c2, .slice a3 n3 c3, .slice a4 n4 c4, .slice a5 n5 c5] 27)) (fun _ i _ => n5 - (intOf i).toNat)
    case atStart => exact ⟨0, _, Nat.zero_le _, rfl, by have := HHL1.out; omega, by simpa using O5, B5, V5⟩
    case round =>
      clear B5 V5 O5 B5s
      obtain ⟨k, len, hk, rfl, hlen, HO, HB, HV⟩ := hrel
      by_cases hlt : k < n5
      · obtain ⟨g, c, rfl⟩ := HO.out.form
        obtain ⟨b, off, rfl, hbl, hc⟩ := R5.out.2 (by omega)
        obtain ⟨s, hs⟩ : ∃ s, s = steps[k]'(by omega) := ⟨_, rfl⟩
        have hsk : steps[k]? = some s := by rw [hs, List.getElem?_eq_getElem (by omega)]
        have hcs := hc k s hsk
        obtain ⟨x, y, z⟩ := s
        have HSM := Lib.hid (HN1.out.steps (x, y, z) (List.mem_of_getElem? hsk))
        have HTK : Hid ((steps.take (k + 1)).flatMap stepLine = (steps.take k).flatMap stepLine ++ stepLine (x, y, z)) := by rw [Hid, steps_take (by omega), ← hs]
        have k0 := (HB.out.cell (p := ⟨b, off + k * 3, none⟩) hbl).trans hcs.1
        have k1 := (HB.out.cell (p := ⟨b, off + k * 3 + 1, none⟩) hbl).trans hcs.2.1
        have k2 := (HB.out.cell (p := ⟨b, off + k * 3 + 2, none⟩) hbl).trans hcs.2.2
        have m5 := HV.out.cell (j := 5) rfl
        clear hcs hc hs hsk
        simp only at k0 k1 k2
        have V1d := HV.out.drew
        have S0 : Below w.heap.size w wr.drew ∧ VarIs wr.drew w.heap.size #[.int .i64 st, .int .i64 it, .slice a2 n2 c2, .slice a3 n3 c3, .slice a4 n4 c4, .slice (some ⟨b, off, none⟩) n5 c5] 27 ∧ wr.drew.cell? ⟨w.heap.size, 5, none⟩ = some (.slice (some ⟨b, off, none⟩) n5 c5) ∧ wr.drew.cell? ⟨b, off + k * 3, none⟩ = some (.int .i64 x) ∧ wr.drew.cell? ⟨b, off + k * 3 + 1, none⟩ = some (.int .i64 y) ∧ wr.drew.cell? ⟨b, off + k * 3 + 2, none⟩ = some (.int .i64 z) := ⟨HB.out.drew, V1d, V1d.cell rfl, k0, k1, k2⟩
        have KS : Hid (∀ W W', Below w.heap.size w W ∧ VarIs W w.heap.size #[.int .i64 st, .int .i64 it, .slice a2 n2 c2, .slice a3 n3 c3, .slice a4 n4 c4, .slice (some ⟨b, off, none⟩) n5 c5] 27 ∧ W.cell? ⟨w.heap.size, 5, none⟩ = some (.slice (some ⟨b, off, none⟩) n5 c5) ∧ W.cell? ⟨b, off + k * 3, none⟩ = some (.int .i64 x) ∧ W.cell? ⟨b, off + k * 3 + 1, none⟩ = some (.int .i64 y) ∧ W.cell? ⟨b, off + k * 3 + 2, none⟩ = some (.int .i64 z) → Below W.heap.size W W' → Below w.heap.size w W' ∧ VarIs W' w.heap.size #[.int .i64 st, .int .i64 it, .slice a2 n2 c2, .slice a3 n3 c3, .slice a4 n4 c4, .slice (some ⟨b, off, none⟩) n5 c5] 27 ∧ W'.cell? ⟨w.heap.size, 5, none⟩ = some (.slice (some ⟨b, off, none⟩) n5 c5) ∧ W'.cell? ⟨b, off + k * 3, none⟩ = some (.int .i64 x) ∧ W'.cell? ⟨b, off + k * 3 + 1, none⟩ = some (.int .i64 y) ∧ W'.cell? ⟨b, off + k * 3 + 2, none⟩ = some (.int .i64 z)) := fun W W' h hb => ⟨h.1.trans (hb.mono h.1.size), h.2.1.below hb, (h.2.1.below hb).cell rfl, (hb.cell (p := ⟨b, off + k * 3, none⟩) (Nat.lt_of_lt_of_le hbl h.1.size)).trans h.2.2.2.1, (hb.cell (p := ⟨b, off + k * 3 + 1, none⟩) (Nat.lt_of_lt_of_le hbl h.1.size)).trans h.2.2.2.2.1, (hb.cell (p := ⟨b, off + k * 3 + 2, none⟩) (Nat.lt_of_lt_of_le hbl h.1.size)).trans h.2.2.2.2.2⟩
        have SA : ∀ o, Below w.heap.size w (wr.drew.alloc o) ∧ VarIs (wr.drew.alloc o) w.heap.size #[.int .i64 st, .int .i64 it, .slice a2 n2 c2, .slice a3 n3 c3, .slice a4 n4 c4, .slice (some ⟨b, off, none⟩) n5 c5] 27 ∧ (wr.drew.alloc o).cell? ⟨w.heap.size, 5, none⟩ = some (.slice (some ⟨b, off, none⟩) n5 c5) ∧ (wr.drew.alloc o).cell? ⟨b, off + k * 3, none⟩ = some (.int .i64 x) ∧ (wr.drew.alloc o).cell? ⟨b, off + k * 3 + 1, none⟩ = some (.int .i64 y) ∧ (wr.drew.alloc o).cell? ⟨b, off + k * 3 + 2, none⟩ = some (.int .i64 z) := fun o => KS.out _ _ S0 ((Below.refl _ _).alloc (Nat.le_refl _) o)
        obtain ⟨T, hT⟩ : ∃ T, T = bs (numsOf (stepNums (x, y, z))) := ⟨_, rfl⟩
        have zT : T.size ≤ 66 := by rw [hT, bs_size]; exact numsOf_len _ (nums_step HSM.out)
        have HTL : Hid ((⟨#[115, 116, 101, 112]⟩ : ByteArray) ++ T ++ (⟨#[10]⟩ : ByteArray) = bs (stepLine (x, y, z))) := step_bytes (x, y, z) hT
        have HO1 : Hid (OwnsM (wr.drew.alloc (.cells #[.int .i64 x, .int .i64 y, .int .i64 z] 3)) (w.heap.size + 1) (.slice (some ⟨g, 0, none⟩) len c) len (headOf ⟨st, it, ins, outs, hids, steps⟩ ++ (steps.take k).flatMap stepLine)) := HO.out.below (((Below.refl _ wr).drew).alloc (Nat.le_refl _) _)
        have C1 : Hid (Calls Tryz.prog 19 #[.slice (some ⟨wr.heap.size, 0, none⟩) 3 3] (wr.drew.alloc (.cells #[.int .i64 x, .int .i64 y, .int .i64 z] 3)) fun e w' => e = .returned (.string T) ∧ (Below w.heap.size w w' ∧ VarIs w' w.heap.size #[.int .i64 st, .int .i64 it, .slice a2 n2 c2, .slice a3 n3 c3, .slice a4 n4 c4, .slice (some ⟨b, off, none⟩) n5 c5] 27 ∧ w'.cell? ⟨w.heap.size, 5, none⟩ = some (.slice (some ⟨b, off, none⟩) n5 c5) ∧ w'.cell? ⟨b, off + k * 3, none⟩ = some (.int .i64 x) ∧ w'.cell? ⟨b, off + k * 3 + 1, none⟩ = some (.int .i64 y) ∧ w'.cell? ⟨b, off + k * 3 + 2, none⟩ = some (.int .i64 z)) ∧ OwnsM w' (w.heap.size + 1) (.slice (some ⟨g, 0, none⟩) len c) len (headOf ⟨st, it, ins, outs, hids, steps⟩ ++ (steps.take k).flatMap stepLine)) := by
          rw [hT]
          exact (specNums_any (some ⟨wr.heap.size, 0, none⟩) 3 3 [x, y, z] _ (row_lit wr.drew [x, y, z]) (by omega) (nums_step HSM.out)).mono fun e w' ⟨he, hb⟩ => ⟨he, KS.out _ _ (SA _) hb, HO1.out.below hb⟩
        have HBS : Hid (w.heap.size + 1 ≤ wr.heap.size) := HV.out.lt
        have HLN : Hid ((stepLine (x, y, z)).length ≤ 71) := stepLine_len HSM.out.1 HSM.out.2.1 HSM.out.2.2
        have HXS : Hid (∀ W W', Below w.heap.size w W ∧ VarIs W w.heap.size #[.int .i64 st, .int .i64 it, .slice a2 n2 c2, .slice a3 n3 c3, .slice a4 n4 c4, .slice (some ⟨b, off, none⟩) n5 c5] 27 ∧ W.cell? ⟨w.heap.size, 5, none⟩ = some (.slice (some ⟨b, off, none⟩) n5 c5) ∧ W.cell? ⟨b, off + k * 3, none⟩ = some (.int .i64 x) ∧ W.cell? ⟨b, off + k * 3 + 1, none⟩ = some (.int .i64 y) ∧ W.cell? ⟨b, off + k * 3 + 2, none⟩ = some (.int .i64 z) → OwnsM W (w.heap.size + 1) (.slice (some ⟨g, 0, none⟩) len c) len (headOf ⟨st, it, ins, outs, hids, steps⟩ ++ (steps.take k).flatMap stepLine) → W.grownBy W' (some g) → b ≠ g → Below w.heap.size w W' ∧ VarIs W' w.heap.size #[.int .i64 st, .int .i64 it, .slice a2 n2 c2, .slice a3 n3 c3, .slice a4 n4 c4, .slice (some ⟨b, off, none⟩) n5 c5] 27 ∧ W'.cell? ⟨w.heap.size, 5, none⟩ = some (.slice (some ⟨b, off, none⟩) n5 c5) ∧ W'.cell? ⟨b, off + k * 3, none⟩ = some (.int .i64 x) ∧ W'.cell? ⟨b, off + k * 3 + 1, none⟩ = some (.int .i64 y) ∧ W'.cell? ⟨b, off + k * 3 + 2, none⟩ = some (.int .i64 z)) := fun W W' h ho hg hne => by
          have hlt := ho.lt g rfl
          have hv : VarIs W' w.heap.size #[.int .i64 st, .int .i64 it, .slice a2 n2 c2, .slice a3 n3 c3, .slice a4 n4 c4, .slice (some ⟨b, off, none⟩) n5 c5] 27 := (hg.block w.heap.size h.2.1.lt (fun e => by have := Option.some.inj e; omega)).trans h.2.1
          exact ⟨ho.grown h.1 hg (by omega) h.1.size, hv, hv.cell rfl, hg.cell h.2.2.2.1 (fun e => hne (Option.some.inj e)), hg.cell h.2.2.2.2.1 (fun e => hne (Option.some.inj e)), hg.cell h.2.2.2.2.2 (fun e => hne (Option.some.inj e))⟩
        have HNE : Hid (b ≠ g) := fun e => by have := (HO.out.lt g rfl).1; omega
        clear hT V1d KS k0 k1 k2
        go_wp2_with fail
        clear m5
        have q1 : ¬ 9223372036854775807 < 4 + T.size := by omega
        have q2 : ¬ 9223372036854775807 < 4 + T.size + 1 := by omega
        refine wp_region_held_drew (S := fun w' => Below w.heap.size w w' ∧ VarIs w' w.heap.size #[.int .i64 st, .int .i64 it, .slice a2 n2 c2, .slice a3 n3 c3, .slice a4 n4 c4, .slice (some ⟨b, off, none⟩) n5 c5] 27 ∧ w'.cell? ⟨w.heap.size, 5, none⟩ = some (.slice (some ⟨b, off, none⟩) n5 c5) ∧ w'.cell? ⟨b, off + k * 3, none⟩ = some (.int .i64 x) ∧ w'.cell? ⟨b, off + k * 3 + 1, none⟩ = some (.int .i64 y) ∧ w'.cell? ⟨b, off + k * 3 + 2, none⟩ = some (.int .i64 z)) (by kernel_rfl) S0 (fun hHeld => ?_)
        change wpAnyH _ _ _ _ _ 25 (Array.replicate 25 false) _ _
        refine take_op 0 39 (.slice (some ⟨g, 0, none⟩) len c) (fuel := 24) rfl rfl (by kernel_rfl) (by kernel_rfl) (by kernel_rfl) (fun _ _ _ h => h) (by rfl) (fun w hSw => by go_simp) hHeld ?_
        simp only [Act.put, List.setIfInBounds_toArray, List.set_cons_zero, List.set_cons_succ]
        refine take_op 1 40 (.pointer (some ⟨w.heap.size, 5, none⟩)) (fuel := 23) rfl rfl (by kernel_rfl) (by kernel_rfl) (by kernel_rfl) (fun _ _ _ h => h) (by rfl) (fun w hSw => by go_simp) hHeld ?_
        simp only [Act.put, List.setIfInBounds_toArray, List.set_cons_zero, List.set_cons_succ]
        refine take_op 2 41 (.slice (some ⟨b, off, none⟩) n5 c5) (fuel := 22) rfl rfl (by kernel_rfl) (by kernel_rfl) (by kernel_rfl) (fun _ _ _ h => h) (by rfl) (fun w hSw => by go_simp) hHeld ?_
        simp only [Act.put, List.setIfInBounds_toArray, List.set_cons_zero, List.set_cons_succ]
        refine take_op 3 42 (.int .i64 k) (fuel := 21) rfl rfl (by kernel_rfl) (by kernel_rfl) (by kernel_rfl) (fun _ _ _ h => h) (by rfl) (fun w hSw => by go_simp) hHeld ?_
        simp only [Act.put, List.setIfInBounds_toArray, List.set_cons_zero, List.set_cons_succ]
        refine take_op 4 43 (.pointer (some ⟨b, off + k * 3, none⟩)) (fuel := 20) rfl rfl (by kernel_rfl) (by kernel_rfl) (by kernel_rfl) (fun _ _ _ h => h) (by rfl) (fun w hSw => by go_simp) hHeld ?_
        simp only [Act.put, List.setIfInBounds_toArray, List.set_cons_zero, List.set_cons_succ]
        refine take_op 5 44 (.pointer (some ⟨b, off + k * 3, none⟩)) (fuel := 19) rfl rfl (by kernel_rfl) (by kernel_rfl) (by kernel_rfl) (fun _ _ _ h => h) (by rfl) (fun w hSw => by go_simp) hHeld ?_
        simp only [Act.put, List.setIfInBounds_toArray, List.set_cons_zero, List.set_cons_succ]
        refine take_op 6 45 (.int .i64 x) (fuel := 18) rfl rfl (by kernel_rfl) (by kernel_rfl) (by kernel_rfl) (fun _ _ _ h => h) (by rfl) (fun w hSw => by go_simp) hHeld ?_
        simp only [Act.put, List.setIfInBounds_toArray, List.set_cons_zero, List.set_cons_succ]
        refine take_op 7 46 (.pointer (some ⟨w.heap.size, 5, none⟩)) (fuel := 17) rfl rfl (by kernel_rfl) (by kernel_rfl) (by kernel_rfl) (fun _ _ _ h => h) (by rfl) (fun w hSw => by go_simp) hHeld ?_
        simp only [Act.put, List.setIfInBounds_toArray, List.set_cons_zero, List.set_cons_succ]
        refine take_op 8 47 (.slice (some ⟨b, off, none⟩) n5 c5) (fuel := 16) rfl rfl (by kernel_rfl) (by kernel_rfl) (by kernel_rfl) (fun _ _ _ h => h) (by rfl) (fun w hSw => by go_simp) hHeld ?_
        simp only [Act.put, List.setIfInBounds_toArray, List.set_cons_zero, List.set_cons_succ]
        refine take_op 9 48 (.int .i64 k) (fuel := 15) rfl rfl (by kernel_rfl) (by kernel_rfl) (by kernel_rfl) (fun _ _ _ h => h) (by rfl) (fun w hSw => by go_simp) hHeld ?_
        simp only [Act.put, List.setIfInBounds_toArray, List.set_cons_zero, List.set_cons_succ]
        refine take_op 10 49 (.pointer (some ⟨b, off + k * 3, none⟩)) (fuel := 14) rfl rfl (by kernel_rfl) (by kernel_rfl) (by kernel_rfl) (fun _ _ _ h => h) (by rfl) (fun w hSw => by go_simp) hHeld ?_
        simp only [Act.put, List.setIfInBounds_toArray, List.set_cons_zero, List.set_cons_succ]
        refine take_op 11 50 (.pointer (some ⟨b, off + k * 3 + 1, none⟩)) (fuel := 13) rfl rfl (by kernel_rfl) (by kernel_rfl) (by kernel_rfl) (fun _ _ _ h => h) (by rfl) (fun w hSw => by go_simp) hHeld ?_
        simp only [Act.put, List.setIfInBounds_toArray, List.set_cons_zero, List.set_cons_succ]
        refine take_op 12 51 (.int .i64 y) (fuel := 12) rfl rfl (by kernel_rfl) (by kernel_rfl) (by kernel_rfl) (fun _ _ _ h => h) (by rfl) (fun w hSw => by go_simp) hHeld ?_
        simp only [Act.put, List.setIfInBounds_toArray, List.set_cons_zero, List.set_cons_succ]
        refine take_op 13 52 (.pointer (some ⟨w.heap.size, 5, none⟩)) (fuel := 11) rfl rfl (by kernel_rfl) (by kernel_rfl) (by kernel_rfl) (fun _ _ _ h => h) (by rfl) (fun w hSw => by go_simp) hHeld ?_
        simp only [Act.put, List.setIfInBounds_toArray, List.set_cons_zero, List.set_cons_succ]
        refine take_op 14 53 (.slice (some ⟨b, off, none⟩) n5 c5) (fuel := 10) rfl rfl (by kernel_rfl) (by kernel_rfl) (by kernel_rfl) (fun _ _ _ h => h) (by rfl) (fun w hSw => by go_simp) hHeld ?_
        simp only [Act.put, List.setIfInBounds_toArray, List.set_cons_zero, List.set_cons_succ]
        refine take_op 15 54 (.int .i64 k) (fuel := 9) rfl rfl (by kernel_rfl) (by kernel_rfl) (by kernel_rfl) (fun _ _ _ h => h) (by rfl) (fun w hSw => by go_simp) hHeld ?_
        simp only [Act.put, List.setIfInBounds_toArray, List.set_cons_zero, List.set_cons_succ]
        refine take_op 16 55 (.pointer (some ⟨b, off + k * 3, none⟩)) (fuel := 8) rfl rfl (by kernel_rfl) (by kernel_rfl) (by kernel_rfl) (fun _ _ _ h => h) (by rfl) (fun w hSw => by go_simp) hHeld ?_
        simp only [Act.put, List.setIfInBounds_toArray, List.set_cons_zero, List.set_cons_succ]
        refine take_op 17 56 (.pointer (some ⟨b, off + k * 3 + 2, none⟩)) (fuel := 7) rfl rfl (by kernel_rfl) (by kernel_rfl) (by kernel_rfl) (fun _ _ _ h => h) (by rfl) (fun w hSw => by go_simp) hHeld ?_
        simp only [Act.put, List.setIfInBounds_toArray, List.set_cons_zero, List.set_cons_succ]
        refine take_op 18 57 (.int .i64 z) (fuel := 6) rfl rfl (by kernel_rfl) (by kernel_rfl) (by kernel_rfl) (fun _ _ _ h => h) (by rfl) (fun w hSw => by go_simp) hHeld ?_
        simp only [Act.put, List.setIfInBounds_toArray, List.set_cons_zero, List.set_cons_succ]
        refine wpAnyH_ready (rs := [19]) (fuel := 5) (by kernel_rfl) (by simp) ?_
        refine AllReadyH.cons rfl (fun K hK => ?_) AllReadyH.nil
        go_simp
        refine hK.out _ _ (SA _) (fun hHeld => ?_)
        clear hK K
        refine wpAnyH_ready (rs := [20]) (fuel := 4) (by kernel_rfl) (by simp) ?_
        refine AllReadyH.cons rfl (fun K hK => ?_) AllReadyH.nil
        go_simp
        refine (C1.out).mono ?_
        rintro e w' ⟨rfl, hS1, hO1⟩
        go_wp2_with fail
        refine hK.out _ _ hS1 (fun hHeld => ?_)
        clear hK K
        refine take_op 21 60 (.string ((⟨#[115, 116, 101, 112]⟩ : ByteArray) ++ T)) (fuel := 3) rfl rfl (by kernel_rfl) (by kernel_rfl) (by kernel_rfl) (fun _ _ _ h => h) (by rfl) (fun w hSw => by go_simp) hHeld ?_
        simp only [Act.put, List.setIfInBounds_toArray, List.set_cons_zero, List.set_cons_succ]
        refine take_op 22 61 (.string ((⟨#[115, 116, 101, 112]⟩ : ByteArray) ++ T ++ (⟨#[10]⟩ : ByteArray))) (fuel := 2) rfl rfl (by kernel_rfl) (by kernel_rfl) (by kernel_rfl) (fun _ _ _ h => h) (by rfl) (fun w hSw => by go_simp) hHeld ?_
        simp only [Act.put, List.setIfInBounds_toArray, List.set_cons_zero, List.set_cons_succ]
        obtain ⟨i0, hi, hz0, hz1, hz2⟩ := info_parts info_byte
        refine wpAnyH_ready (rs := [23]) (fuel := 1) (by kernel_rfl) (by simp) ?_
        refine AllReadyH.cons rfl (fun K hK => ?_) AllReadyH.nil
        refine step_appM rfl (.tmp 39) (.tmp 61) rfl (w.heap.size + 1) i0 Tryz.underlying22 Tryz.underlying9 hi hz0 hz1 hz2 _ len _ _ _ _ HTL.out rfl rfl hO1 rfl (by have := HLN.out; omega) hS1.2.1.lt ?_
        intro v2 w2 hres
        have hSA := HXS.out _ _ hS1 hO1 hres.2 HNE.out
        have HO2 := Lib.hid hres.1
        refine hK.out _ _ hSA (fun hHeld => ?_)
        clear hK K
        simp only [Act.put, List.setIfInBounds_toArray]
        refine wpAnyH_ready (rs := [24]) (fuel := 0) (by kernel_rfl) (by simp) ?_
        refine AllReadyH.cons rfl (fun K hK => ?_) AllReadyH.nil
        go_simp
        refine hK.out _ _ hSA (fun hHeld => ?_)
        clear hK K
        refine wpAnyH_done (by kernel_rfl) ?_ _
        have HB2 := Lib.hid hSA.1
        have HV2 := Lib.hid hSA.2.1
        clear hHeld hSA hS1 hO1 hres S0 SA C1 HXS HO1 q1 q2
        go_wp2_with fail
        go_roundw
        case rel => exact ⟨k + 1, len + (stepLine (x, y, z)).length, by omega, rfl, by have := HLN.out; omega, by have := HO2.out; rw [List.append_assoc, ← HTK.out] at this; exact this, HB2, HV2⟩
        case measure => simp [intOf]; omega
      · obtain rfl : k = n5 := by omega
        obtain ⟨g, c, rfl⟩ := HO.out.form
        have HE : Hid (steps.take k = steps) := List.take_of_length_le (by omega)
        have hcv := HO.out.text (P := Tryz.prog) Tryz.underlying22 Tryz.underlying5 Tryz.underlying9
        have m5 := HV.out.cell (j := 5) rfl
        go_wp2_with fail
        go_ret
        exact ⟨by rw [HL1.out, HE.out]; rfl, HB.out⟩

end Go.Proofs.YtfhjhfhfbgddeaaGreatDoor
