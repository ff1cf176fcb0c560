/-
  The contract of the program's IaText: the text of an automaton, empty where it is not right. Conditions: the slices read as lists of at most 2^20 elements; the table of strconv holds what the program's text lays in it.
-/
import Derived.Test.YtfhjhfhfbgddeaaGreatDoorSpecText
import Derived.Test.YtfhjhfhfbgddeaaGreatDoorImplStep
import Derived.Test.YtfhjhfhfbgddeaaGreatDoorBuilder
namespace Go.Proofs.YtfhjhfhfbgddeaaGreatDoor
open Go.RowKit

theorem bs_list (l : List UInt8) : (bs l).data.toList = l := by simp [bs]

theorem writeBs_any (B b : Nat) (l m : List UInt8) (w : World) (h : Bld B b (Lib.byteCells l) w) (hlen : l.length + m.length ≤ 1099511627776) (hBw : B ≤ w.heap.size) :
    Calls Tryz.prog 16 #[.pointer (some ⟨b, 0, none⟩), .string (bs m)] w fun e w' => (∃ v, e = .returned (.tuple #[.int .i64 v, .nilIface])) ∧ Bld B b (Lib.byteCells (l ++ m)) w' ∧ Below B w w' :=
  (writeString_any B b l (bs m) w h (by rw [bs_size]; exact hlen) hBw).mono fun e w' ⟨he, h1, h2⟩ => ⟨⟨_, he⟩, by rw [bs_list] at h1; exact h1, h2⟩

/-- What goes on while lines are written: a builder in block 'b' holds 'l'; all that lay below it stands. -/
structure Writes (w1 : World) (b : Nat) (l : List UInt8) (W : World) : Prop where
  bld : Bld b b (Lib.byteCells l) W
  below : Below b w1 W
  at_ : w1.heap.size = b

theorem Writes.size {w1 : World} {b : Nat} {l : List UInt8} {W : World} (h : Writes w1 b l W) : b < W.heap.size := h.bld.lt
theorem Writes.more {w1 : World} {b : Nat} {l : List UInt8} {W W' : World} (h : Writes w1 b l W) (hb : Below W.heap.size W W') : Writes w1 b l W' := ⟨h.bld.below hb, h.below.trans (hb.mono (Nat.le_of_lt h.size)), h.at_⟩
theorem Writes.old {w1 : World} {b : Nat} {l : List UInt8} {W : World} (h : Writes w1 b l W) : Below w1.heap.size w1 W := by rw [h.at_]; exact h.below

set_option maxRecDepth 20000 in
set_option maxHeartbeats 3200000 in
theorem implIaText_any (a : IaD) (v : Value) (w : World) (h : IaRow w a v) (f2 : a.ins.length ≤ 1048576) (f3 : a.outs.length ≤ 1048576) (f4 : a.hids.length ≤ 1048576) (f5 : a.steps.length ≤ 1048576) (ht : Tab w) :
    Calls Tryz.prog 6 #[v] w fun e w' => e = .returned (.string (bs (iaTextOf a))) ∧ Below w.heap.size w w' := by
  have CO : Hid (∀ W, Below w.heap.size w W → Calls Tryz.prog 13 #[v] W fun e w' => e = .returned (.bool (iaOkB a)) ∧ Below W.heap.size W w') := fun W hW => implIaOk_any a v W (h.below hW) f2 f3 f4 f5
  have HT := Lib.hid ht
  have HN : Hid (iaOkB a = true → IaNums a) := iaOk_nums
  obtain ⟨q, hq⟩ : ∃ q, q = iaOkB a := ⟨_, rfl⟩
  obtain ⟨L, hL⟩ : ∃ L, L = iaTextOf a := ⟨_, rfl⟩
  have HL : Hid (L = if q then iaLines a else []) := by rw [hL, hq]; rfl
  have HHL : Hid (IaNums a → (headOf a).length ≤ 100000000) := fun hn => head_len hn f2 f3 f4
  have HSL : Hid (IaNums a → ∀ k, ((a.steps.take k).flatMap stepLine).length ≤ 71 * k) := fun hn k => Nat.le_trans (steps_len _ (fun x hx => hn.steps x (List.mem_of_mem_take hx))) (by rw [List.length_take]; omega)
  rw [← hL]
  rw [← hq] at CO HN
  clear hq hL ht
  obtain ⟨a2, n2, c2, a3, n3, c3, a4, n4, c4, a5, n5, c5, rfl, r2, r3, r4, r5⟩ := h
  obtain ⟨st, it, ins, outs, hids, steps⟩ := a
  simp only at r2 r3 r4 r5 f2 f3 f4 f5
  have hl2 := r2.1
  have hl3 := r3.1
  have hl4 := r4.1
  have hl5 := r5.1
  rw [hl2] at f2
  rw [hl3] at f3
  rw [hl4] at f4
  rw [hl5] at f5
  have R2 := Lib.hid r2
  have R3 := Lib.hid r3
  have R4 := Lib.hid r4
  have R5 := Lib.hid r5
  clear r2 r3 r4 r5
  have B0 : Hid (∀ o, Below w.heap.size w (w.alloc o)) := fun o => (Below.refl _ _).alloc (Nat.le_refl _) _
  have V0 := Lib.hid (VarIs.new w #[.int .i64 st, .int .i64 it, .slice a2 n2 c2, .slice a3 n3 c3, .slice a4 n4 c4, .slice a5 n5 c5] 27 rfl)
  simp only at CO
  go_enter Tryz.func6, Tryz.ntmps6
  go_wp2_with fail
  refine (CO.out _ (B0.out _)).mono ?_
  rintro e w1 ⟨rfl, hb⟩
  have B1 : Hid (Below w.heap.size w w1) := (B0.out _).trans (hb.mono (B0.out _).size)
  have V1 := Lib.hid (V0.out.below hb)
  clear hb V0 CO
  cases q with
  | false =>
    go_wp2_with fail
    go_ret
    obtain rfl : L = [] := HL.out
    exact ⟨rfl, B1.out⟩
  | true =>
    have HN1 := Lib.hid (HN.out rfl)
    have HHL1 := Lib.hid (HHL.out HN1.out)
    have HSL1 := Lib.hid (HSL.out HN1.out)
    have HL1 : Hid (L = iaLines ⟨st, it, ins, outs, hids, steps⟩) := HL.out
    clear HN HHL HSL HL
    have WN : Hid (Writes w1 w1.heap.size [] (w1.alloc (.cells #[.pointer none, .slice none 0 0] 40))) := ⟨bld_new w1, (Below.refl _ w1).alloc (Nat.le_refl _) _, rfl⟩
    have KV : Hid (∀ l W, Writes w1 w1.heap.size l W → VarIs W w.heap.size #[.int .i64 st, .int .i64 it, .slice a2 n2 c2, .slice a3 n3 c3, .slice a4 n4 c4, .slice a5 n5 c5] 27) := fun l W hW => V1.out.below hW.old
    have KB : Hid (∀ l W, Writes w1 w1.heap.size l W → Below w.heap.size w W) := fun l W hW => B1.out.trans (hW.old.mono B1.out.size)
    have CL : Hid (∀ l W word W0 ad n c xs, Writes w1 w1.heap.size l W → W0 = bs word → Row W ad n xs → n ≤ 1048576 → word.length ≤ 1000 → (∀ x ∈ xs, InI64 x) → Calls Tryz.prog 17 #[.string W0, .slice ad n c] W fun e w' => e = .returned (.string (bs (lineOf word xs))) ∧ Writes w1 w1.heap.size l w') := fun l W word W0 ad n c xs hW h0 hr hn hw hI =>
      (lineText_any word W0 h0 ad n c xs W hr hn hw hI (HT.out.below (KB.out _ _ hW))).mono fun e w' ⟨he, hb⟩ => ⟨he, hW.more hb⟩
    have CW : Hid (∀ l m W, Writes w1 w1.heap.size l W → l.length + m.length ≤ 1099511627776 → Calls Tryz.prog 16 #[.pointer (some ⟨w1.heap.size, 0, none⟩), .string (bs m)] W fun e w' => (∃ v, e = .returned (.tuple #[.int .i64 v, .nilIface])) ∧ Writes w1 w1.heap.size (l ++ m) w') := fun l m W hW hl =>
      (writeBs_any w1.heap.size w1.heap.size l m W hW.bld hl (Nat.le_of_lt hW.size)).mono fun e w' ⟨he, h1, hb⟩ => ⟨he, h1, hW.below.trans hb, rfl⟩
    have hv := KV.out _ _ WN.out
    have m0 := hv.cell (j := 0) rfl
    have m1 := hv.cell (j := 1) rfl
    have WN1 := Lib.hid (WN.out.more ((Below.refl _ _).alloc (Nat.le_refl _) (.cells #[.int .i64 st, .int .i64 it] 3)))
    have RW := Lib.hid (row_lit (w1.alloc (.cells #[.pointer none, .slice none 0 0] 40)) [st, it])
    clear hv
    go_wp2_with fail
    clear m0 m1
    refine (CL.out _ _ wStates _ (some ⟨w1.heap.size + 1, 0, none⟩) 2 2 [st, it] WN1.out rfl (by simpa using RW.out) (by omega) (by decide) (nums_two HN1.out.states HN1.out.init)).mono ?_
    rintro e w2 ⟨rfl, hW⟩
    have HW := Lib.hid hW
    clear hW WN WN1 RW
    obtain ⟨l1, hl1⟩ : ∃ l, l = lineOf wStates [st, it] := ⟨_, rfl⟩
    have y1 : l1.length ≤ 51 := by rw [hl1]; exact lineOf_len _ _ (nums_two HN1.out.states HN1.out.init)
    rw [← hl1]
    have HL1e := Lib.hid hl1
    clear hl1
    go_wp2_with fail
    refine (CW.out _ _ _ HW.out (by simp only [List.length_nil]; omega)).mono ?_
    rintro e w3 ⟨⟨vx, rfl⟩, hW⟩
    have HW := Lib.hid hW
    clear hW
    have hv := KV.out _ _ HW.out
    have m2 := hv.cell (j := 2) rfl
    have RR := Lib.hid (R2.out.below (KB.out _ _ HW.out))
    clear hv
    go_wp2_with fail
    clear m2
    refine (CL.out _ _ wIns _ a2 n2 c2 ins HW.out rfl RR.out f2 (by decide) (nums_small HN1.out.ins)).mono ?_
    rintro e w4 ⟨rfl, hW⟩
    have HW := Lib.hid hW
    clear hW RR
    obtain ⟨l2, hl22⟩ : ∃ l, l = lineOf wIns ins := ⟨_, rfl⟩
    have y2 : l2.length ≤ 23068677 := by rw [hl22]; have := lineOf_len wIns ins (nums_small HN1.out.ins); simp only [wIns, List.length_cons, List.length_nil] at this ⊢; omega
    rw [← hl22]
    have HL2e := Lib.hid hl22
    clear hl22
    go_wp2_with fail
    refine (CW.out _ _ _ HW.out (by simp only [List.length_append, List.length_nil]; omega)).mono ?_
    rintro e w3 ⟨⟨vx, rfl⟩, hW⟩
    have HW := Lib.hid hW
    clear hW
    have hv := KV.out _ _ HW.out
    have m3 := hv.cell (j := 3) rfl
    have RR := Lib.hid (R3.out.below (KB.out _ _ HW.out))
    clear hv
    go_wp2_with fail
    clear m3
    refine (CL.out _ _ wOuts _ a3 n3 c3 outs HW.out rfl RR.out f3 (by decide) (nums_small HN1.out.outs)).mono ?_
    rintro e w4 ⟨rfl, hW⟩
    have HW := Lib.hid hW
    clear hW RR
    obtain ⟨l3, hl33⟩ : ∃ l, l = lineOf wOuts outs := ⟨_, rfl⟩
    have y3 : l3.length ≤ 23068677 := by rw [hl33]; have := lineOf_len wOuts outs (nums_small HN1.out.outs); simp only [wOuts, List.length_cons, List.length_nil] at this ⊢; omega
    rw [← hl33]
    have HL3e := Lib.hid hl33
    clear hl33
    go_wp2_with fail
    refine (CW.out _ _ _ HW.out (by simp only [List.length_append, List.length_nil]; omega)).mono ?_
    rintro e w3 ⟨⟨vx, rfl⟩, hW⟩
    have HW := Lib.hid hW
    clear hW
    have hv := KV.out _ _ HW.out
    have m4 := hv.cell (j := 4) rfl
    have RR := Lib.hid (R4.out.below (KB.out _ _ HW.out))
    clear hv
    go_wp2_with fail
    clear m4
    refine (CL.out _ _ wHids _ a4 n4 c4 hids HW.out rfl RR.out f4 (by decide) (nums_small HN1.out.hids)).mono ?_
    rintro e w4 ⟨rfl, hW⟩
    have HW := Lib.hid hW
    clear hW RR
    obtain ⟨l4, hl44⟩ : ∃ l, l = lineOf wHids hids := ⟨_, rfl⟩
    have y4 : l4.length ≤ 23068677 := by rw [hl44]; have := lineOf_len wHids hids (nums_small HN1.out.hids); simp only [wHids, List.length_cons, List.length_nil] at this ⊢; omega
    rw [← hl44]
    have HL4e := Lib.hid hl44
    clear hl44
    go_wp2_with fail
    refine (CW.out _ _ _ HW.out (by simp only [List.length_append, List.length_nil]; omega)).mono ?_
    rintro e w3 ⟨⟨vx, rfl⟩, hW⟩
    have HW := Lib.hid hW
    clear hW
    have HH : Hid ([] ++ l1 ++ l2 ++ l3 ++ l4 = headOf ⟨st, it, ins, outs, hids, steps⟩) := by rw [Hid, HL1e.out, HL2e.out, HL3e.out, HL4e.out]; rfl
    have HW6 : Hid (Writes w1 w1.heap.size (headOf ⟨st, it, ins, outs, hids, steps⟩ ++ (steps.take 0).flatMap stepLine) w3) := by have := HW.out; rw [HH.out] at this; rw [Hid, List.take_zero, List.flatMap_nil, List.append_nil]; exact this
    have hv := KV.out _ _ HW6.out
    have m5 := hv.cell (j := 5) rfl
    clear hv HW HH HL1e HL2e HL3e HL4e y1 y2 y3 y4
    go_wp2_with fail
    clear m5
    go_loopw [31] (fun i wr => ∃ (k : Nat), k ≤ n5 ∧ i = .int .i64 k ∧ Hid (Writes w1 w1.heap.size (headOf ⟨st, it, ins, outs, hids, steps⟩ ++ (steps.take k).flatMap stepLine) wr)) (fun i _ => n5 - (intOf i).toNat)
    case atStart => exact ⟨0, Nat.zero_le _, rfl, HW6⟩
    case round =>
      clear HW6
      obtain ⟨k, hk, rfl, HW⟩ := hrel
      by_cases hlt : k < n5
      · obtain ⟨b, off, rfl, hbl, hc⟩ := R5.out.2 (by omega)
        obtain ⟨s, hs⟩ : ∃ s, s = steps[k]'(by omega) := ⟨_, rfl⟩
        have hsk : steps[k]? = some s := by rw [hs, List.getElem?_eq_getElem (by omega)]
        have hcs := hc k s hsk
        obtain ⟨x, y, z⟩ := s
        have HSM := Lib.hid (HN1.out.steps (x, y, z) (List.mem_of_getElem? hsk))
        have HTK : Hid ((steps.take (k + 1)).flatMap stepLine = (steps.take k).flatMap stepLine ++ stepLine (x, y, z)) := by rw [Hid, steps_take (by omega), ← hs]
        have HB := Lib.hid (KB.out _ _ HW.out)
        have g0 := (HB.out.cell (p := ⟨b, off + k * 3, none⟩) hbl).trans hcs.1
        have g1 := (HB.out.cell (p := ⟨b, off + k * 3 + 1, none⟩) hbl).trans hcs.2.1
        have g2 := (HB.out.cell (p := ⟨b, off + k * 3 + 2, none⟩) hbl).trans hcs.2.2
        simp only at g0 g1 g2
        have WA := Lib.hid ((HW.out.more ((Below.refl _ _).alloc (Nat.le_refl _) (.cells #[.int .i64 x, .int .i64 y, .int .i64 z] 47))).more ((Below.refl _ _).alloc (Nat.le_refl _) (.cells #[.int .i64 x, .int .i64 y, .int .i64 z] 3)))
        have RW := Lib.hid (row_lit (wr.alloc (.cells #[.int .i64 x, .int .i64 y, .int .i64 z] 47)) [x, y, z])
        have HLN : Hid ((stepLine (x, y, z)).length ≤ 71) := stepLine_len HSM.out.1 HSM.out.2.1 HSM.out.2.2
        have HLB : Hid ((headOf ⟨st, it, ins, outs, hids, steps⟩ ++ (steps.take k).flatMap stepLine).length ≤ 200000000) := by
          have h1 := HHL1.out
          have h2 := HSL1.out k
          have h3 := HN1.out.count
          simp only at h2 h3
          rw [Hid, List.length_append]
          omega
        clear hcs hc hs hsk HB
        go_wp2_with fail
        clear g0 g1 g2
        refine (CL.out _ _ wStep _ (some ⟨wr.heap.size + 1, 0, none⟩) 3 3 [x, y, z] WA.out rfl (by simpa using RW.out) (by omega) (by decide) (nums_step (x := (x, y, z)) HSM.out)).mono ?_
        rintro e w5 ⟨rfl, hW⟩
        have HW2 := Lib.hid hW
        clear hW WA RW
        go_wp2_with fail
        refine (CW.out _ (stepLine (x, y, z)) _ HW2.out (by have := HLB.out; have := HLN.out; omega)).mono ?_
        rintro e w6 ⟨⟨vx, rfl⟩, hW⟩
        have HW3 := Lib.hid hW
        clear hW HW2
        go_wp2_with fail
        go_roundw
        case rel => exact ⟨k + 1, by omega, by go_num, by have := HW3.out; rw [List.append_assoc, ← HTK.out] at this; exact this⟩
        case measure => simp [intOf]; omega
      · obtain rfl : k = n5 := by omega
        have HE : Hid (steps.take k = steps) := List.take_of_length_le (by omega)
        go_wp2_with fail
        refine (Tryz.Builder_String_any_f w1.heap.size w1.heap.size _ _ HW.out.bld (Nat.le_of_lt HW.out.size)).mono ?_
        rintro e w7 ⟨rfl, _, hb⟩
        have B7 : Hid (Below w.heap.size w w7) := B1.out.trans ((HW.out.below.trans hb).mono B1.out.size)
        clear hb
        go_wp2_with fail
        go_ret
        exact ⟨by rw [HL1.out, HE.out]; rfl, B7.out⟩

end Go.Proofs.YtfhjhfhfbgddeaaGreatDoor
