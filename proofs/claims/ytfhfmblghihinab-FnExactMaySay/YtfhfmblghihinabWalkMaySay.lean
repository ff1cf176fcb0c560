/-
  The walk of the law FnExactMaySay: it returns true at every argument and writes nothing that was there. Conditions: none.
-/
import Derived.Test.YtfhfmblghihinabLenHid
import Derived.Test.YtfhfmblghihinabUnseen
import Derived.Test.YtfhfmblghihinabMarkIa2
namespace Go.Proofs.Ytfhfmblghihinab
open Go.RowKit

set_option maxRecDepth 20000 in
set_option maxHeartbeats 6400000 in
theorem walk_FnExactMaySay (st it : Int) (a2 : Option Addr) (n2 c2 : Nat) (z2 : List Int) (a3 : Option Addr) (n3 c3 : Nat) (z3 : List Int) (a4 : Option Addr) (n4 c4 : Nat) (z4 : List Int) (a5 : Option Addr) (n5 c5 : Nat) (z5 : List St) (pl : Int) (w : World) (i2 : IsRow .i64 w a2 n2 c2 z2) (i3 : IsRow .i64 w a3 n3 c3 z3) (i4 : IsRow .i64 w a4 n4 c4 z4) (i5 : IsRowS w a5 n5 c5 z5) :
    Calls Try.prog 4 #[.agg #[.int .i64 st, .int .i64 it, .slice a2 n2 c2, .slice a3 n3 c3, .slice a4 n4 c4, .slice a5 n5 c5], .int .i64 pl] w fun e w' => e = .returned (.bool true) ∧ Below w.heap.size w w' := by
  obtain ⟨ins, hins⟩ : ∃ l, l = z2.take n2 := ⟨_, rfl⟩
  obtain ⟨outs, houts⟩ : ∃ l, l = z3.take n3 := ⟨_, rfl⟩
  obtain ⟨hids, hhids⟩ : ∃ l, l = z4.take n4 := ⟨_, rfl⟩
  obtain ⟨steps, hsteps⟩ : ∃ l, l = z5.take n5 := ⟨_, rfl⟩
  have r2 := i2.row
  have r3 := i3.row
  have r4 := i4.row
  have r5 := i5.row
  rw [← hins] at r2
  rw [← houts] at r3
  rw [← hhids] at r4
  rw [← hsteps] at r5
  have l2 := i2.len1
  have l3 := i3.len1
  have l4 := i4.len1
  have l5 := i5.len1
  have HA : Hid (IaRow w ⟨st, it, ins, outs, hids, steps⟩ (.agg #[.int .i64 st, .int .i64 it, .slice a2 n2 c2, .slice a3 n3 c3, .slice a4 n4 c4, .slice a5 n5 c5])) := ⟨a2, n2, c2, a3, n3, c3, a4, n4, c4, a5, n5, c5, rfl, r2, r3, r4, r5⟩
  have CZ : Hid (∀ W, Calls Try.prog 7 #[.agg #[.int .i64 st, .int .i64 it, .slice a2 n2 c2, .slice a3 n3 c3, .slice a4 n4 c4, .slice a5 n5 c5], .int .i64 1048576] W fun e w' => e = .returned (.int .i64 (roomOf 1048576 (n2 + n3 + n4 + n5))) ∧ Below W.heap.size W w') := fun W => szIa_any st it a2 n2 c2 a3 n3 c3 a4 n4 c4 a5 n5 c5 1048576 W (by omega) (by omega) l2 l3 l4 l5
  have e2 := r2.1
  have e3 := r3.1
  have e4 := r4.1
  have e5 := r5.1
  clear r2 r3 r4 r5 i2 i3 i4 i5 hins houts hhids hsteps z2 z3 z4 z5 l2 l3 l4 l5
  have B0 : Hid (∀ o, Below w.heap.size w (w.alloc o)) := fun o => (Below.refl _ _).alloc (Nat.le_refl _) _
  have V0 := Lib.hid (VarIs.new w #[.int .i64 st, .int .i64 it, .slice a2 n2 c2, .slice a3 n3 c3, .slice a4 n4 c4, .slice a5 n5 c5] 25 rfl)
  by_cases hbig : n2 + n3 + n4 + n5 ≤ 1048576
  · have hr : roomOf 1048576 (n2 + n3 + n4 + n5) = 1048576 - ((n2 + n3 + n4 + n5 : Nat) : Int) := roomOf_pos (by omega)
    obtain ⟨rm, hrm⟩ : ∃ m : Nat, (m : Int) = 1048576 - ((n2 + n3 + n4 + n5 : Nat) : Int) := ⟨1048576 - (n2 + n3 + n4 + n5), by omega⟩
    rw [hr, ← hrm] at CZ
    have f2 : ins.length ≤ 1048576 := by omega
    have f3 : outs.length ≤ 1048576 := by omega
    have f4 : hids.length ≤ 1048576 := by omega
    have f5 : steps.length ≤ 1048576 := by omega
    have CT : Hid (∀ W, Below w.heap.size w W → Calls Try.prog 9 #[.agg #[.int .i64 st, .int .i64 it, .slice a2 n2 c2, .slice a3 n3 c3, .slice a4 n4 c4, .slice a5 n5 c5]] W fun e w' => ∃ v', e = .returned v' ∧ IaAt w' W.heap.size ⟨st, it, ins, outs, hids, steps⟩ v' ∧ Below W.heap.size W w') := fun W hW => toIa_any ⟨st, it, ins, outs, hids, steps⟩ _ W (HA.out.below hW) (IaFits.small f2 f3 f4 f5)
    obtain ⟨L, hL⟩ : ∃ L, L = (if iaOkB ⟨st, it, ins, outs, hids, steps⟩ && stateB ⟨st, it, ins, outs, hids, steps⟩ pl then sayOf ⟨st, it, ins, outs, hids, steps⟩ pl else []) := ⟨_, rfl⟩
    obtain ⟨s, hs⟩ : ∃ s, s = L.length := ⟨_, rfl⟩
    have hsL : s ≤ 4194304 := by
      rw [hs, hL]
      exact sayIf_len4 ⟨st, it, ins, outs, hids, steps⟩ pl f3
    have CP : Hid (∀ W v, IaRow W ⟨st, it, ins, outs, hids, steps⟩ v → Calls Try.prog 16 #[v, .int .i64 pl] W fun e w' => ∃ g c, e = .returned (.slice (some ⟨g, 0, none⟩) s c) ∧ Owns w' W.heap.size (.slice (some ⟨g, 0, none⟩) s c) s L ∧ Below W.heap.size W w') := fun W v hv => by
      rw [hs, hL]
      exact specMaySay_any ⟨st, it, ins, outs, hids, steps⟩ v pl W hv f2 f3 f4 f5
    have CI : Hid (∀ W v, IaRow W ⟨st, it, ins, outs, hids, steps⟩ v → Calls Try.prog 17 #[v, .int .i64 pl] W fun e w' => ∃ ad c, e = .returned (.slice ad s c) ∧ Owns w' W.heap.size (.slice ad s c) s L ∧ Below W.heap.size W w') := fun W v hv => by
      rw [hs, hL]
      refine Calls.mono (implMaySay_any ⟨st, it, ins, outs, hids, steps⟩ v pl W hv f2 f3 f4 f5) fun e w' h => ?_
      obtain ⟨v', he, ho, hb⟩ := h
      obtain ⟨ad, c, rfl⟩ := ho.form
      exact ⟨ad, c, he, ho, hb⟩
    clear hr hrm hbig e2 e3 e4 e5 hL hs
    go_enter Try.func4, Try.ntmps4
    go_wp2_with fail
    refine (CZ.out _).mono ?_
    rintro e w1 ⟨rfl, hb⟩
    have B1 : Hid (Below w.heap.size w w1) := (B0.out _).trans (hb.mono (B0.out _).size)
    have V1 := Lib.hid (V0.out.below hb)
    clear hb CZ B0 V0
    have m0 := V1.out.cell (j := 0) rfl
    have m1 := V1.out.cell (j := 1) rfl
    have m2 := V1.out.cell (j := 2) rfl
    have m3 := V1.out.cell (j := 3) rfl
    have m4 := V1.out.cell (j := 4) rfl
    have m5 := V1.out.cell (j := 5) rfl
    go_wp2_with fail
    clear m0 m1 m2 m3 m4 m5
    refine (CT.out _ B1.out).mono ?_
    rintro e w2 ⟨vs, rfl, hat, hb⟩
    have B2 : Hid (Below w.heap.size w w2) := B1.out.trans (hb.mono B1.out.size)
    have V2 := Lib.hid (V1.out.below hb)
    have RS := Lib.hid hat.row
    clear hb hat B1 V1
    go_wp2_with fail
    refine (CP.out _ _ RS.out).mono ?_
    rintro e w3 ⟨g, cW, rfl, hoW, hb⟩
    have B3 : Hid (Below w.heap.size w w3) := B2.out.trans (hb.mono B2.out.size)
    have V3 := Lib.hid (V2.out.below hb)
    have OW3 := Lib.hid hoW
    have hg3 := (hoW.lt g rfl).2
    have h23 := hb.size
    have hw3 := V3.out.lt
    clear hb hoW B2 V2 RS CP
    have m0 := V3.out.cell (j := 0) rfl
    have m1 := V3.out.cell (j := 1) rfl
    have m2 := V3.out.cell (j := 2) rfl
    have m3 := V3.out.cell (j := 3) rfl
    have m4 := V3.out.cell (j := 4) rfl
    have m5 := V3.out.cell (j := 5) rfl
    go_wp2_with fail
    clear m0 m1 m2 m3 m4 m5
    refine (CT.out _ B3.out).mono ?_
    rintro e w4 ⟨vx, rfl, hat, hb⟩
    have B4 : Hid (Below w.heap.size w w4) := B3.out.trans (hb.mono B3.out.size)
    have V4 := Lib.hid (V3.out.below hb)
    have OW4 := Lib.hid (OW3.out.below hb)
    have h34 := hb.size
    obtain ⟨g2, g3, g4, g5, rfl, gb, lt3, lt4, lt5, o2, o3, o4, o5⟩ := hat
    have hg5 := (o5.lt g5 rfl).2
    have XA : Hid (IaAt w4 w3.heap.size ⟨st, it, ins, outs, hids, steps⟩ (.agg #[.int .i64 st, .int .i64 it, .slice (some ⟨g2, 0, none⟩) ins.length ins.length, .slice (some ⟨g3, 0, none⟩) outs.length outs.length, .slice (some ⟨g4, 0, none⟩) hids.length hids.length, .slice (some ⟨g5, 0, none⟩) steps.length steps.length])) := ⟨g2, g3, g4, g5, rfl, gb, lt3, lt4, lt5, o2, o3, o4, o5⟩
    clear hb o2 o3 o4 o5 B3 V3 OW3
    simp only
    have bx := (Below.refl w4.heap.size w4).alloc (Nat.le_refl _) (.cells #[.int .i64 st, .int .i64 it, .slice (some ⟨g2, 0, none⟩) ins.length ins.length, .slice (some ⟨g3, 0, none⟩) outs.length outs.length, .slice (some ⟨g4, 0, none⟩) hids.length hids.length, .slice (some ⟨g5, 0, none⟩) steps.length steps.length] 30)
    have XA5 := Lib.hid (XA.out.below bx)
    have OW5 := Lib.hid (OW4.out.below bx)
    have V5 := Lib.hid (V4.out.alloc (.cells #[.int .i64 st, .int .i64 it, .slice (some ⟨g2, 0, none⟩) ins.length ins.length, .slice (some ⟨g3, 0, none⟩) outs.length outs.length, .slice (some ⟨g4, 0, none⟩) hids.length hids.length, .slice (some ⟨g5, 0, none⟩) steps.length steps.length] 30))
    have X5 := Lib.hid (VarIs.new w4 #[.int .i64 st, .int .i64 it, .slice (some ⟨g2, 0, none⟩) ins.length ins.length, .slice (some ⟨g3, 0, none⟩) outs.length outs.length, .slice (some ⟨g4, 0, none⟩) hids.length hids.length, .slice (some ⟨g5, 0, none⟩) steps.length steps.length] 30 rfl)
    have B5 := Lib.hid (B4.out.alloc B4.out.size (.cells #[.int .i64 st, .int .i64 it, .slice (some ⟨g2, 0, none⟩) ins.length ins.length, .slice (some ⟨g3, 0, none⟩) outs.length outs.length, .slice (some ⟨g4, 0, none⟩) hids.length hids.length, .slice (some ⟨g5, 0, none⟩) steps.length steps.length] 30))
    clear bx
    go_wp2_with fail
    refine (CI.out _ _ XA5.out.row).mono ?_
    rintro e w6 ⟨ag, cg, rfl, hoG, hb⟩
    have OG6 : Hid (Owns w6 (w4.heap.size + 1) (.slice ag s cg) s L) := by
      have := hoG
      simpa [Hid] using this
    have OW6 := Lib.hid (OW5.out.below hb)
    have XA6 := Lib.hid (XA5.out.below hb)
    have V6 := Lib.hid (V5.out.below hb)
    have X6 := Lib.hid (X5.out.below hb)
    have B6 : Hid (Below w.heap.size w w6) := B5.out.trans (hb.mono B5.out.size)
    clear hb hoG XA5 V5 X5 B5 B4 V4 XA OW4 OW5
    go_wp2_with fail
    refine (eqIntS_any _ _ _ _ _ _ L L _ OG6.out.row.2.2.2 OW6.out.row.2.2.2 (by omega) (by omega)).mono ?_
    rintro e w7 ⟨rfl, hb⟩
    have V7 := (V6.out.below hb).drew
    have X7 := (X6.out.below hb).drew
    have A7 := (XA6.out.below hb).drew
    have W7 : Owns w7.drew w2.heap.size (.slice (some ⟨g, 0, none⟩) s cW) s L := OW6.out.below hb.drew
    have G7 : Owns w7.drew (w4.heap.size + 1) (.slice ag s cg) s L := OG6.out.below hb.drew
    have S0 : Boxes w w7.drew w.heap.size w4.heap.size #[.int .i64 st, .int .i64 it, .slice a2 n2 c2, .slice a3 n3 c3, .slice a4 n4 c4, .slice a5 n5 c5] #[.int .i64 st, .int .i64 it, .slice (some ⟨g2, 0, none⟩) ins.length ins.length, .slice (some ⟨g3, 0, none⟩) outs.length outs.length, .slice (some ⟨g4, 0, none⟩) hids.length hids.length, .slice (some ⟨g5, 0, none⟩) steps.length steps.length] ∧ IaAt w7.drew w3.heap.size ⟨st, it, ins, outs, hids, steps⟩ (.agg #[.int .i64 st, .int .i64 it, .slice (some ⟨g2, 0, none⟩) ins.length ins.length, .slice (some ⟨g3, 0, none⟩) outs.length outs.length, .slice (some ⟨g4, 0, none⟩) hids.length hids.length, .slice (some ⟨g5, 0, none⟩) steps.length steps.length]) ∧ Owns w7.drew w2.heap.size (.slice (some ⟨g, 0, none⟩) s cW) s L ∧ Owns w7.drew (w4.heap.size + 1) (.slice ag s cg) s L ∧ w7.drew.cell? ⟨w.heap.size, 0, none⟩ = some (.int .i64 st) ∧ w7.drew.cell? ⟨w.heap.size, 1, none⟩ = some (.int .i64 it) ∧ w7.drew.cell? ⟨w.heap.size, 2, none⟩ = some (.slice a2 n2 c2) ∧ w7.drew.cell? ⟨w.heap.size, 3, none⟩ = some (.slice a3 n3 c3) ∧ w7.drew.cell? ⟨w.heap.size, 4, none⟩ = some (.slice a4 n4 c4) ∧ w7.drew.cell? ⟨w.heap.size, 5, none⟩ = some (.slice a5 n5 c5) ∧ w7.drew.cell? ⟨w4.heap.size, 0, none⟩ = some (.int .i64 st) ∧ w7.drew.cell? ⟨w4.heap.size, 1, none⟩ = some (.int .i64 it) ∧ w7.drew.cell? ⟨w4.heap.size, 2, none⟩ = some (.slice (some ⟨g2, 0, none⟩) ins.length ins.length) ∧ w7.drew.cell? ⟨w4.heap.size, 3, none⟩ = some (.slice (some ⟨g3, 0, none⟩) outs.length outs.length) ∧ w7.drew.cell? ⟨w4.heap.size, 4, none⟩ = some (.slice (some ⟨g4, 0, none⟩) hids.length hids.length) ∧ w7.drew.cell? ⟨w4.heap.size, 5, none⟩ = some (.slice (some ⟨g5, 0, none⟩) steps.length steps.length) := ⟨⟨(B6.out.trans (hb.mono B6.out.size)).drew, V7, X7⟩, A7, W7, G7, V7.cell rfl, V7.cell rfl, V7.cell rfl, V7.cell rfl, V7.cell rfl, V7.cell rfl, X7.cell rfl, X7.cell rfl, X7.cell rfl, X7.cell rfl, X7.cell rfl, X7.cell rfl⟩
    clear hb V7 X7 A7 W7 G7 OG6 OW6 XA6 V6 X6 B6
    have CS : Hid (∀ W, Boxes w W w.heap.size w4.heap.size #[.int .i64 st, .int .i64 it, .slice a2 n2 c2, .slice a3 n3 c3, .slice a4 n4 c4, .slice a5 n5 c5] #[.int .i64 st, .int .i64 it, .slice (some ⟨g2, 0, none⟩) ins.length ins.length, .slice (some ⟨g3, 0, none⟩) outs.length outs.length, .slice (some ⟨g4, 0, none⟩) hids.length hids.length, .slice (some ⟨g5, 0, none⟩) steps.length steps.length] ∧ IaAt W w3.heap.size ⟨st, it, ins, outs, hids, steps⟩ (.agg #[.int .i64 st, .int .i64 it, .slice (some ⟨g2, 0, none⟩) ins.length ins.length, .slice (some ⟨g3, 0, none⟩) outs.length outs.length, .slice (some ⟨g4, 0, none⟩) hids.length hids.length, .slice (some ⟨g5, 0, none⟩) steps.length steps.length]) ∧ Owns W w2.heap.size (.slice (some ⟨g, 0, none⟩) s cW) s L ∧ Owns W (w4.heap.size + 1) (.slice ag s cg) s L ∧ W.cell? ⟨w.heap.size, 0, none⟩ = some (.int .i64 st) ∧ W.cell? ⟨w.heap.size, 1, none⟩ = some (.int .i64 it) ∧ W.cell? ⟨w.heap.size, 2, none⟩ = some (.slice a2 n2 c2) ∧ W.cell? ⟨w.heap.size, 3, none⟩ = some (.slice a3 n3 c3) ∧ W.cell? ⟨w.heap.size, 4, none⟩ = some (.slice a4 n4 c4) ∧ W.cell? ⟨w.heap.size, 5, none⟩ = some (.slice a5 n5 c5) ∧ W.cell? ⟨w4.heap.size, 0, none⟩ = some (.int .i64 st) ∧ W.cell? ⟨w4.heap.size, 1, none⟩ = some (.int .i64 it) ∧ W.cell? ⟨w4.heap.size, 2, none⟩ = some (.slice (some ⟨g2, 0, none⟩) ins.length ins.length) ∧ W.cell? ⟨w4.heap.size, 3, none⟩ = some (.slice (some ⟨g3, 0, none⟩) outs.length outs.length) ∧ W.cell? ⟨w4.heap.size, 4, none⟩ = some (.slice (some ⟨g4, 0, none⟩) hids.length hids.length) ∧ W.cell? ⟨w4.heap.size, 5, none⟩ = some (.slice (some ⟨g5, 0, none⟩) steps.length steps.length) → Calls Try.prog 9 #[.agg #[.int .i64 st, .int .i64 it, .slice a2 n2 c2, .slice a3 n3 c3, .slice a4 n4 c4, .slice a5 n5 c5]] W fun e w' => ∃ v', e = .returned v' ∧ IaRow w' ⟨st, it, ins, outs, hids, steps⟩ v' ∧ (Boxes w w' w.heap.size w4.heap.size #[.int .i64 st, .int .i64 it, .slice a2 n2 c2, .slice a3 n3 c3, .slice a4 n4 c4, .slice a5 n5 c5] #[.int .i64 st, .int .i64 it, .slice (some ⟨g2, 0, none⟩) ins.length ins.length, .slice (some ⟨g3, 0, none⟩) outs.length outs.length, .slice (some ⟨g4, 0, none⟩) hids.length hids.length, .slice (some ⟨g5, 0, none⟩) steps.length steps.length] ∧ IaAt w' w3.heap.size ⟨st, it, ins, outs, hids, steps⟩ (.agg #[.int .i64 st, .int .i64 it, .slice (some ⟨g2, 0, none⟩) ins.length ins.length, .slice (some ⟨g3, 0, none⟩) outs.length outs.length, .slice (some ⟨g4, 0, none⟩) hids.length hids.length, .slice (some ⟨g5, 0, none⟩) steps.length steps.length]) ∧ Owns w' w2.heap.size (.slice (some ⟨g, 0, none⟩) s cW) s L ∧ Owns w' (w4.heap.size + 1) (.slice ag s cg) s L ∧ w'.cell? ⟨w.heap.size, 0, none⟩ = some (.int .i64 st) ∧ w'.cell? ⟨w.heap.size, 1, none⟩ = some (.int .i64 it) ∧ w'.cell? ⟨w.heap.size, 2, none⟩ = some (.slice a2 n2 c2) ∧ w'.cell? ⟨w.heap.size, 3, none⟩ = some (.slice a3 n3 c3) ∧ w'.cell? ⟨w.heap.size, 4, none⟩ = some (.slice a4 n4 c4) ∧ w'.cell? ⟨w.heap.size, 5, none⟩ = some (.slice a5 n5 c5) ∧ w'.cell? ⟨w4.heap.size, 0, none⟩ = some (.int .i64 st) ∧ w'.cell? ⟨w4.heap.size, 1, none⟩ = some (.int .i64 it) ∧ w'.cell? ⟨w4.heap.size, 2, none⟩ = some (.slice (some ⟨g2, 0, none⟩) ins.length ins.length) ∧ w'.cell? ⟨w4.heap.size, 3, none⟩ = some (.slice (some ⟨g3, 0, none⟩) outs.length outs.length) ∧ w'.cell? ⟨w4.heap.size, 4, none⟩ = some (.slice (some ⟨g4, 0, none⟩) hids.length hids.length) ∧ w'.cell? ⟨w4.heap.size, 5, none⟩ = some (.slice (some ⟨g5, 0, none⟩) steps.length steps.length))) := fun W hW => (CT.out W hW.1.1).mono fun e w' ⟨v', he, hat, hb⟩ => ⟨v', he, hat.row, ⟨hW.1.below hb, hW.2.1.below hb, hW.2.2.1.below hb, hW.2.2.2.1.below hb, (hW.1.below hb).2.1.cell rfl, (hW.1.below hb).2.1.cell rfl, (hW.1.below hb).2.1.cell rfl, (hW.1.below hb).2.1.cell rfl, (hW.1.below hb).2.1.cell rfl, (hW.1.below hb).2.1.cell rfl, (hW.1.below hb).2.2.cell rfl, (hW.1.below hb).2.2.cell rfl, (hW.1.below hb).2.2.cell rfl, (hW.1.below hb).2.2.cell rfl, (hW.1.below hb).2.2.cell rfl, (hW.1.below hb).2.2.cell rfl⟩⟩
    have CE : Hid (∀ W v', Boxes w W w.heap.size w4.heap.size #[.int .i64 st, .int .i64 it, .slice a2 n2 c2, .slice a3 n3 c3, .slice a4 n4 c4, .slice a5 n5 c5] #[.int .i64 st, .int .i64 it, .slice (some ⟨g2, 0, none⟩) ins.length ins.length, .slice (some ⟨g3, 0, none⟩) outs.length outs.length, .slice (some ⟨g4, 0, none⟩) hids.length hids.length, .slice (some ⟨g5, 0, none⟩) steps.length steps.length] ∧ IaAt W w3.heap.size ⟨st, it, ins, outs, hids, steps⟩ (.agg #[.int .i64 st, .int .i64 it, .slice (some ⟨g2, 0, none⟩) ins.length ins.length, .slice (some ⟨g3, 0, none⟩) outs.length outs.length, .slice (some ⟨g4, 0, none⟩) hids.length hids.length, .slice (some ⟨g5, 0, none⟩) steps.length steps.length]) ∧ Owns W w2.heap.size (.slice (some ⟨g, 0, none⟩) s cW) s L ∧ Owns W (w4.heap.size + 1) (.slice ag s cg) s L ∧ W.cell? ⟨w.heap.size, 0, none⟩ = some (.int .i64 st) ∧ W.cell? ⟨w.heap.size, 1, none⟩ = some (.int .i64 it) ∧ W.cell? ⟨w.heap.size, 2, none⟩ = some (.slice a2 n2 c2) ∧ W.cell? ⟨w.heap.size, 3, none⟩ = some (.slice a3 n3 c3) ∧ W.cell? ⟨w.heap.size, 4, none⟩ = some (.slice a4 n4 c4) ∧ W.cell? ⟨w.heap.size, 5, none⟩ = some (.slice a5 n5 c5) ∧ W.cell? ⟨w4.heap.size, 0, none⟩ = some (.int .i64 st) ∧ W.cell? ⟨w4.heap.size, 1, none⟩ = some (.int .i64 it) ∧ W.cell? ⟨w4.heap.size, 2, none⟩ = some (.slice (some ⟨g2, 0, none⟩) ins.length ins.length) ∧ W.cell? ⟨w4.heap.size, 3, none⟩ = some (.slice (some ⟨g3, 0, none⟩) outs.length outs.length) ∧ W.cell? ⟨w4.heap.size, 4, none⟩ = some (.slice (some ⟨g4, 0, none⟩) hids.length hids.length) ∧ W.cell? ⟨w4.heap.size, 5, none⟩ = some (.slice (some ⟨g5, 0, none⟩) steps.length steps.length) → IaRow W ⟨st, it, ins, outs, hids, steps⟩ v' → Calls Try.prog 12 #[.agg #[.int .i64 st, .int .i64 it, .slice (some ⟨g2, 0, none⟩) ins.length ins.length, .slice (some ⟨g3, 0, none⟩) outs.length outs.length, .slice (some ⟨g4, 0, none⟩) hids.length hids.length, .slice (some ⟨g5, 0, none⟩) steps.length steps.length], v'] W fun e w' => e = .returned (.bool true) ∧ (Boxes w w' w.heap.size w4.heap.size #[.int .i64 st, .int .i64 it, .slice a2 n2 c2, .slice a3 n3 c3, .slice a4 n4 c4, .slice a5 n5 c5] #[.int .i64 st, .int .i64 it, .slice (some ⟨g2, 0, none⟩) ins.length ins.length, .slice (some ⟨g3, 0, none⟩) outs.length outs.length, .slice (some ⟨g4, 0, none⟩) hids.length hids.length, .slice (some ⟨g5, 0, none⟩) steps.length steps.length] ∧ IaAt w' w3.heap.size ⟨st, it, ins, outs, hids, steps⟩ (.agg #[.int .i64 st, .int .i64 it, .slice (some ⟨g2, 0, none⟩) ins.length ins.length, .slice (some ⟨g3, 0, none⟩) outs.length outs.length, .slice (some ⟨g4, 0, none⟩) hids.length hids.length, .slice (some ⟨g5, 0, none⟩) steps.length steps.length]) ∧ Owns w' w2.heap.size (.slice (some ⟨g, 0, none⟩) s cW) s L ∧ Owns w' (w4.heap.size + 1) (.slice ag s cg) s L ∧ w'.cell? ⟨w.heap.size, 0, none⟩ = some (.int .i64 st) ∧ w'.cell? ⟨w.heap.size, 1, none⟩ = some (.int .i64 it) ∧ w'.cell? ⟨w.heap.size, 2, none⟩ = some (.slice a2 n2 c2) ∧ w'.cell? ⟨w.heap.size, 3, none⟩ = some (.slice a3 n3 c3) ∧ w'.cell? ⟨w.heap.size, 4, none⟩ = some (.slice a4 n4 c4) ∧ w'.cell? ⟨w.heap.size, 5, none⟩ = some (.slice a5 n5 c5) ∧ w'.cell? ⟨w4.heap.size, 0, none⟩ = some (.int .i64 st) ∧ w'.cell? ⟨w4.heap.size, 1, none⟩ = some (.int .i64 it) ∧ w'.cell? ⟨w4.heap.size, 2, none⟩ = some (.slice (some ⟨g2, 0, none⟩) ins.length ins.length) ∧ w'.cell? ⟨w4.heap.size, 3, none⟩ = some (.slice (some ⟨g3, 0, none⟩) outs.length outs.length) ∧ w'.cell? ⟨w4.heap.size, 4, none⟩ = some (.slice (some ⟨g4, 0, none⟩) hids.length hids.length) ∧ w'.cell? ⟨w4.heap.size, 5, none⟩ = some (.slice (some ⟨g5, 0, none⟩) steps.length steps.length))) := fun W v' hW hv => (eqIa_any ⟨st, it, ins, outs, hids, steps⟩ ⟨st, it, ins, outs, hids, steps⟩ _ _ W hW.2.1.row hv (IaFits.small f2 f3 f4 f5) (IaFits.small f2 f3 f4 f5)).mono fun e w' ⟨he, hb⟩ => ⟨by rw [he, sameB_refl], ⟨hW.1.below hb, hW.2.1.below hb, hW.2.2.1.below hb, hW.2.2.2.1.below hb, (hW.1.below hb).2.1.cell rfl, (hW.1.below hb).2.1.cell rfl, (hW.1.below hb).2.1.cell rfl, (hW.1.below hb).2.1.cell rfl, (hW.1.below hb).2.1.cell rfl, (hW.1.below hb).2.1.cell rfl, (hW.1.below hb).2.2.cell rfl, (hW.1.below hb).2.2.cell rfl, (hW.1.below hb).2.2.cell rfl, (hW.1.below hb).2.2.cell rfl, (hW.1.below hb).2.2.cell rfl, (hW.1.below hb).2.2.cell rfl⟩⟩
    go_wp2_with fail
    go_region_held3 (fun w' => Boxes w w' w.heap.size w4.heap.size #[.int .i64 st, .int .i64 it, .slice a2 n2 c2, .slice a3 n3 c3, .slice a4 n4 c4, .slice a5 n5 c5] #[.int .i64 st, .int .i64 it, .slice (some ⟨g2, 0, none⟩) ins.length ins.length, .slice (some ⟨g3, 0, none⟩) outs.length outs.length, .slice (some ⟨g4, 0, none⟩) hids.length hids.length, .slice (some ⟨g5, 0, none⟩) steps.length steps.length] ∧ IaAt w' w3.heap.size ⟨st, it, ins, outs, hids, steps⟩ (.agg #[.int .i64 st, .int .i64 it, .slice (some ⟨g2, 0, none⟩) ins.length ins.length, .slice (some ⟨g3, 0, none⟩) outs.length outs.length, .slice (some ⟨g4, 0, none⟩) hids.length hids.length, .slice (some ⟨g5, 0, none⟩) steps.length steps.length]) ∧ Owns w' w2.heap.size (.slice (some ⟨g, 0, none⟩) s cW) s L ∧ Owns w' (w4.heap.size + 1) (.slice ag s cg) s L ∧ w'.cell? ⟨w.heap.size, 0, none⟩ = some (.int .i64 st) ∧ w'.cell? ⟨w.heap.size, 1, none⟩ = some (.int .i64 it) ∧ w'.cell? ⟨w.heap.size, 2, none⟩ = some (.slice a2 n2 c2) ∧ w'.cell? ⟨w.heap.size, 3, none⟩ = some (.slice a3 n3 c3) ∧ w'.cell? ⟨w.heap.size, 4, none⟩ = some (.slice a4 n4 c4) ∧ w'.cell? ⟨w.heap.size, 5, none⟩ = some (.slice a5 n5 c5) ∧ w'.cell? ⟨w4.heap.size, 0, none⟩ = some (.int .i64 st) ∧ w'.cell? ⟨w4.heap.size, 1, none⟩ = some (.int .i64 it) ∧ w'.cell? ⟨w4.heap.size, 2, none⟩ = some (.slice (some ⟨g2, 0, none⟩) ins.length ins.length) ∧ w'.cell? ⟨w4.heap.size, 3, none⟩ = some (.slice (some ⟨g3, 0, none⟩) outs.length outs.length) ∧ w'.cell? ⟨w4.heap.size, 4, none⟩ = some (.slice (some ⟨g4, 0, none⟩) hids.length hids.length) ∧ w'.cell? ⟨w4.heap.size, 5, none⟩ = some (.slice (some ⟨g5, 0, none⟩) steps.length steps.length))
      (first | exact hS2 | exact hS1 | exact S0)
      ((first | (go_at_call 9; refine (CS.out _ S0).mono ?_; rintro e w' ⟨v', rfl, hR, hS1⟩) | (go_at_call 12; refine (CE.out _ _ hS1 hR).mono ?_; rintro e w8 ⟨rfl, hS2⟩)))
    have B8 := Lib.hid hS2.1.1
    have V8 := Lib.hid hS2.1.2.1
    have X8 := Lib.hid hS2.1.2.2
    have A8 := Lib.hid hS2.2.1
    have OW8 := Lib.hid hS2.2.2.1
    have OG8 := Lib.hid hS2.2.2.2.1
    clear S0 hS1 hS2 CS CE hR
    have m0 := X8.out.cell (j := 0) rfl
    have m1 := X8.out.cell (j := 1) rfl
    have m2 := X8.out.cell (j := 2) rfl
    have m3 := X8.out.cell (j := 3) rfl
    have m4 := X8.out.cell (j := 4) rfl
    have m5 := X8.out.cell (j := 5) rfl
    go_wp2_with fail
    clear m0 m1 m2 m3 m4 m5
    obtain ⟨_, _, _, _, o2, o3, o4, o5⟩ := A8.out.parts
    have hx8 := X8.out.lt
    refine (markIa_at st it g2 g3 g4 g5 ins outs hids steps w3.heap.size _ gb lt3 lt4 lt5 (by omega) o2 o3 o4 o5 (by omega) (by omega) (by omega) (by omega)).mono ?_
    rintro e w9 ⟨r, hr0, rfl, hb, hbut⟩
    have B9 : Hid (Below w.heap.size w w9) := B8.out.trans (hb.mono (by omega))
    have V9 := Lib.hid (V8.out.but4 hbut (by omega) (by omega) (by omega) (by omega))
    have OW9 := Lib.hid (OW8.out.but4 hbut (fun k hk => by cases hk; simp only; omega))
    have OG9 := Lib.hid (OG8.out.but4 hbut (fun k hk => by have := (OG8.out.lt k hk).1; omega))
    clear hb hbut o2 o3 o4 o5 B8 V8 X8 A8 OW8 OG8
    have hrd : decide (r < 0) = false := by simp; omega
    go_wp2_with fail
    refine (eqIntS_any _ _ _ _ _ _ L L _ OG9.out.row.2.2.2 OW9.out.row.2.2.2 (by omega) (by omega)).mono ?_
    rintro e w10 ⟨rfl, hb⟩
    have B10 : Hid (Below w.heap.size w w10) := B9.out.trans (hb.mono B9.out.size)
    have V10 := Lib.hid (V9.out.below hb)
    have OW10 := Lib.hid (OW9.out.below hb)
    have OG10 := Lib.hid (OG9.out.below hb)
    clear hb B9 V9 OW9 OG9
    go_wp2_with fail
    refine (mark_any _ s _ 1 L _ OG10.out (by omega) (by omega) (by omega)).mono ?_
    rintro e w11 ⟨rfl, ho, hg⟩
    have B11 := Lib.hid (OG10.out.grown B10.out hg (by omega) B10.out.size)
    have V11 := Lib.hid (V10.out.grown hg (fun h => by have := (OG10.out.lt _ h.symm).1; omega))
    have OW11 := Lib.hid (OW10.out.keep hg (fun k hk h => by cases hk; have := (OG10.out.lt g h.symm).1; omega))
    have OG11 := Lib.hid ho
    clear hg ho B10 V10 OW10 OG10
    go_wp2_with fail
    refine (held_any _ s _ 1 _ OG11.out.row.2.2.2 (by omega) (by omega) (by omega)).mono ?_
    rintro e w12 ⟨rfl, rfl⟩
    have m0 := V11.out.cell (j := 0) rfl
    have m1 := V11.out.cell (j := 1) rfl
    have m2 := V11.out.cell (j := 2) rfl
    have m3 := V11.out.cell (j := 3) rfl
    have m4 := V11.out.cell (j := 4) rfl
    have m5 := V11.out.cell (j := 5) rfl
    go_wp2_with fail
    clear m0 m1 m2 m3 m4 m5
    refine (CT.out _ B11.out).mono ?_
    rintro e w13 ⟨vh, rfl, hat, hb⟩
    have B13 : Hid (Below w.heap.size w w13) := B11.out.trans (hb.mono B11.out.size)
    have OW13 := Lib.hid (OW11.out.below hb)
    have OG13 := Lib.hid (OG11.out.below hb)
    have RH := Lib.hid hat.row
    clear hb hat B11 V11 OW11 OG11
    go_wp2_with fail
    refine (CI.out _ _ RH.out).mono ?_
    rintro e w14 ⟨ah, ch, rfl, hoH, hb⟩
    have B14 : Hid (Below w.heap.size w w14) := B13.out.trans (hb.mono B13.out.size)
    have OW14 := Lib.hid (OW13.out.below hb)
    have OG14 := Lib.hid (OG13.out.below hb)
    have OH14 := Lib.hid hoH
    clear hb hoH B13 OW13 OG13 RH
    go_wp2_with fail
    refine (eqIntS_any _ _ _ _ _ _ L L _ OH14.out.row.2.2.2 OW14.out.row.2.2.2 (by omega) (by omega)).mono ?_
    rintro e w15 ⟨rfl, hb⟩
    have B15 : Hid (Below w.heap.size w w15) := B14.out.trans (hb.mono B14.out.size)
    have OG15 := Lib.hid (OG14.out.below hb)
    clear hb B14 OW14 OG14 OH14
    go_wp2_with fail
    refine (held_any _ s _ 1 _ OG15.out.row.2.2.2 (by omega) (by omega) (by omega)).mono ?_
    rintro e w16 ⟨rfl, rfl⟩
    go_wp2_with fail
    go_ret
    exact ⟨rfl, B15.out⟩
  · have hr : roomOf 1048576 (n2 + n3 + n4 + n5) = -1 := roomOf_neg (by omega)
    rw [hr] at CZ
    go_enter Try.func4, Try.ntmps4
    go_wp2_with fail
    refine (CZ.out _).mono ?_
    rintro e w1 ⟨rfl, hb⟩
    have B1 : Hid (Below w.heap.size w w1) := (B0.out _).trans (hb.mono (B0.out _).size)
    clear hb CZ
    go_wp2_with fail
    go_ret
    exact ⟨rfl, B1.out⟩

end Go.Proofs.Ytfhfmblghihinab
