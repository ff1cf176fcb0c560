/-
  The walk of the law FnExactIaText: it returns true at every automaton and writes nothing that was there. Conditions: the table of strconv holds what the program's text lays in it.
-/
import Derived.Test.YtbppboophfojkaaDoorImplText
import Derived.Test.YtbppboophfojkaaDoorIaLaw
namespace Go.Proofs.YtbppboophfojkaaDoor
open Go.RowKit

set_option maxRecDepth 20000 in
set_option maxHeartbeats 3200000 in
theorem walk_FnExactIaText (st it : Int) (a2 : Option Addr) (n2 c2 : Nat) (z2 : List Int) (a3 : Option Addr) (n3 c3 : Nat) (z3 : List Int) (a4 : Option Addr) (n4 c4 : Nat) (z4 : List Int) (a5 : Option Addr) (n5 c5 : Nat) (z5 : List St) (w : World) (i2 : IsRow .i64 w a2 n2 c2 z2) (i3 : IsRow .i64 w a3 n3 c3 z3) (i4 : IsRow .i64 w a4 n4 c4 z4) (i5 : IsRowS w a5 n5 c5 z5) (ht : Tab w) :
    Calls Tryd.prog 3 #[.agg #[.int .i64 st, .int .i64 it, .slice a2 n2 c2, .slice a3 n3 c3, .slice a4 n4 c4, .slice a5 n5 c5]] w fun e w' => e = .returned (.bool true) ∧ Below w.heap.size w w' := by
  have HTB := Lib.hid ht
  clear ht
  obtain ⟨ins, hins⟩ : ∃ l, l = z2.take n2 := ⟨_, rfl⟩
  obtain ⟨outs, houts⟩ : ∃ l, l = z3.take n3 := ⟨_, rfl⟩
  obtain ⟨hids, hhids⟩ : ∃ l, l = z4.take n4 := ⟨_, rfl⟩
  obtain ⟨steps, hsteps⟩ : ∃ l, l = z5.take n5 := ⟨_, rfl⟩
  have r2 := i2.row
  have r3 := i3.row
  have r4 := i4.row
  have r5 := i5.row
  rw [← hins] at r2
  rw [← houts] at r3
  rw [← hhids] at r4
  rw [← hsteps] at r5
  have l2 := i2.len1
  have l3 := i3.len1
  have l4 := i4.len1
  have l5 := i5.len1
  have HA : Hid (IaRow w ⟨st, it, ins, outs, hids, steps⟩ (.agg #[.int .i64 st, .int .i64 it, .slice a2 n2 c2, .slice a3 n3 c3, .slice a4 n4 c4, .slice a5 n5 c5])) := ⟨a2, n2, c2, a3, n3, c3, a4, n4, c4, a5, n5, c5, rfl, r2, r3, r4, r5⟩
  have CZ : Hid (∀ W, Calls Tryd.prog 4 #[.agg #[.int .i64 st, .int .i64 it, .slice a2 n2 c2, .slice a3 n3 c3, .slice a4 n4 c4, .slice a5 n5 c5], .int .i64 1048576] W fun e w' => e = .returned (.int .i64 (roomOf 1048576 (n2 + n3 + n4 + n5))) ∧ Below W.heap.size W w') := fun W => szIa_any st it a2 n2 c2 a3 n3 c3 a4 n4 c4 a5 n5 c5 1048576 W (by omega) (by omega) l2 l3 l4 l5
  have e2 := r2.1
  have e3 := r3.1
  have e4 := r4.1
  have e5 := r5.1
  clear r2 r3 r4 r5 i2 i3 i4 i5 hins houts hhids hsteps z2 z3 z4 z5 l2 l3 l4 l5
  have B0 : Hid (∀ o, Below w.heap.size w (w.alloc o)) := fun o => (Below.refl _ _).alloc (Nat.le_refl _) _
  have V0 := Lib.hid (VarIs.new w #[.int .i64 st, .int .i64 it, .slice a2 n2 c2, .slice a3 n3 c3, .slice a4 n4 c4, .slice a5 n5 c5] 25 rfl)
  by_cases hbig : n2 + n3 + n4 + n5 ≤ 1048576
  · have hr : roomOf 1048576 (n2 + n3 + n4 + n5) = 1048576 - ((n2 + n3 + n4 + n5 : Nat) : Int) := roomOf_pos (by omega)
    obtain ⟨rm, hrm⟩ : ∃ m : Nat, (m : Int) = 1048576 - ((n2 + n3 + n4 + n5 : Nat) : Int) := ⟨1048576 - (n2 + n3 + n4 + n5), by omega⟩
    rw [hr, ← hrm] at CZ
    have f2 : ins.length ≤ 1048576 := by omega
    have f3 : outs.length ≤ 1048576 := by omega
    have f4 : hids.length ≤ 1048576 := by omega
    have f5 : steps.length ≤ 1048576 := by omega
    have CT : Hid (∀ W, Below w.heap.size w W → Calls Tryd.prog 6 #[.agg #[.int .i64 st, .int .i64 it, .slice a2 n2 c2, .slice a3 n3 c3, .slice a4 n4 c4, .slice a5 n5 c5]] W fun e w' => ∃ v', e = .returned v' ∧ IaAt w' W.heap.size ⟨st, it, ins, outs, hids, steps⟩ v' ∧ Below W.heap.size W w') := fun W hW => toIa_any ⟨st, it, ins, outs, hids, steps⟩ _ W (HA.out.below hW) (IaFits.small f2 f3 f4 f5)
    clear hr hrm hbig e2 e3 e4 e5
    go_enter Tryd.func3, Tryd.ntmps3
    go_wp2_with fail
    refine (CZ.out _).mono ?_
    rintro e w1 ⟨rfl, hb⟩
    have B1 : Hid (Below w.heap.size w w1) := (B0.out _).trans (hb.mono (B0.out _).size)
    have V1 := Lib.hid (V0.out.below hb)
    clear hb CZ B0 V0
    have m0 := V1.out.cell (j := 0) rfl
    have m1 := V1.out.cell (j := 1) rfl
    have m2 := V1.out.cell (j := 2) rfl
    have m3 := V1.out.cell (j := 3) rfl
    have m4 := V1.out.cell (j := 4) rfl
    have m5 := V1.out.cell (j := 5) rfl
    go_wp2_with fail
    clear m0 m1 m2 m3 m4 m5
    refine (CT.out _ B1.out).mono ?_
    rintro e w2 ⟨vs, rfl, hat, hb⟩
    have B2 : Hid (Below w.heap.size w w2) := B1.out.trans (hb.mono B1.out.size)
    have V2 := Lib.hid (V1.out.below hb)
    have RS := Lib.hid hat.row
    clear hb hat B1 V1
    go_wp2_with fail
    refine (specIaText_any ⟨st, it, ins, outs, hids, steps⟩ vs _ RS.out f2 f3 f4 f5).mono ?_
    obtain ⟨q, hq⟩ : ∃ q, q = bs (iaTextOf ⟨st, it, ins, outs, hids, steps⟩) := ⟨_, rfl⟩
    rw [← hq]
    rintro e w3 ⟨rfl, hb⟩
    have B3 : Hid (Below w.heap.size w w3) := B2.out.trans (hb.mono B2.out.size)
    have V3 := Lib.hid (V2.out.below hb)
    have HQ := Lib.hid hq
    clear hb hq B2 V2 RS
    have m0 := V3.out.cell (j := 0) rfl
    have m1 := V3.out.cell (j := 1) rfl
    have m2 := V3.out.cell (j := 2) rfl
    have m3 := V3.out.cell (j := 3) rfl
    have m4 := V3.out.cell (j := 4) rfl
    have m5 := V3.out.cell (j := 5) rfl
    go_wp2_with fail
    clear m0 m1 m2 m3 m4 m5
    refine (CT.out _ B3.out).mono ?_
    rintro e w4 ⟨vx, rfl, hat, hb⟩
    have B4 : Hid (Below w.heap.size w w4) := B3.out.trans (hb.mono B3.out.size)
    have V4 := Lib.hid (V3.out.below hb)
    obtain ⟨g2, g3, g4, g5, rfl, gb, lt3, lt4, lt5, o2, o3, o4, o5⟩ := hat
    have XA : Hid (IaAt w4 w3.heap.size ⟨st, it, ins, outs, hids, steps⟩ (.agg #[.int .i64 st, .int .i64 it, .slice (some ⟨g2, 0, none⟩) ins.length ins.length, .slice (some ⟨g3, 0, none⟩) outs.length outs.length, .slice (some ⟨g4, 0, none⟩) hids.length hids.length, .slice (some ⟨g5, 0, none⟩) steps.length steps.length])) := ⟨g2, g3, g4, g5, rfl, gb, lt3, lt4, lt5, o2, o3, o4, o5⟩
    clear hb o2 o3 o4 o5 B3 V3
    simp only
    have XA5 := Lib.hid (XA.out.below ((Below.refl w4.heap.size w4).alloc (Nat.le_refl _) (.cells #[.int .i64 st, .int .i64 it, .slice (some ⟨g2, 0, none⟩) ins.length ins.length, .slice (some ⟨g3, 0, none⟩) outs.length outs.length, .slice (some ⟨g4, 0, none⟩) hids.length hids.length, .slice (some ⟨g5, 0, none⟩) steps.length steps.length] 30)))
    have V5 := Lib.hid (V4.out.alloc (.cells #[.int .i64 st, .int .i64 it, .slice (some ⟨g2, 0, none⟩) ins.length ins.length, .slice (some ⟨g3, 0, none⟩) outs.length outs.length, .slice (some ⟨g4, 0, none⟩) hids.length hids.length, .slice (some ⟨g5, 0, none⟩) steps.length steps.length] 30))
    have X5 := Lib.hid (VarIs.new w4 #[.int .i64 st, .int .i64 it, .slice (some ⟨g2, 0, none⟩) ins.length ins.length, .slice (some ⟨g3, 0, none⟩) outs.length outs.length, .slice (some ⟨g4, 0, none⟩) hids.length hids.length, .slice (some ⟨g5, 0, none⟩) steps.length steps.length] 30 rfl)
    have B5 := Lib.hid (B4.out.alloc B4.out.size (.cells #[.int .i64 st, .int .i64 it, .slice (some ⟨g2, 0, none⟩) ins.length ins.length, .slice (some ⟨g3, 0, none⟩) outs.length outs.length, .slice (some ⟨g4, 0, none⟩) hids.length hids.length, .slice (some ⟨g5, 0, none⟩) steps.length steps.length] 30))
    go_wp2_with fail
    refine (implIaText_any ⟨st, it, ins, outs, hids, steps⟩ _ _ XA5.out.row f2 f3 f4 f5 (HTB.out.below B5.out)).mono ?_
    rw [← HQ.out]
    rintro e w6 ⟨rfl, hb⟩
    have V6 := (V5.out.below hb).drew
    have X6 := (X5.out.below hb).drew
    have A6 := (XA5.out.below hb).drew
    have S0 : Boxes w w6.drew w.heap.size w4.heap.size #[.int .i64 st, .int .i64 it, .slice a2 n2 c2, .slice a3 n3 c3, .slice a4 n4 c4, .slice a5 n5 c5] #[.int .i64 st, .int .i64 it, .slice (some ⟨g2, 0, none⟩) ins.length ins.length, .slice (some ⟨g3, 0, none⟩) outs.length outs.length, .slice (some ⟨g4, 0, none⟩) hids.length hids.length, .slice (some ⟨g5, 0, none⟩) steps.length steps.length] ∧ IaAt w6.drew w3.heap.size ⟨st, it, ins, outs, hids, steps⟩ (.agg #[.int .i64 st, .int .i64 it, .slice (some ⟨g2, 0, none⟩) ins.length ins.length, .slice (some ⟨g3, 0, none⟩) outs.length outs.length, .slice (some ⟨g4, 0, none⟩) hids.length hids.length, .slice (some ⟨g5, 0, none⟩) steps.length steps.length]) ∧ w6.drew.cell? ⟨w.heap.size, 0, none⟩ = some (.int .i64 st) ∧ w6.drew.cell? ⟨w.heap.size, 1, none⟩ = some (.int .i64 it) ∧ w6.drew.cell? ⟨w.heap.size, 2, none⟩ = some (.slice a2 n2 c2) ∧ w6.drew.cell? ⟨w.heap.size, 3, none⟩ = some (.slice a3 n3 c3) ∧ w6.drew.cell? ⟨w.heap.size, 4, none⟩ = some (.slice a4 n4 c4) ∧ w6.drew.cell? ⟨w.heap.size, 5, none⟩ = some (.slice a5 n5 c5) ∧ w6.drew.cell? ⟨w4.heap.size, 0, none⟩ = some (.int .i64 st) ∧ w6.drew.cell? ⟨w4.heap.size, 1, none⟩ = some (.int .i64 it) ∧ w6.drew.cell? ⟨w4.heap.size, 2, none⟩ = some (.slice (some ⟨g2, 0, none⟩) ins.length ins.length) ∧ w6.drew.cell? ⟨w4.heap.size, 3, none⟩ = some (.slice (some ⟨g3, 0, none⟩) outs.length outs.length) ∧ w6.drew.cell? ⟨w4.heap.size, 4, none⟩ = some (.slice (some ⟨g4, 0, none⟩) hids.length hids.length) ∧ w6.drew.cell? ⟨w4.heap.size, 5, none⟩ = some (.slice (some ⟨g5, 0, none⟩) steps.length steps.length) := ⟨⟨(B5.out.trans (hb.mono B5.out.size)).drew, V6, X6⟩, A6, V6.cell rfl, V6.cell rfl, V6.cell rfl, V6.cell rfl, V6.cell rfl, V6.cell rfl, X6.cell rfl, X6.cell rfl, X6.cell rfl, X6.cell rfl, X6.cell rfl, X6.cell rfl⟩
    clear V6 X6 A6
    clear hb XA5 V5 X5 B5 B4 V4 XA
    have CS : Hid (∀ W, Boxes w W w.heap.size w4.heap.size #[.int .i64 st, .int .i64 it, .slice a2 n2 c2, .slice a3 n3 c3, .slice a4 n4 c4, .slice a5 n5 c5] #[.int .i64 st, .int .i64 it, .slice (some ⟨g2, 0, none⟩) ins.length ins.length, .slice (some ⟨g3, 0, none⟩) outs.length outs.length, .slice (some ⟨g4, 0, none⟩) hids.length hids.length, .slice (some ⟨g5, 0, none⟩) steps.length steps.length] ∧ IaAt W w3.heap.size ⟨st, it, ins, outs, hids, steps⟩ (.agg #[.int .i64 st, .int .i64 it, .slice (some ⟨g2, 0, none⟩) ins.length ins.length, .slice (some ⟨g3, 0, none⟩) outs.length outs.length, .slice (some ⟨g4, 0, none⟩) hids.length hids.length, .slice (some ⟨g5, 0, none⟩) steps.length steps.length]) ∧ W.cell? ⟨w.heap.size, 0, none⟩ = some (.int .i64 st) ∧ W.cell? ⟨w.heap.size, 1, none⟩ = some (.int .i64 it) ∧ W.cell? ⟨w.heap.size, 2, none⟩ = some (.slice a2 n2 c2) ∧ W.cell? ⟨w.heap.size, 3, none⟩ = some (.slice a3 n3 c3) ∧ W.cell? ⟨w.heap.size, 4, none⟩ = some (.slice a4 n4 c4) ∧ W.cell? ⟨w.heap.size, 5, none⟩ = some (.slice a5 n5 c5) ∧ W.cell? ⟨w4.heap.size, 0, none⟩ = some (.int .i64 st) ∧ W.cell? ⟨w4.heap.size, 1, none⟩ = some (.int .i64 it) ∧ W.cell? ⟨w4.heap.size, 2, none⟩ = some (.slice (some ⟨g2, 0, none⟩) ins.length ins.length) ∧ W.cell? ⟨w4.heap.size, 3, none⟩ = some (.slice (some ⟨g3, 0, none⟩) outs.length outs.length) ∧ W.cell? ⟨w4.heap.size, 4, none⟩ = some (.slice (some ⟨g4, 0, none⟩) hids.length hids.length) ∧ W.cell? ⟨w4.heap.size, 5, none⟩ = some (.slice (some ⟨g5, 0, none⟩) steps.length steps.length) → Calls Tryd.prog 6 #[.agg #[.int .i64 st, .int .i64 it, .slice a2 n2 c2, .slice a3 n3 c3, .slice a4 n4 c4, .slice a5 n5 c5]] W fun e w' => ∃ v', e = .returned v' ∧ IaRow w' ⟨st, it, ins, outs, hids, steps⟩ v' ∧ (Boxes w w' w.heap.size w4.heap.size #[.int .i64 st, .int .i64 it, .slice a2 n2 c2, .slice a3 n3 c3, .slice a4 n4 c4, .slice a5 n5 c5] #[.int .i64 st, .int .i64 it, .slice (some ⟨g2, 0, none⟩) ins.length ins.length, .slice (some ⟨g3, 0, none⟩) outs.length outs.length, .slice (some ⟨g4, 0, none⟩) hids.length hids.length, .slice (some ⟨g5, 0, none⟩) steps.length steps.length] ∧ IaAt w' w3.heap.size ⟨st, it, ins, outs, hids, steps⟩ (.agg #[.int .i64 st, .int .i64 it, .slice (some ⟨g2, 0, none⟩) ins.length ins.length, .slice (some ⟨g3, 0, none⟩) outs.length outs.length, .slice (some ⟨g4, 0, none⟩) hids.length hids.length, .slice (some ⟨g5, 0, none⟩) steps.length steps.length]) ∧ w'.cell? ⟨w.heap.size, 0, none⟩ = some (.int .i64 st) ∧ w'.cell? ⟨w.heap.size, 1, none⟩ = some (.int .i64 it) ∧ w'.cell? ⟨w.heap.size, 2, none⟩ = some (.slice a2 n2 c2) ∧ w'.cell? ⟨w.heap.size, 3, none⟩ = some (.slice a3 n3 c3) ∧ w'.cell? ⟨w.heap.size, 4, none⟩ = some (.slice a4 n4 c4) ∧ w'.cell? ⟨w.heap.size, 5, none⟩ = some (.slice a5 n5 c5) ∧ w'.cell? ⟨w4.heap.size, 0, none⟩ = some (.int .i64 st) ∧ w'.cell? ⟨w4.heap.size, 1, none⟩ = some (.int .i64 it) ∧ w'.cell? ⟨w4.heap.size, 2, none⟩ = some (.slice (some ⟨g2, 0, none⟩) ins.length ins.length) ∧ w'.cell? ⟨w4.heap.size, 3, none⟩ = some (.slice (some ⟨g3, 0, none⟩) outs.length outs.length) ∧ w'.cell? ⟨w4.heap.size, 4, none⟩ = some (.slice (some ⟨g4, 0, none⟩) hids.length hids.length) ∧ w'.cell? ⟨w4.heap.size, 5, none⟩ = some (.slice (some ⟨g5, 0, none⟩) steps.length steps.length))) := fun W hW => (CT.out W hW.1.1).mono fun e w' ⟨v', he, hat, hb⟩ => ⟨v', he, hat.row, ⟨hW.1.below hb, hW.2.1.below hb, (hW.1.below hb).2.1.cell rfl, (hW.1.below hb).2.1.cell rfl, (hW.1.below hb).2.1.cell rfl, (hW.1.below hb).2.1.cell rfl, (hW.1.below hb).2.1.cell rfl, (hW.1.below hb).2.1.cell rfl, (hW.1.below hb).2.2.cell rfl, (hW.1.below hb).2.2.cell rfl, (hW.1.below hb).2.2.cell rfl, (hW.1.below hb).2.2.cell rfl, (hW.1.below hb).2.2.cell rfl, (hW.1.below hb).2.2.cell rfl⟩⟩
    have CE : Hid (∀ W v', Boxes w W w.heap.size w4.heap.size #[.int .i64 st, .int .i64 it, .slice a2 n2 c2, .slice a3 n3 c3, .slice a4 n4 c4, .slice a5 n5 c5] #[.int .i64 st, .int .i64 it, .slice (some ⟨g2, 0, none⟩) ins.length ins.length, .slice (some ⟨g3, 0, none⟩) outs.length outs.length, .slice (some ⟨g4, 0, none⟩) hids.length hids.length, .slice (some ⟨g5, 0, none⟩) steps.length steps.length] ∧ IaAt W w3.heap.size ⟨st, it, ins, outs, hids, steps⟩ (.agg #[.int .i64 st, .int .i64 it, .slice (some ⟨g2, 0, none⟩) ins.length ins.length, .slice (some ⟨g3, 0, none⟩) outs.length outs.length, .slice (some ⟨g4, 0, none⟩) hids.length hids.length, .slice (some ⟨g5, 0, none⟩) steps.length steps.length]) ∧ W.cell? ⟨w.heap.size, 0, none⟩ = some (.int .i64 st) ∧ W.cell? ⟨w.heap.size, 1, none⟩ = some (.int .i64 it) ∧ W.cell? ⟨w.heap.size, 2, none⟩ = some (.slice a2 n2 c2) ∧ W.cell? ⟨w.heap.size, 3, none⟩ = some (.slice a3 n3 c3) ∧ W.cell? ⟨w.heap.size, 4, none⟩ = some (.slice a4 n4 c4) ∧ W.cell? ⟨w.heap.size, 5, none⟩ = some (.slice a5 n5 c5) ∧ W.cell? ⟨w4.heap.size, 0, none⟩ = some (.int .i64 st) ∧ W.cell? ⟨w4.heap.size, 1, none⟩ = some (.int .i64 it) ∧ W.cell? ⟨w4.heap.size, 2, none⟩ = some (.slice (some ⟨g2, 0, none⟩) ins.length ins.length) ∧ W.cell? ⟨w4.heap.size, 3, none⟩ = some (.slice (some ⟨g3, 0, none⟩) outs.length outs.length) ∧ W.cell? ⟨w4.heap.size, 4, none⟩ = some (.slice (some ⟨g4, 0, none⟩) hids.length hids.length) ∧ W.cell? ⟨w4.heap.size, 5, none⟩ = some (.slice (some ⟨g5, 0, none⟩) steps.length steps.length) → IaRow W ⟨st, it, ins, outs, hids, steps⟩ v' → Calls Tryd.prog 8 #[.agg #[.int .i64 st, .int .i64 it, .slice (some ⟨g2, 0, none⟩) ins.length ins.length, .slice (some ⟨g3, 0, none⟩) outs.length outs.length, .slice (some ⟨g4, 0, none⟩) hids.length hids.length, .slice (some ⟨g5, 0, none⟩) steps.length steps.length], v'] W fun e w' => e = .returned (.bool true) ∧ (Boxes w w' w.heap.size w4.heap.size #[.int .i64 st, .int .i64 it, .slice a2 n2 c2, .slice a3 n3 c3, .slice a4 n4 c4, .slice a5 n5 c5] #[.int .i64 st, .int .i64 it, .slice (some ⟨g2, 0, none⟩) ins.length ins.length, .slice (some ⟨g3, 0, none⟩) outs.length outs.length, .slice (some ⟨g4, 0, none⟩) hids.length hids.length, .slice (some ⟨g5, 0, none⟩) steps.length steps.length] ∧ IaAt w' w3.heap.size ⟨st, it, ins, outs, hids, steps⟩ (.agg #[.int .i64 st, .int .i64 it, .slice (some ⟨g2, 0, none⟩) ins.length ins.length, .slice (some ⟨g3, 0, none⟩) outs.length outs.length, .slice (some ⟨g4, 0, none⟩) hids.length hids.length, .slice (some ⟨g5, 0, none⟩) steps.length steps.length]) ∧ w'.cell? ⟨w.heap.size, 0, none⟩ = some (.int .i64 st) ∧ w'.cell? ⟨w.heap.size, 1, none⟩ = some (.int .i64 it) ∧ w'.cell? ⟨w.heap.size, 2, none⟩ = some (.slice a2 n2 c2) ∧ w'.cell? ⟨w.heap.size, 3, none⟩ = some (.slice a3 n3 c3) ∧ w'.cell? ⟨w.heap.size, 4, none⟩ = some (.slice a4 n4 c4) ∧ w'.cell? ⟨w.heap.size, 5, none⟩ = some (.slice a5 n5 c5) ∧ w'.cell? ⟨w4.heap.size, 0, none⟩ = some (.int .i64 st) ∧ w'.cell? ⟨w4.heap.size, 1, none⟩ = some (.int .i64 it) ∧ w'.cell? ⟨w4.heap.size, 2, none⟩ = some (.slice (some ⟨g2, 0, none⟩) ins.length ins.length) ∧ w'.cell? ⟨w4.heap.size, 3, none⟩ = some (.slice (some ⟨g3, 0, none⟩) outs.length outs.length) ∧ w'.cell? ⟨w4.heap.size, 4, none⟩ = some (.slice (some ⟨g4, 0, none⟩) hids.length hids.length) ∧ w'.cell? ⟨w4.heap.size, 5, none⟩ = some (.slice (some ⟨g5, 0, none⟩) steps.length steps.length))) := fun W v' hW hv => (eqIa_any ⟨st, it, ins, outs, hids, steps⟩ ⟨st, it, ins, outs, hids, steps⟩ _ _ W hW.2.1.row hv (IaFits.small f2 f3 f4 f5) (IaFits.small f2 f3 f4 f5)).mono fun e w' ⟨he, hb⟩ => ⟨by rw [he, sameB_refl], ⟨hW.1.below hb, hW.2.1.below hb, (hW.1.below hb).2.1.cell rfl, (hW.1.below hb).2.1.cell rfl, (hW.1.below hb).2.1.cell rfl, (hW.1.below hb).2.1.cell rfl, (hW.1.below hb).2.1.cell rfl, (hW.1.below hb).2.1.cell rfl, (hW.1.below hb).2.2.cell rfl, (hW.1.below hb).2.2.cell rfl, (hW.1.below hb).2.2.cell rfl, (hW.1.below hb).2.2.cell rfl, (hW.1.below hb).2.2.cell rfl, (hW.1.below hb).2.2.cell rfl⟩⟩
    go_wp2_with fail
    go_region_held3 (fun w' => Boxes w w' w.heap.size w4.heap.size #[.int .i64 st, .int .i64 it, .slice a2 n2 c2, .slice a3 n3 c3, .slice a4 n4 c4, .slice a5 n5 c5] #[.int .i64 st, .int .i64 it, .slice (some ⟨g2, 0, none⟩) ins.length ins.length, .slice (some ⟨g3, 0, none⟩) outs.length outs.length, .slice (some ⟨g4, 0, none⟩) hids.length hids.length, .slice (some ⟨g5, 0, none⟩) steps.length steps.length] ∧ IaAt w' w3.heap.size ⟨st, it, ins, outs, hids, steps⟩ (.agg #[.int .i64 st, .int .i64 it, .slice (some ⟨g2, 0, none⟩) ins.length ins.length, .slice (some ⟨g3, 0, none⟩) outs.length outs.length, .slice (some ⟨g4, 0, none⟩) hids.length hids.length, .slice (some ⟨g5, 0, none⟩) steps.length steps.length]) ∧ w'.cell? ⟨w.heap.size, 0, none⟩ = some (.int .i64 st) ∧ w'.cell? ⟨w.heap.size, 1, none⟩ = some (.int .i64 it) ∧ w'.cell? ⟨w.heap.size, 2, none⟩ = some (.slice a2 n2 c2) ∧ w'.cell? ⟨w.heap.size, 3, none⟩ = some (.slice a3 n3 c3) ∧ w'.cell? ⟨w.heap.size, 4, none⟩ = some (.slice a4 n4 c4) ∧ w'.cell? ⟨w.heap.size, 5, none⟩ = some (.slice a5 n5 c5) ∧ w'.cell? ⟨w4.heap.size, 0, none⟩ = some (.int .i64 st) ∧ w'.cell? ⟨w4.heap.size, 1, none⟩ = some (.int .i64 it) ∧ w'.cell? ⟨w4.heap.size, 2, none⟩ = some (.slice (some ⟨g2, 0, none⟩) ins.length ins.length) ∧ w'.cell? ⟨w4.heap.size, 3, none⟩ = some (.slice (some ⟨g3, 0, none⟩) outs.length outs.length) ∧ w'.cell? ⟨w4.heap.size, 4, none⟩ = some (.slice (some ⟨g4, 0, none⟩) hids.length hids.length) ∧ w'.cell? ⟨w4.heap.size, 5, none⟩ = some (.slice (some ⟨g5, 0, none⟩) steps.length steps.length))
      (first | exact hS2 | exact hS1 | exact S0)
      ((first | (go_at_call 6; refine (CS.out _ S0).mono ?_; rintro e w' ⟨v', rfl, hR, hS1⟩) | (go_at_call 8; refine (CE.out _ _ hS1 hR).mono ?_; rintro e w' ⟨rfl, hS2⟩)))
    have B7 := Lib.hid hS2.1.1
    clear S0 hS1 hS2 CS CE
    go_wp2_with fail
    go_ret
    exact ⟨rfl, B7.out⟩
  · have hr : roomOf 1048576 (n2 + n3 + n4 + n5) = -1 := roomOf_neg (by omega)
    rw [hr] at CZ
    go_enter Tryd.func3, Tryd.ntmps3
    go_wp2_with fail
    refine (CZ.out _).mono ?_
    rintro e w1 ⟨rfl, hb⟩
    have B1 : Hid (Below w.heap.size w w1) := (B0.out _).trans (hb.mono (B0.out _).size)
    clear hb CZ
    go_wp2_with fail
    go_ret
    exact ⟨rfl, B1.out⟩

end Go.Proofs.YtbppboophfojkaaDoor
