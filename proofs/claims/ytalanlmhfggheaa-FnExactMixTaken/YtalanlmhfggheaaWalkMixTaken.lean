/-
  The walk of the law FnExactMixTaken: it returns true at every argument and writes nothing that was there. Conditions: none.
-/
import Derived.Test.YtalanlmhfggheaaSpecMix
import Derived.Test.YtalanlmhfggheaaUnseen
import Derived.Test.YtalanlmhfggheaaLenHid
import Derived.Test.YtalanlmhfggheaaMarkIa3
namespace Go.Proofs.Ytalanlmhfggheaa
open Go.RowKit

set_option maxRecDepth 20000 in
set_option maxHeartbeats 6400000 in
theorem walk_FnExactMixTaken (st it : Int) (a2 : Option Addr) (n2 c2 : Nat) (z2 : List Int) (a3 : Option Addr) (n3 c3 : Nat) (z3 : List Int) (a4 : Option Addr) (n4 c4 : Nat) (z4 : List Int) (a5 : Option Addr) (n5 c5 : Nat) (z5 : List St) (a6 : Option Addr) (n6 c6 : Nat) (z6 : List Int) (w : World) (i2 : IsRow .i64 w a2 n2 c2 z2) (i3 : IsRow .i64 w a3 n3 c3 z3) (i4 : IsRow .i64 w a4 n4 c4 z4) (i5 : IsRowS w a5 n5 c5 z5) (i6 : IsRow .i64 w a6 n6 c6 z6) :
    Calls Try.prog 4 #[.agg #[.int .i64 st, .int .i64 it, .slice a2 n2 c2, .slice a3 n3 c3, .slice a4 n4 c4, .slice a5 n5 c5], .slice a6 n6 c6] w fun e w' => e = .returned (.bool true) ∧ Below w.heap.size w w' := by
  obtain ⟨from_, hfrom⟩ : ∃ l, l = z6.take n6 := ⟨_, rfl⟩
  have r6 := i6.row
  rw [← hfrom] at r6
  have l6 := i6.len1
  unfold maxLen at l6
  have RF := Lib.hid r6
  clear r6 i6 hfrom z6
  by_cases big6 : 1048576 < n6
  · have hd6 : decide ((n6 : Int) > 1048576) = true := by simp; omega
    go_enter Try.func4, Try.ntmps4
    go_wp2_with fail
    go_ret
    exact ⟨rfl, (Below.refl _ _).alloc (Nat.le_refl _) _⟩
  have hd6 : decide ((n6 : Int) > 1048576) = false := by simp; omega
  have h6 : n6 ≤ 1048576 := by omega
  clear big6 l6
  obtain ⟨ins, hins⟩ : ∃ l, l = z2.take n2 := ⟨_, rfl⟩
  obtain ⟨outs, houts⟩ : ∃ l, l = z3.take n3 := ⟨_, rfl⟩
  obtain ⟨hids, hhids⟩ : ∃ l, l = z4.take n4 := ⟨_, rfl⟩
  obtain ⟨steps, hsteps⟩ : ∃ l, l = z5.take n5 := ⟨_, rfl⟩
  have r2 := i2.row
  have r3 := i3.row
  have r4 := i4.row
  have r5 := i5.row
  rw [← hins] at r2
  rw [← houts] at r3
  rw [← hhids] at r4
  rw [← hsteps] at r5
  have l2 := i2.len1
  have l3 := i3.len1
  have l4 := i4.len1
  have l5 := i5.len1
  have HA : Hid (IaRow w ⟨st, it, ins, outs, hids, steps⟩ (.agg #[.int .i64 st, .int .i64 it, .slice a2 n2 c2, .slice a3 n3 c3, .slice a4 n4 c4, .slice a5 n5 c5])) := ⟨a2, n2, c2, a3, n3, c3, a4, n4, c4, a5, n5, c5, rfl, r2, r3, r4, r5⟩
  have CZ : Hid (∀ W, Calls Try.prog 6 #[.agg #[.int .i64 st, .int .i64 it, .slice a2 n2 c2, .slice a3 n3 c3, .slice a4 n4 c4, .slice a5 n5 c5], .int .i64 1048576] W fun e w' => e = .returned (.int .i64 (roomOf 1048576 (n2 + n3 + n4 + n5))) ∧ Below W.heap.size W w') := fun W => szIa_any st it a2 n2 c2 a3 n3 c3 a4 n4 c4 a5 n5 c5 1048576 W (by omega) (by omega) l2 l3 l4 l5
  have e2 := r2.1
  have e3 := r3.1
  have e4 := r4.1
  have e5 := r5.1
  clear r2 r3 r4 r5 i2 i3 i4 i5 hins houts hhids hsteps z2 z3 z4 z5 l2 l3 l4 l5
  have B0 : Hid (∀ o, Below w.heap.size w (w.alloc o)) := fun o => (Below.refl _ _).alloc (Nat.le_refl _) _
  have V0 := Lib.hid (VarIs.new w #[.int .i64 st, .int .i64 it, .slice a2 n2 c2, .slice a3 n3 c3, .slice a4 n4 c4, .slice a5 n5 c5] 25 rfl)
  by_cases hbig : n2 + n3 + n4 + n5 ≤ 1048576
  · have hr : roomOf 1048576 (n2 + n3 + n4 + n5) = 1048576 - ((n2 + n3 + n4 + n5 : Nat) : Int) := roomOf_pos (by omega)
    obtain ⟨rm, hrm⟩ : ∃ m : Nat, (m : Int) = 1048576 - ((n2 + n3 + n4 + n5 : Nat) : Int) := ⟨1048576 - (n2 + n3 + n4 + n5), by omega⟩
    rw [hr, ← hrm] at CZ
    have f2 : ins.length ≤ 1048576 := by omega
    have f3 : outs.length ≤ 1048576 := by omega
    have f4 : hids.length ≤ 1048576 := by omega
    have f5 : steps.length ≤ 1048576 := by omega
    have CT : Hid (∀ W, Below w.heap.size w W → Calls Try.prog 8 #[.agg #[.int .i64 st, .int .i64 it, .slice a2 n2 c2, .slice a3 n3 c3, .slice a4 n4 c4, .slice a5 n5 c5]] W fun e w' => ∃ v', e = .returned v' ∧ IaAt w' W.heap.size ⟨st, it, ins, outs, hids, steps⟩ v' ∧ Below W.heap.size W w') := fun W hW => toIa_any ⟨st, it, ins, outs, hids, steps⟩ _ W (HA.out.below hW) (IaFits.small f2 f3 f4 f5)
    obtain ⟨L, hL⟩ : ∃ L, L = (mixTakenOf ⟨st, it, ins, outs, hids, steps⟩ from_) := ⟨_, rfl⟩
    obtain ⟨s, hs⟩ : ∃ s, s = L.length := ⟨_, rfl⟩
    have hsL : s ≤ 4194304 := by
      rw [hs, hL]
      have h0 := mixTaken_len ⟨st, it, ins, outs, hids, steps⟩ from_
      simp only at h0 f2 f3 f4 f5
      omega
    have CP : Hid (∀ W v fa fc, IaRow W ⟨st, it, ins, outs, hids, steps⟩ v → Row W fa n6 from_ → InsC v → Calls Try.prog 15 #[v, .slice fa n6 fc] W fun e w' => ∃ g c, e = .returned (.slice (some ⟨g, 0, none⟩) s c) ∧ Owns w' W.heap.size (.slice (some ⟨g, 0, none⟩) s c) s L ∧ Below W.heap.size W w') := fun W v fa fc hv hf hc => by
      rw [hs, hL]
      exact specMixTaken_any ⟨st, it, ins, outs, hids, steps⟩ v fa n6 fc from_ W hv f2 f3 f4 f5 hf h6 hc 
    have CI : Hid (∀ W v fa fc, IaRow W ⟨st, it, ins, outs, hids, steps⟩ v → Row W fa n6 from_ → Calls Try.prog 17 #[v, .slice fa n6 fc] W fun e w' => ∃ ad c, e = .returned (.slice ad s c) ∧ Owns w' W.heap.size (.slice ad s c) s L ∧ Below W.heap.size W w') := fun W v fa fc hv hf => by
      rw [hs, hL]
      refine Calls.mono (implMixTaken_any ⟨st, it, ins, outs, hids, steps⟩ v fa n6 fc from_ W hv f2 f3 f4 f5 hf h6) fun e w' h => ?_
      obtain ⟨v', he, ho, hb⟩ := h
      obtain ⟨ad, c, rfl⟩ := ho.form
      exact ⟨ad, c, he, ho, hb⟩
    clear hr hrm hbig e2 e3 e4 e5 hL hs
    go_enter Try.func4, Try.ntmps4
    go_wp2_with fail
    refine (CZ.out _).mono ?_
    rintro e w1 ⟨rfl, hb⟩
    have B1 : Hid (Below w.heap.size w w1) := (B0.out _).trans (hb.mono (B0.out _).size)
    have V1 := Lib.hid (V0.out.below hb)
    clear hb CZ B0 V0
    have m0 := V1.out.cell (j := 0) rfl
    have m1 := V1.out.cell (j := 1) rfl
    have m2 := V1.out.cell (j := 2) rfl
    have m3 := V1.out.cell (j := 3) rfl
    have m4 := V1.out.cell (j := 4) rfl
    have m5 := V1.out.cell (j := 5) rfl
    go_wp2_with fail
    clear m0 m1 m2 m3 m4 m5
    refine (CT.out _ B1.out).mono ?_
    rintro e w2 ⟨vs, rfl, hat, hb⟩
    have B2 : Hid (Below w.heap.size w w2) := B1.out.trans (hb.mono B1.out.size)
    have V2 := Lib.hid (V1.out.below hb)
    have RS := Lib.hid hat.row
    have RC := Lib.hid (insC_at hat)
    clear hb hat B1 V1
    go_wp2_with fail
    refine (toIntS_any a6 n6 c6 from_ _ (RF.out.below B2.out) (by omega)).mono ?_
    rintro e w3 ⟨rfl, ho, hb⟩
    have B3 : Hid (Below w.heap.size w w3) := B2.out.trans (hb.mono B2.out.size)
    have V3 := Lib.hid (V2.out.below hb)
    have RS3 := Lib.hid (RS.out.below hb)
    have F3 := Lib.hid ho.row.2.2.2
    clear hb ho B2 V2 RS
    go_wp2_with fail
    refine (CP.out _ _ _ _ RS3.out F3.out RC.out).mono ?_
    rintro e w5 ⟨g, cW, rfl, hoW, hb⟩
    have B5 : Hid (Below w.heap.size w w5) := B3.out.trans (hb.mono B3.out.size)
    have V5 := Lib.hid (V3.out.below hb)
    have OW5 := Lib.hid hoW
    have hg5 := (hoW.lt g rfl).2
    have hw5 := V5.out.lt
    clear hb hoW B3 V3 RS3 F3 CP
    have m0 := V5.out.cell (j := 0) rfl
    have m1 := V5.out.cell (j := 1) rfl
    have m2 := V5.out.cell (j := 2) rfl
    have m3 := V5.out.cell (j := 3) rfl
    have m4 := V5.out.cell (j := 4) rfl
    have m5 := V5.out.cell (j := 5) rfl
    go_wp2_with fail
    clear m0 m1 m2 m3 m4 m5
    refine (CT.out _ B5.out).mono ?_
    rintro e w6 ⟨vx, rfl, hat, hb⟩
    have B6 : Hid (Below w.heap.size w w6) := B5.out.trans (hb.mono B5.out.size)
    have V6 := Lib.hid (V5.out.below hb)
    have OW6 := Lib.hid (OW5.out.below hb)
    have h56 := hb.size
    obtain ⟨g2, g3, g4, g5, rfl, gb, lt3, lt4, lt5, o2, o3, o4, o5⟩ := hat
    have hg56 := (o5.lt g5 rfl).2
    have XA6 : Hid (IaAt w6 w5.heap.size ⟨st, it, ins, outs, hids, steps⟩ (.agg #[.int .i64 st, .int .i64 it, .slice (some ⟨g2, 0, none⟩) ins.length ins.length, .slice (some ⟨g3, 0, none⟩) outs.length outs.length, .slice (some ⟨g4, 0, none⟩) hids.length hids.length, .slice (some ⟨g5, 0, none⟩) steps.length steps.length])) := ⟨g2, g3, g4, g5, rfl, gb, lt3, lt4, lt5, o2, o3, o4, o5⟩
    clear hb o2 o3 o4 o5 B5 V5 OW5
    simp only
    have bx := (Below.refl w6.heap.size w6).alloc (Nat.le_refl _) (.cells #[.int .i64 st, .int .i64 it, .slice (some ⟨g2, 0, none⟩) ins.length ins.length, .slice (some ⟨g3, 0, none⟩) outs.length outs.length, .slice (some ⟨g4, 0, none⟩) hids.length hids.length, .slice (some ⟨g5, 0, none⟩) steps.length steps.length] 30)
    have XA7 := Lib.hid (XA6.out.below bx)
    have OW7 := Lib.hid (OW6.out.below bx)
    have V7 := Lib.hid (V6.out.alloc (.cells #[.int .i64 st, .int .i64 it, .slice (some ⟨g2, 0, none⟩) ins.length ins.length, .slice (some ⟨g3, 0, none⟩) outs.length outs.length, .slice (some ⟨g4, 0, none⟩) hids.length hids.length, .slice (some ⟨g5, 0, none⟩) steps.length steps.length] 30))
    have X7 := Lib.hid (VarIs.new w6 #[.int .i64 st, .int .i64 it, .slice (some ⟨g2, 0, none⟩) ins.length ins.length, .slice (some ⟨g3, 0, none⟩) outs.length outs.length, .slice (some ⟨g4, 0, none⟩) hids.length hids.length, .slice (some ⟨g5, 0, none⟩) steps.length steps.length] 30 rfl)
    have B7 := Lib.hid (B6.out.alloc B6.out.size (.cells #[.int .i64 st, .int .i64 it, .slice (some ⟨g2, 0, none⟩) ins.length ins.length, .slice (some ⟨g3, 0, none⟩) outs.length outs.length, .slice (some ⟨g4, 0, none⟩) hids.length hids.length, .slice (some ⟨g5, 0, none⟩) steps.length steps.length] 30))
    have hz : (w6.alloc (.cells #[.int .i64 st, .int .i64 it, .slice (some ⟨g2, 0, none⟩) ins.length ins.length, .slice (some ⟨g3, 0, none⟩) outs.length outs.length, .slice (some ⟨g4, 0, none⟩) hids.length hids.length, .slice (some ⟨g5, 0, none⟩) steps.length steps.length] 30)).heap.size = w6.heap.size + 1 := by simp
    have CF7 : Hid (Calls Try.prog 16 #[.slice a6 n6 c6] (w6.alloc (.cells #[.int .i64 st, .int .i64 it, .slice (some ⟨g2, 0, none⟩) ins.length ins.length, .slice (some ⟨g3, 0, none⟩) outs.length outs.length, .slice (some ⟨g4, 0, none⟩) hids.length hids.length, .slice (some ⟨g5, 0, none⟩) steps.length steps.length] 30)) fun e w' => e = .returned (.slice (some ⟨w6.heap.size + 1, 0, none⟩) n6 n6) ∧ Owns w' (w6.heap.size + 1) (.slice (some ⟨w6.heap.size + 1, 0, none⟩) n6 n6) n6 from_ ∧ Below (w6.heap.size + 1) (w6.alloc (.cells #[.int .i64 st, .int .i64 it, .slice (some ⟨g2, 0, none⟩) ins.length ins.length, .slice (some ⟨g3, 0, none⟩) outs.length outs.length, .slice (some ⟨g4, 0, none⟩) hids.length hids.length, .slice (some ⟨g5, 0, none⟩) steps.length steps.length] 30)) w') := by
      have := toIntS_any a6 n6 c6 from_ _ (RF.out.below B7.out) (by omega)
      rw [hz] at this
      exact this
    clear bx
    go_wp2_with fail
    refine CF7.out.mono ?_
    rintro e w8 ⟨rfl, ho, hb0⟩
    have hb : Below (w6.alloc (.cells #[.int .i64 st, .int .i64 it, .slice (some ⟨g2, 0, none⟩) ins.length ins.length, .slice (some ⟨g3, 0, none⟩) outs.length outs.length, .slice (some ⟨g4, 0, none⟩) hids.length hids.length, .slice (some ⟨g5, 0, none⟩) steps.length steps.length] 30)).heap.size (w6.alloc (.cells #[.int .i64 st, .int .i64 it, .slice (some ⟨g2, 0, none⟩) ins.length ins.length, .slice (some ⟨g3, 0, none⟩) outs.length outs.length, .slice (some ⟨g4, 0, none⟩) hids.length hids.length, .slice (some ⟨g5, 0, none⟩) steps.length steps.length] 30)) w8 := by rw [hz]; exact hb0
    have XA8 := Lib.hid (XA7.out.below hb)
    have OW8 := Lib.hid (OW7.out.below hb)
    have V8 := Lib.hid (V7.out.below hb)
    have X8 := Lib.hid (X7.out.below hb)
    have B8 : Hid (Below w.heap.size w w8) := B7.out.trans (hb.mono B7.out.size)
    have P8 := Lib.hid ho
    have h68 : w6.heap.size + 1 < w8.heap.size := (ho.lt _ rfl).2
    clear hb hb0 ho XA6 OW6 V6 B6 XA7 OW7 V7 X7 B7 CF7 hz
    have m0 := X8.out.cell (j := 0) rfl
    have m1 := X8.out.cell (j := 1) rfl
    have m2 := X8.out.cell (j := 2) rfl
    have m3 := X8.out.cell (j := 3) rfl
    have m4 := X8.out.cell (j := 4) rfl
    have m5 := X8.out.cell (j := 5) rfl
    go_wp2_with fail
    clear m0 m1 m2 m3 m4 m5
    refine (CI.out _ _ _ _ XA8.out.row P8.out.row.2.2.2).mono ?_
    rintro e wa ⟨ag, cg, rfl, hoG, hb⟩
    have XAa := Lib.hid (XA8.out.below hb)
    have OWa := Lib.hid (OW8.out.below hb)
    have Va := Lib.hid (V8.out.below hb)
    have Xa := Lib.hid (X8.out.below hb)
    have Pa := Lib.hid (P8.out.below hb)
    have Ba : Hid (Below w.heap.size w wa) := B8.out.trans (hb.mono B8.out.size)
    have OGa := Lib.hid hoG
    clear hb hoG XA8 OW8 V8 X8 P8 B8
    go_wp2_with fail
    refine (eqIntS_any _ _ _ _ _ _ L L _ OGa.out.row.2.2.2 OWa.out.row.2.2.2 (by omega) (by omega)).mono ?_
    rintro e w10 ⟨rfl, hb⟩
    have XA10 := Lib.hid (XAa.out.below hb)
    have OW10 := Lib.hid (OWa.out.below hb)
    have V10 := Lib.hid (Va.out.below hb)
    have X10 := Lib.hid (Xa.out.below hb)
    have P10 := Lib.hid (Pa.out.below hb)
    have B10 : Hid (Below w.heap.size w w10) := Ba.out.trans (hb.mono Ba.out.size)
    have OG10 := Lib.hid (OGa.out.below hb)
    clear hb XAa OWa Va Xa Pa Ba OGa
    have KS : Hid (∀ W, Below w10.heap.size w10 W → W.cell? ⟨w.heap.size, 0, none⟩ = some (.int .i64 st) ∧ W.cell? ⟨w.heap.size, 1, none⟩ = some (.int .i64 it) ∧ W.cell? ⟨w.heap.size, 2, none⟩ = some (.slice a2 n2 c2) ∧ W.cell? ⟨w.heap.size, 3, none⟩ = some (.slice a3 n3 c3) ∧ W.cell? ⟨w.heap.size, 4, none⟩ = some (.slice a4 n4 c4) ∧ W.cell? ⟨w.heap.size, 5, none⟩ = some (.slice a5 n5 c5) ∧ W.cell? ⟨w6.heap.size, 0, none⟩ = some (.int .i64 st) ∧ W.cell? ⟨w6.heap.size, 1, none⟩ = some (.int .i64 it) ∧ W.cell? ⟨w6.heap.size, 2, none⟩ = some (.slice (some ⟨g2, 0, none⟩) ins.length ins.length) ∧ W.cell? ⟨w6.heap.size, 3, none⟩ = some (.slice (some ⟨g3, 0, none⟩) outs.length outs.length) ∧ W.cell? ⟨w6.heap.size, 4, none⟩ = some (.slice (some ⟨g4, 0, none⟩) hids.length hids.length) ∧ W.cell? ⟨w6.heap.size, 5, none⟩ = some (.slice (some ⟨g5, 0, none⟩) steps.length steps.length)) := fun W hW => by
      have hv := V10.out.below hW
      have hx := X10.out.below hW
      exact ⟨hv.cell rfl, hv.cell rfl, hv.cell rfl, hv.cell rfl, hv.cell rfl, hv.cell rfl, hx.cell rfl, hx.cell rfl, hx.cell rfl, hx.cell rfl, hx.cell rfl, hx.cell rfl⟩
    have S0 : Below w10.heap.size w10 w10.drew ∧ w10.drew.cell? ⟨w.heap.size, 0, none⟩ = some (.int .i64 st) ∧ w10.drew.cell? ⟨w.heap.size, 1, none⟩ = some (.int .i64 it) ∧ w10.drew.cell? ⟨w.heap.size, 2, none⟩ = some (.slice a2 n2 c2) ∧ w10.drew.cell? ⟨w.heap.size, 3, none⟩ = some (.slice a3 n3 c3) ∧ w10.drew.cell? ⟨w.heap.size, 4, none⟩ = some (.slice a4 n4 c4) ∧ w10.drew.cell? ⟨w.heap.size, 5, none⟩ = some (.slice a5 n5 c5) ∧ w10.drew.cell? ⟨w6.heap.size, 0, none⟩ = some (.int .i64 st) ∧ w10.drew.cell? ⟨w6.heap.size, 1, none⟩ = some (.int .i64 it) ∧ w10.drew.cell? ⟨w6.heap.size, 2, none⟩ = some (.slice (some ⟨g2, 0, none⟩) ins.length ins.length) ∧ w10.drew.cell? ⟨w6.heap.size, 3, none⟩ = some (.slice (some ⟨g3, 0, none⟩) outs.length outs.length) ∧ w10.drew.cell? ⟨w6.heap.size, 4, none⟩ = some (.slice (some ⟨g4, 0, none⟩) hids.length hids.length) ∧ w10.drew.cell? ⟨w6.heap.size, 5, none⟩ = some (.slice (some ⟨g5, 0, none⟩) steps.length steps.length) := ⟨(Below.refl _ _).drew, KS.out _ (Below.refl _ _).drew⟩
    have CS : Hid (∀ W, Below w10.heap.size w10 W ∧ W.cell? ⟨w.heap.size, 0, none⟩ = some (.int .i64 st) ∧ W.cell? ⟨w.heap.size, 1, none⟩ = some (.int .i64 it) ∧ W.cell? ⟨w.heap.size, 2, none⟩ = some (.slice a2 n2 c2) ∧ W.cell? ⟨w.heap.size, 3, none⟩ = some (.slice a3 n3 c3) ∧ W.cell? ⟨w.heap.size, 4, none⟩ = some (.slice a4 n4 c4) ∧ W.cell? ⟨w.heap.size, 5, none⟩ = some (.slice a5 n5 c5) ∧ W.cell? ⟨w6.heap.size, 0, none⟩ = some (.int .i64 st) ∧ W.cell? ⟨w6.heap.size, 1, none⟩ = some (.int .i64 it) ∧ W.cell? ⟨w6.heap.size, 2, none⟩ = some (.slice (some ⟨g2, 0, none⟩) ins.length ins.length) ∧ W.cell? ⟨w6.heap.size, 3, none⟩ = some (.slice (some ⟨g3, 0, none⟩) outs.length outs.length) ∧ W.cell? ⟨w6.heap.size, 4, none⟩ = some (.slice (some ⟨g4, 0, none⟩) hids.length hids.length) ∧ W.cell? ⟨w6.heap.size, 5, none⟩ = some (.slice (some ⟨g5, 0, none⟩) steps.length steps.length) → Calls Try.prog 8 #[.agg #[.int .i64 st, .int .i64 it, .slice a2 n2 c2, .slice a3 n3 c3, .slice a4 n4 c4, .slice a5 n5 c5]] W fun e w' => ∃ v', e = .returned v' ∧ IaRow w' ⟨st, it, ins, outs, hids, steps⟩ v' ∧ (Below w10.heap.size w10 w' ∧ w'.cell? ⟨w.heap.size, 0, none⟩ = some (.int .i64 st) ∧ w'.cell? ⟨w.heap.size, 1, none⟩ = some (.int .i64 it) ∧ w'.cell? ⟨w.heap.size, 2, none⟩ = some (.slice a2 n2 c2) ∧ w'.cell? ⟨w.heap.size, 3, none⟩ = some (.slice a3 n3 c3) ∧ w'.cell? ⟨w.heap.size, 4, none⟩ = some (.slice a4 n4 c4) ∧ w'.cell? ⟨w.heap.size, 5, none⟩ = some (.slice a5 n5 c5) ∧ w'.cell? ⟨w6.heap.size, 0, none⟩ = some (.int .i64 st) ∧ w'.cell? ⟨w6.heap.size, 1, none⟩ = some (.int .i64 it) ∧ w'.cell? ⟨w6.heap.size, 2, none⟩ = some (.slice (some ⟨g2, 0, none⟩) ins.length ins.length) ∧ w'.cell? ⟨w6.heap.size, 3, none⟩ = some (.slice (some ⟨g3, 0, none⟩) outs.length outs.length) ∧ w'.cell? ⟨w6.heap.size, 4, none⟩ = some (.slice (some ⟨g4, 0, none⟩) hids.length hids.length) ∧ w'.cell? ⟨w6.heap.size, 5, none⟩ = some (.slice (some ⟨g5, 0, none⟩) steps.length steps.length))) := fun W hW => (CT.out W (B10.out.trans (hW.1.mono B10.out.size))).mono fun e w' ⟨v', he, hat, hb⟩ => ⟨v', he, hat.row, hW.1.trans (hb.mono hW.1.size), KS.out _ (hW.1.trans (hb.mono hW.1.size))⟩
    have CE : Hid (∀ W v', Below w10.heap.size w10 W ∧ W.cell? ⟨w.heap.size, 0, none⟩ = some (.int .i64 st) ∧ W.cell? ⟨w.heap.size, 1, none⟩ = some (.int .i64 it) ∧ W.cell? ⟨w.heap.size, 2, none⟩ = some (.slice a2 n2 c2) ∧ W.cell? ⟨w.heap.size, 3, none⟩ = some (.slice a3 n3 c3) ∧ W.cell? ⟨w.heap.size, 4, none⟩ = some (.slice a4 n4 c4) ∧ W.cell? ⟨w.heap.size, 5, none⟩ = some (.slice a5 n5 c5) ∧ W.cell? ⟨w6.heap.size, 0, none⟩ = some (.int .i64 st) ∧ W.cell? ⟨w6.heap.size, 1, none⟩ = some (.int .i64 it) ∧ W.cell? ⟨w6.heap.size, 2, none⟩ = some (.slice (some ⟨g2, 0, none⟩) ins.length ins.length) ∧ W.cell? ⟨w6.heap.size, 3, none⟩ = some (.slice (some ⟨g3, 0, none⟩) outs.length outs.length) ∧ W.cell? ⟨w6.heap.size, 4, none⟩ = some (.slice (some ⟨g4, 0, none⟩) hids.length hids.length) ∧ W.cell? ⟨w6.heap.size, 5, none⟩ = some (.slice (some ⟨g5, 0, none⟩) steps.length steps.length) → IaRow W ⟨st, it, ins, outs, hids, steps⟩ v' → Calls Try.prog 11 #[.agg #[.int .i64 st, .int .i64 it, .slice (some ⟨g2, 0, none⟩) ins.length ins.length, .slice (some ⟨g3, 0, none⟩) outs.length outs.length, .slice (some ⟨g4, 0, none⟩) hids.length hids.length, .slice (some ⟨g5, 0, none⟩) steps.length steps.length], v'] W fun e w' => e = .returned (.bool true) ∧ (Below w10.heap.size w10 w' ∧ w'.cell? ⟨w.heap.size, 0, none⟩ = some (.int .i64 st) ∧ w'.cell? ⟨w.heap.size, 1, none⟩ = some (.int .i64 it) ∧ w'.cell? ⟨w.heap.size, 2, none⟩ = some (.slice a2 n2 c2) ∧ w'.cell? ⟨w.heap.size, 3, none⟩ = some (.slice a3 n3 c3) ∧ w'.cell? ⟨w.heap.size, 4, none⟩ = some (.slice a4 n4 c4) ∧ w'.cell? ⟨w.heap.size, 5, none⟩ = some (.slice a5 n5 c5) ∧ w'.cell? ⟨w6.heap.size, 0, none⟩ = some (.int .i64 st) ∧ w'.cell? ⟨w6.heap.size, 1, none⟩ = some (.int .i64 it) ∧ w'.cell? ⟨w6.heap.size, 2, none⟩ = some (.slice (some ⟨g2, 0, none⟩) ins.length ins.length) ∧ w'.cell? ⟨w6.heap.size, 3, none⟩ = some (.slice (some ⟨g3, 0, none⟩) outs.length outs.length) ∧ w'.cell? ⟨w6.heap.size, 4, none⟩ = some (.slice (some ⟨g4, 0, none⟩) hids.length hids.length) ∧ w'.cell? ⟨w6.heap.size, 5, none⟩ = some (.slice (some ⟨g5, 0, none⟩) steps.length steps.length))) := fun W v' hW hv => (eqIa_any ⟨st, it, ins, outs, hids, steps⟩ ⟨st, it, ins, outs, hids, steps⟩ _ _ W (XA10.out.row.below hW.1) hv (IaFits.small f2 f3 f4 f5) (IaFits.small f2 f3 f4 f5)).mono fun e w' ⟨he, hb⟩ => ⟨by rw [he, sameB_refl], hW.1.trans (hb.mono hW.1.size), KS.out _ (hW.1.trans (hb.mono hW.1.size))⟩
    go_wp2_with fail
    go_region_held3 (fun w' => Below w10.heap.size w10 w' ∧ w'.cell? ⟨w.heap.size, 0, none⟩ = some (.int .i64 st) ∧ w'.cell? ⟨w.heap.size, 1, none⟩ = some (.int .i64 it) ∧ w'.cell? ⟨w.heap.size, 2, none⟩ = some (.slice a2 n2 c2) ∧ w'.cell? ⟨w.heap.size, 3, none⟩ = some (.slice a3 n3 c3) ∧ w'.cell? ⟨w.heap.size, 4, none⟩ = some (.slice a4 n4 c4) ∧ w'.cell? ⟨w.heap.size, 5, none⟩ = some (.slice a5 n5 c5) ∧ w'.cell? ⟨w6.heap.size, 0, none⟩ = some (.int .i64 st) ∧ w'.cell? ⟨w6.heap.size, 1, none⟩ = some (.int .i64 it) ∧ w'.cell? ⟨w6.heap.size, 2, none⟩ = some (.slice (some ⟨g2, 0, none⟩) ins.length ins.length) ∧ w'.cell? ⟨w6.heap.size, 3, none⟩ = some (.slice (some ⟨g3, 0, none⟩) outs.length outs.length) ∧ w'.cell? ⟨w6.heap.size, 4, none⟩ = some (.slice (some ⟨g4, 0, none⟩) hids.length hids.length) ∧ w'.cell? ⟨w6.heap.size, 5, none⟩ = some (.slice (some ⟨g5, 0, none⟩) steps.length steps.length))
      (first | exact hS2 | exact hS1 | exact S0)
      ((first | (go_at_call 8; refine (CS.out _ S0).mono ?_; rintro e w' ⟨v', rfl, hR, hS1⟩) | (go_at_call 11; refine (CE.out _ _ hS1 hR).mono ?_; rintro e w11 ⟨rfl, hS2⟩)))
    have D11 := Lib.hid hS2.1
    clear S0 hS1 hS2 CS CE hR
    go_wp2_with fail
    refine (toIntS_any a6 n6 c6 from_ _ (RF.out.below (B10.out.trans (D11.out.mono B10.out.size))) (by omega)).mono ?_
    rintro e w12 ⟨rfl, ho, hb⟩
    have D12 := Lib.hid (D11.out.trans (hb.mono D11.out.size))
    have N12 := Lib.hid ho.row.2.2.2
    clear hb ho
    go_wp2_with fail
    refine (eqIntS_any _ _ _ _ _ _ from_ from_ _ (P10.out.below D12.out).row.2.2.2 N12.out (by omega) (by omega)).mono ?_
    rintro e w13 ⟨rfl, hb⟩
    have D13 := Lib.hid (D12.out.trans (hb.mono D12.out.size))
    clear hb N12
    have B15 := Lib.hid (B10.out.trans (D13.out.mono B10.out.size))
    have V15 := Lib.hid (V10.out.below D13.out)
    have X15 := Lib.hid (X10.out.below D13.out)
    have OW15 := Lib.hid (OW10.out.below D13.out)
    have OG15 := Lib.hid (OG10.out.below D13.out)
    have P15 := Lib.hid (P10.out.below D13.out)
    have XA15 := Lib.hid (XA10.out.below D13.out)
    have hx15 := X15.out.lt
    clear D11 D12 D13 B10 V10 X10 OW10 OG10 P10 XA10 KS
    have m0 := X15.out.cell (j := 0) rfl
    have m1 := X15.out.cell (j := 1) rfl
    have m2 := X15.out.cell (j := 2) rfl
    have m3 := X15.out.cell (j := 3) rfl
    have m4 := X15.out.cell (j := 4) rfl
    have m5 := X15.out.cell (j := 5) rfl
    go_wp2_with fail
    clear m0 m1 m2 m3 m4 m5
    obtain ⟨_, _, _, _, o2, o3, o4, o5⟩ := XA15.out.parts
    refine (markIa_at2 st it g2 g3 g4 g5 ins outs hids steps w5.heap.size _ gb lt3 lt4 lt5 (by omega) o2 o3 o4 o5 (by omega) (by omega) (by omega) (by omega)).mono ?_
    rintro e w16 ⟨r, hr0, hr1, rfl, hb, hbut⟩
    have B16 : Hid (Below w.heap.size w w16) := B15.out.trans (hb.mono (by omega))
    have V16 := Lib.hid (V15.out.but4 hbut (by omega) (by omega) (by omega) (by omega))
    have OW16 := Lib.hid (OW15.out.but4 hbut (fun k hk => by cases hk; simp only; omega))
    have OG16 := Lib.hid (OG15.out.but4 hbut (fun k hk => by have := (OG15.out.lt k hk).1; omega))
    have P16 := Lib.hid (P15.out.but4 hbut (fun k hk => by cases hk; simp only; omega))
    clear hb hbut o2 o3 o4 o5 B15 V15 X15 OW15 OG15 P15 XA15
    go_wp2_with fail
    refine (mark_any _ n6 _ r from_ _ P16.out (by omega) (by omega) (by omega)).mono ?_
    rintro e w17 ⟨rfl, _, hg0⟩
    have hg : World.grownBy _ w17 (some (w6.heap.size + 1)) := hg0
    have B17 : Hid (Below w.heap.size w w17) := B16.out.grown hg B16.out.size (fun k hk => by have := Option.some.inj hk; omega)
    have V17 := Lib.hid (V16.out.grown hg (fun h => by have := Option.some.inj h; omega))
    have OW17 := Lib.hid (OW16.out.keep hg (fun k hk h => by cases hk; have := Option.some.inj h; simp only at this; omega))
    have OG17 := Lib.hid (OG16.out.keep hg (fun k hk h => by have h1 := (OG16.out.lt k hk).1; have h2 := Option.some.inj h; omega))
    clear hg hg0 B16 V16 OW16 OG16 P16
    have hrd : decide (r + (n6 : Int) < 0) = false := by simp; omega
    go_wp2_with fail
    refine (eqIntS_any _ _ _ _ _ _ L L _ OG17.out.row.2.2.2 OW17.out.row.2.2.2 (by omega) (by omega)).mono ?_
    rintro e w19 ⟨rfl, hb⟩
    have B19 : Hid (Below w.heap.size w w19) := B17.out.trans (hb.mono B17.out.size)
    have V19 := Lib.hid (V17.out.below hb)
    have OW19 := Lib.hid (OW17.out.below hb)
    have OG19 := Lib.hid (OG17.out.below hb)
    clear hb B17 V17 OW17 OG17
    go_wp2_with fail
    refine (mark_any _ s _ 1 L _ OG19.out (by omega) (by omega) (by omega)).mono ?_
    rintro e w20 ⟨rfl, ho, hg⟩
    have B20 := Lib.hid (OG19.out.grown B19.out hg (by omega) B19.out.size)
    have V20 := Lib.hid (V19.out.grown hg (fun h => by have := (OG19.out.lt _ h.symm).1; omega))
    have OW20 := Lib.hid (OW19.out.keep hg (fun k hk h => by cases hk; have := (OG19.out.lt g h.symm).1; omega))
    have OG20 := Lib.hid ho
    clear hg ho B19 V19 OW19 OG19
    go_wp2_with fail
    refine (held_any _ s _ 1 _ OG20.out.row.2.2.2 (by omega) (by omega) (by omega)).mono ?_
    rintro e w21 ⟨rfl, rfl⟩
    have m0 := V20.out.cell (j := 0) rfl
    have m1 := V20.out.cell (j := 1) rfl
    have m2 := V20.out.cell (j := 2) rfl
    have m3 := V20.out.cell (j := 3) rfl
    have m4 := V20.out.cell (j := 4) rfl
    have m5 := V20.out.cell (j := 5) rfl
    go_wp2_with fail
    clear m0 m1 m2 m3 m4 m5
    refine (CT.out _ B20.out).mono ?_
    rintro e w22 ⟨vh, rfl, hat, hb⟩
    have B22 : Hid (Below w.heap.size w w22) := B20.out.trans (hb.mono B20.out.size)
    have OW22 := Lib.hid (OW20.out.below hb)
    have OG22 := Lib.hid (OG20.out.below hb)
    have RH := Lib.hid hat.row
    clear hb hat B20 V20 OW20 OG20
    go_wp2_with fail
    refine (toIntS_any a6 n6 c6 from_ _ (RF.out.below B22.out) (by omega)).mono ?_
    rintro e w23 ⟨rfl, ho, hb⟩
    have B23 : Hid (Below w.heap.size w w23) := B22.out.trans (hb.mono B22.out.size)
    have OW23 := Lib.hid (OW22.out.below hb)
    have OG23 := Lib.hid (OG22.out.below hb)
    have RH3 := Lib.hid (RH.out.below hb)
    have F23 := Lib.hid ho.row.2.2.2
    clear hb ho B22 OW22 OG22 RH
    go_wp2_with fail
    refine (CI.out _ _ _ _ RH3.out F23.out).mono ?_
    rintro e w25 ⟨ah, ch, rfl, hoH, hb⟩
    have B25 : Hid (Below w.heap.size w w25) := B23.out.trans (hb.mono B23.out.size)
    have OW25 := Lib.hid (OW23.out.below hb)
    have OG25 := Lib.hid (OG23.out.below hb)
    have OH25 := Lib.hid hoH
    clear hb hoH B23 OW23 OG23 RH3 F23
    go_wp2_with fail
    refine (eqIntS_any _ _ _ _ _ _ L L _ OH25.out.row.2.2.2 OW25.out.row.2.2.2 (by omega) (by omega)).mono ?_
    rintro e w26 ⟨rfl, hb⟩
    have B26 : Hid (Below w.heap.size w w26) := B25.out.trans (hb.mono B25.out.size)
    have OG26 := Lib.hid (OG25.out.below hb)
    clear hb B25 OW25 OG25 OH25
    go_wp2_with fail
    refine (held_any _ s _ 1 _ OG26.out.row.2.2.2 (by omega) (by omega) (by omega)).mono ?_
    rintro e w27 ⟨rfl, rfl⟩
    go_wp2_with fail
    go_ret
    exact ⟨rfl, B26.out⟩
  · have hr : roomOf 1048576 (n2 + n3 + n4 + n5) = -1 := roomOf_neg (by omega)
    rw [hr] at CZ
    go_enter Try.func4, Try.ntmps4
    go_wp2_with fail
    refine (CZ.out _).mono ?_
    rintro e w1 ⟨rfl, hb⟩
    have B1 : Hid (Below w.heap.size w w1) := (B0.out _).trans (hb.mono (B0.out _).size)
    clear hb CZ
    go_wp2_with fail
    go_ret
    exact ⟨rfl, B1.out⟩

end Go.Proofs.Ytalanlmhfggheaa
