/-
  The walk of the law FnExactIaRead: it returns true at every text and writes nothing that was there. Conditions: the listed variables hold what the program's text lays in them; internal/bytealg.MaxLen holds a number.
-/
import Derived.Test.YtbppboophfojkaaGreatDoorImplRead
import Derived.Test.YtbppboophfojkaaGreatDoorEqIa
namespace Go.Proofs.YtbppboophfojkaaGreatDoor
open Go.RowKit

theorem IaOwn.off {w : World} {base b : Nat} {a : IaD} {v : Value} (h : IaOwn w base a v) (hb : w.heap.size ≤ b) : ∀ y0 y1 y2 y3 y4 y5 : Value, v = .agg #[y0, y1, y2, y3, y4, y5] → y2.ownBlock ≠ some b ∧ y3.ownBlock ≠ some b ∧ y4.ownBlock ≠ some b ∧ y5.ownBlock ≠ some b := by
  intro y0 y1 y2 y3 y4 y5 hv
  subst hv
  obtain ⟨o2, o3, o4, o5, _⟩ := iaOwn_parts h
  exact ⟨fun e => by have := (o2.lt b e).2; omega, fun e => by have := (o3.lt b e).2; omega, fun e => by have := (o4.lt b e).2; omega, fun e => by have := (o5.lt b e).2; omega⟩

set_option maxRecDepth 20000 in
set_option maxHeartbeats 6400000 in
theorem walk_FnExactIaRead (s : ByteArray) (hs : s.size ≤ maxLen) (w : World) (he : EnvR w) :
    Calls Tryz.prog 4 #[.string s] w fun e w' => e = .returned (.bool true) ∧ Below w.heap.size w w' := by
  have HE := Lib.hid he
  unfold maxLen at hs
  clear he
  by_cases hbig : 1048576 < s.size
  · go_enter Tryz.func4, Tryz.ntmps4
    go_wp2
    go_ret
    exact ⟨rfl, Below.refl _ _⟩
  · obtain ⟨L, hL⟩ : ∃ L, L = s.data.toList := ⟨_, rfl⟩
    have hsL : s = bs L := by rw [hL, bs_back]
    have hLl : L.length ≤ 1048576 := by rw [hL]; simp; omega
    obtain ⟨⟨a, code⟩, hR⟩ : ∃ R, R = iaReadOf L := ⟨_, rfl⟩
    have CS : Hid (∀ W, Calls Tryz.prog 13 #[.string s] W (IaReadRes W (a, code))) := fun W => by
      have := specIaRead_any s W (by omega)
      rw [← hL, ← hR] at this
      exact this
    have CI : Hid (∀ W, EnvR W → Calls Tryz.prog 10 #[.string s] W (IaOwnRes W (a, code))) := fun W hW => by
      have := implIaRead_any L W hLl hW
      rw [← hR] at this
      rw [hsL]
      exact this
    clear hR hsL hL
    go_enter Tryz.func4, Tryz.ntmps4
    go_wp2_with fail
    refine (CS.out _).mono ?_
    rintro e w1 ⟨v, rfl, hrow, hb⟩
    obtain ⟨y2, m2, e2, y3, m3, e3, y4, m4, e4, y5, m5, e5, rfl, r2, r3, r4, r5⟩ := hrow
    have HRS : Hid (IaRow w1 a (.agg #[.int .i64 a.states, .int .i64 a.init, .slice y2 m2 e2, .slice y3 m3 e3, .slice y4 m4 e4, .slice y5 m5 e5])) := ⟨y2, m2, e2, y3, m3, e3, y4, m4, e4, y5, m5, e5, rfl, r2, r3, r4, r5⟩
    have hba : Below w1.heap.size w1 (w1.alloc (.cells #[.int .i64 a.states, .int .i64 a.init, .slice y2 m2 e2, .slice y3 m3 e3, .slice y4 m4 e4, .slice y5 m5 e5] 27)) := (Below.refl _ _).alloc (Nat.le_refl _) _
    have RS3 := Lib.hid (HRS.out.below hba)
    have U3 : Hid (VarIs (w1.alloc (.cells #[.int .i64 a.states, .int .i64 a.init, .slice y2 m2 e2, .slice y3 m3 e3, .slice y4 m4 e4, .slice y5 m5 e5] 27)) w1.heap.size #[.int .i64 a.states, .int .i64 a.init, .slice y2 m2 e2, .slice y3 m3 e3, .slice y4 m4 e4, .slice y5 m5 e5] 27) := VarIs.new w1 _ _ rfl
    have B3 : Hid (Below w.heap.size w (w1.alloc (.cells #[.int .i64 a.states, .int .i64 a.init, .slice y2 m2 e2, .slice y3 m3 e3, .slice y4 m4 e4, .slice y5 m5 e5] 27))) := (hb.trans (hba.mono hb.size))
    have HE3 := Lib.hid (HE.out.below B3.out)
    clear hb hba r2 r3 r4 r5 HRS CS
    go_wp2_with fail
    refine (CI.out _ HE3.out).mono ?_
    rintro e w4 ⟨v, rfl, hown, hb, hless⟩
    obtain ⟨x2, x3, x4, x5, rfl, o2, o3, o4, o5, p2, p3, p4⟩ := hown
    obtain ⟨b2, d2, rfl⟩ := o2.form
    obtain ⟨b3, d3, rfl⟩ := o3.form
    obtain ⟨b4, d4, rfl⟩ := o4.form
    obtain ⟨b5, d5, rfl⟩ := o5.form
    have hown : IaOwn w4 (w1.alloc (.cells #[.int .i64 a.states, .int .i64 a.init, .slice y2 m2 e2, .slice y3 m3 e3, .slice y4 m4 e4, .slice y5 m5 e5] 27)).heap.size a (.agg #[.int .i64 a.states, .int .i64 a.init, .slice b2 a.ins.length d2, .slice b3 a.outs.length d3, .slice b4 a.hids.length d4, .slice b5 a.steps.length d5]) := ⟨_, _, _, _, rfl, o2, o3, o4, o5, p2, p3, p4⟩
    have HAW := Lib.hid (hown.off (Nat.le_refl w4.heap.size))
    have hba : Below w4.heap.size w4 (w4.alloc (.cells #[.int .i64 a.states, .int .i64 a.init, .slice b2 a.ins.length d2, .slice b3 a.outs.length d3, .slice b4 a.hids.length d4, .slice b5 a.steps.length d5] 27)) := (Below.refl _ _).alloc (Nat.le_refl _) _
    have HO5 := Lib.hid (hown.below hba)
    have BB5 : Hid (Below (w1.alloc (.cells #[.int .i64 a.states, .int .i64 a.init, .slice y2 m2 e2, .slice y3 m3 e3, .slice y4 m4 e4, .slice y5 m5 e5] 27)).heap.size (w1.alloc (.cells #[.int .i64 a.states, .int .i64 a.init, .slice y2 m2 e2, .slice y3 m3 e3, .slice y4 m4 e4, .slice y5 m5 e5] 27)) (w4.alloc (.cells #[.int .i64 a.states, .int .i64 a.init, .slice b2 a.ins.length d2, .slice b3 a.outs.length d3, .slice b4 a.hids.length d4, .slice b5 a.steps.length d5] 27))) := hb.trans (hba.mono hb.size)
    have G5 : Hid (VarIs (w4.alloc (.cells #[.int .i64 a.states, .int .i64 a.init, .slice b2 a.ins.length d2, .slice b3 a.outs.length d3, .slice b4 a.hids.length d4, .slice b5 a.steps.length d5] 27)) w4.heap.size #[.int .i64 a.states, .int .i64 a.init, .slice b2 a.ins.length d2, .slice b3 a.outs.length d3, .slice b4 a.hids.length d4, .slice b5 a.steps.length d5] 27) := VarIs.new w4 _ _ rfl
    have U5 := Lib.hid (U3.out.below BB5.out)
    have RS5 := Lib.hid (RS3.out.below BB5.out)
    have HLE := Lib.hid hless
    have HFT : Hid (IaFits a) := IaFits.small (Nat.le_trans hless.1 (by decide)) (Nat.le_trans hless.2.1 (by decide)) (Nat.le_trans hless.2.2.1 (by decide)) (Nat.le_trans hless.2.2.2 (by decide))
    clear hb hba hown o2 o3 o4 o5 p2 p3 p4 hless
    simp only
    have m0 := G5.out.cell (j := 0) rfl
    have m1 := G5.out.cell (j := 1) rfl
    have m2 := G5.out.cell (j := 2) rfl
    have m3 := G5.out.cell (j := 3) rfl
    have m4 := G5.out.cell (j := 4) rfl
    have m5 := G5.out.cell (j := 5) rfl
    have u0 := U5.out.cell (j := 0) rfl
    have u1 := U5.out.cell (j := 1) rfl
    have u2 := U5.out.cell (j := 2) rfl
    have u3 := U5.out.cell (j := 3) rfl
    have u4 := U5.out.cell (j := 4) rfl
    have u5 := U5.out.cell (j := 5) rfl
    go_wp2_with fail
    clear m0 m1 m2 m3 m4 m5 u0 u1 u2 u3 u4 u5
    refine (eqIa_any a a _ _ _ HO5.out.row RS5.out HFT.out HFT.out).mono ?_
    rintro e w6 ⟨rfl, hb⟩
    rw [sameB_refl]
    have HO6 := Lib.hid (HO5.out.below hb)
    have BB6 : Hid (Below (w1.alloc (.cells #[.int .i64 a.states, .int .i64 a.init, .slice y2 m2 e2, .slice y3 m3 e3, .slice y4 m4 e4, .slice y5 m5 e5] 27)).heap.size (w1.alloc (.cells #[.int .i64 a.states, .int .i64 a.init, .slice y2 m2 e2, .slice y3 m3 e3, .slice y4 m4 e4, .slice y5 m5 e5] 27)) w6) := BB5.out.trans (hb.mono BB5.out.size)
    have G6 := Lib.hid (G5.out.below hb)
    clear hb HO5 BB5 G5 U5 RS5
    have m0 := G6.out.cell (j := 0) rfl
    have m1 := G6.out.cell (j := 1) rfl
    have m2 := G6.out.cell (j := 2) rfl
    have m3 := G6.out.cell (j := 3) rfl
    have m4 := G6.out.cell (j := 4) rfl
    have m5 := G6.out.cell (j := 5) rfl
    go_wp2_with fail
    clear m0 m1 m2 m3 m4 m5
    refine (markIa_own a _ (w1.alloc (.cells #[.int .i64 a.states, .int .i64 a.init, .slice y2 m2 e2, .slice y3 m3 e3, .slice y4 m4 e4, .slice y5 m5 e5] 27)).heap.size _ HO6.out BB6.out.size (Nat.le_trans HLE.out.1 (by decide)) (Nat.le_trans HLE.out.2.1 (by decide)) (Nat.le_trans HLE.out.2.2.1 (by decide)) (Nat.le_trans HLE.out.2.2.2 (by decide)) w4.heap.size _ _ G6.out HAW.out).mono ?_
    obtain ⟨M, hM⟩ : ∃ M, M = markSum a := ⟨_, rfl⟩
    have hM0 : 0 ≤ M := by rw [hM]; unfold markSum; omega
    rw [← hM]
    rintro e w7 ⟨rfl, ho7, hb7, G7⟩
    have HO7 := Lib.hid ho7
    have BB7 : Hid (Below (w1.alloc (.cells #[.int .i64 a.states, .int .i64 a.init, .slice y2 m2 e2, .slice y3 m3 e3, .slice y4 m4 e4, .slice y5 m5 e5] 27)).heap.size (w1.alloc (.cells #[.int .i64 a.states, .int .i64 a.init, .slice y2 m2 e2, .slice y3 m3 e3, .slice y4 m4 e4, .slice y5 m5 e5] 27)) w7) := BB6.out.trans hb7
    have HG7 := Lib.hid G7
    have HM := Lib.hid hM
    have hMd : decide (M < 0) = false := by simp; omega
    clear ho7 hb7 G7 hM HO6 BB6 G6
    have m0 := HG7.out.cell (j := 0) rfl
    have m1 := HG7.out.cell (j := 1) rfl
    have m2 := HG7.out.cell (j := 2) rfl
    have m3 := HG7.out.cell (j := 3) rfl
    have m4 := HG7.out.cell (j := 4) rfl
    have m5 := HG7.out.cell (j := 5) rfl
    go_wp2_with fail
    clear m0 m1 m2 m3 m4 m5
    refine (heldIa_own a _ _ HO7.out.row (Nat.le_trans HLE.out.1 (by decide)) (Nat.le_trans HLE.out.2.1 (by decide)) (Nat.le_trans HLE.out.2.2.1 (by decide)) (Nat.le_trans HLE.out.2.2.2 (by decide))).mono ?_
    rw [← HM.out]
    rintro e w10 ⟨rfl, hb⟩
    have HO10 := Lib.hid (HO7.out.below hb)
    have BB10 : Hid (Below (w1.alloc (.cells #[.int .i64 a.states, .int .i64 a.init, .slice y2 m2 e2, .slice y3 m3 e3, .slice y4 m4 e4, .slice y5 m5 e5] 27)).heap.size (w1.alloc (.cells #[.int .i64 a.states, .int .i64 a.init, .slice y2 m2 e2, .slice y3 m3 e3, .slice y4 m4 e4, .slice y5 m5 e5] 27)) w10) := BB7.out.trans (hb.mono BB7.out.size)
    have G10 := Lib.hid (HG7.out.below hb)
    have HE10 := Lib.hid (HE3.out.below BB10.out)
    clear hb HO7 BB7 HG7
    go_wp2_with fail
    refine (CI.out _ HE10.out).mono ?_
    rintro e w8 ⟨v, rfl, hown, hb, hless⟩
    obtain ⟨x2, x3, x4, x5, rfl, o2, o3, o4, o5, p2, p3, p4⟩ := hown
    obtain ⟨h2, f2, rfl⟩ := o2.form
    obtain ⟨h3, f3, rfl⟩ := o3.form
    obtain ⟨h4, f4, rfl⟩ := o4.form
    obtain ⟨h5, f5, rfl⟩ := o5.form
    have hown : IaOwn w8 w10.heap.size a (.agg #[.int .i64 a.states, .int .i64 a.init, .slice h2 a.ins.length f2, .slice h3 a.outs.length f3, .slice h4 a.hids.length f4, .slice h5 a.steps.length f5]) := ⟨_, _, _, _, rfl, o2, o3, o4, o5, p2, p3, p4⟩
    have hba : Below w8.heap.size w8 (w8.alloc (.cells #[.int .i64 a.states, .int .i64 a.init, .slice h2 a.ins.length f2, .slice h3 a.outs.length f3, .slice h4 a.hids.length f4, .slice h5 a.steps.length f5] 27)) := (Below.refl _ _).alloc (Nat.le_refl _) _
    have HH9 := Lib.hid (hown.below hba)
    have hb9 : Below w10.heap.size w10 (w8.alloc (.cells #[.int .i64 a.states, .int .i64 a.init, .slice h2 a.ins.length f2, .slice h3 a.outs.length f3, .slice h4 a.hids.length f4, .slice h5 a.steps.length f5] 27)) := hb.trans (hba.mono hb.size)
    have H9 : Hid (VarIs (w8.alloc (.cells #[.int .i64 a.states, .int .i64 a.init, .slice h2 a.ins.length f2, .slice h3 a.outs.length f3, .slice h4 a.hids.length f4, .slice h5 a.steps.length f5] 27)) w8.heap.size #[.int .i64 a.states, .int .i64 a.init, .slice h2 a.ins.length f2, .slice h3 a.outs.length f3, .slice h4 a.hids.length f4, .slice h5 a.steps.length f5] 27) := VarIs.new w8 _ _ rfl
    have BB9 : Hid (Below (w1.alloc (.cells #[.int .i64 a.states, .int .i64 a.init, .slice y2 m2 e2, .slice y3 m3 e3, .slice y4 m4 e4, .slice y5 m5 e5] 27)).heap.size (w1.alloc (.cells #[.int .i64 a.states, .int .i64 a.init, .slice y2 m2 e2, .slice y3 m3 e3, .slice y4 m4 e4, .slice y5 m5 e5] 27)) (w8.alloc (.cells #[.int .i64 a.states, .int .i64 a.init, .slice h2 a.ins.length f2, .slice h3 a.outs.length f3, .slice h4 a.hids.length f4, .slice h5 a.steps.length f5] 27))) := BB10.out.trans (hb9.mono BB10.out.size)
    have U9 := Lib.hid (U3.out.below BB9.out)
    have RS9 := Lib.hid (RS3.out.below BB9.out)
    have HO9 := Lib.hid (HO10.out.below hb9)
    have G9 := Lib.hid (G10.out.below hb9)
    clear hb hba hb9 hown o2 o3 o4 o5 p2 p3 p4 hless HO10 BB10 G10
    simp only
    have m0 := H9.out.cell (j := 0) rfl
    have m1 := H9.out.cell (j := 1) rfl
    have m2 := H9.out.cell (j := 2) rfl
    have m3 := H9.out.cell (j := 3) rfl
    have m4 := H9.out.cell (j := 4) rfl
    have m5 := H9.out.cell (j := 5) rfl
    have u0 := U9.out.cell (j := 0) rfl
    have u1 := U9.out.cell (j := 1) rfl
    have u2 := U9.out.cell (j := 2) rfl
    have u3 := U9.out.cell (j := 3) rfl
    have u4 := U9.out.cell (j := 4) rfl
    have u5 := U9.out.cell (j := 5) rfl
    go_wp2_with fail
    clear m0 m1 m2 m3 m4 m5 u0 u1 u2 u3 u4 u5
    refine (eqIa_any a a _ _ _ HH9.out.row RS9.out HFT.out HFT.out).mono ?_
    rintro e w11 ⟨rfl, hb⟩
    rw [sameB_refl]
    have HO11 := Lib.hid (HO9.out.below hb)
    have BB11 : Hid (Below (w1.alloc (.cells #[.int .i64 a.states, .int .i64 a.init, .slice y2 m2 e2, .slice y3 m3 e3, .slice y4 m4 e4, .slice y5 m5 e5] 27)).heap.size (w1.alloc (.cells #[.int .i64 a.states, .int .i64 a.init, .slice y2 m2 e2, .slice y3 m3 e3, .slice y4 m4 e4, .slice y5 m5 e5] 27)) w11) := BB9.out.trans (hb.mono BB9.out.size)
    have G11 := Lib.hid (G9.out.below hb)
    clear hb HO9 BB9 G9 U9 RS9 H9 HH9
    have m0 := G11.out.cell (j := 0) rfl
    have m1 := G11.out.cell (j := 1) rfl
    have m2 := G11.out.cell (j := 2) rfl
    have m3 := G11.out.cell (j := 3) rfl
    have m4 := G11.out.cell (j := 4) rfl
    have m5 := G11.out.cell (j := 5) rfl
    go_wp2_with fail
    clear m0 m1 m2 m3 m4 m5
    refine (heldIa_own a _ _ HO11.out.row (Nat.le_trans HLE.out.1 (by decide)) (Nat.le_trans HLE.out.2.1 (by decide)) (Nat.le_trans HLE.out.2.2.1 (by decide)) (Nat.le_trans HLE.out.2.2.2 (by decide))).mono ?_
    rw [← HM.out]
    rintro e w12 ⟨rfl, hb⟩
    have BB12 : Hid (Below (w1.alloc (.cells #[.int .i64 a.states, .int .i64 a.init, .slice y2 m2 e2, .slice y3 m3 e3, .slice y4 m4 e4, .slice y5 m5 e5] 27)).heap.size (w1.alloc (.cells #[.int .i64 a.states, .int .i64 a.init, .slice y2 m2 e2, .slice y3 m3 e3, .slice y4 m4 e4, .slice y5 m5 e5] 27)) w12) := BB11.out.trans (hb.mono BB11.out.size)
    clear hb
    go_wp2_with fail
    go_ret
    exact ⟨rfl, B3.out.trans (BB12.out.mono B3.out.size)⟩

end Go.Proofs.YtbppboophfojkaaGreatDoor
