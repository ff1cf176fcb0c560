/-
  The contracts of the program's allStates and Runs. Conditions: the lists have at most 2^20 elements.
-/
import Derived.Test.YtdbgjgeglgipiaaGreatImplHid
import Derived.Deep.MidRow
namespace Go.Proofs.YtdbgjgeglgipiaaGreat
open Go.RowKit

/-- Forty empty rows. -/
def zRows : Array Value := #[.slice none 0 0, .slice none 0 0, .slice none 0 0, .slice none 0 0, .slice none 0 0, .slice none 0 0, .slice none 0 0, .slice none 0 0, .slice none 0 0, .slice none 0 0, .slice none 0 0, .slice none 0 0, .slice none 0 0, .slice none 0 0, .slice none 0 0, .slice none 0 0, .slice none 0 0, .slice none 0 0, .slice none 0 0, .slice none 0 0, .slice none 0 0, .slice none 0 0, .slice none 0 0, .slice none 0 0, .slice none 0 0, .slice none 0 0, .slice none 0 0, .slice none 0 0, .slice none 0 0, .slice none 0 0, .slice none 0 0, .slice none 0 0, .slice none 0 0, .slice none 0 0, .slice none 0 0, .slice none 0 0, .slice none 0 0, .slice none 0 0, .slice none 0 0, .slice none 0 0]

/-- Two variables of two types are two. -/
theorem var_ne {W : World} {b d : Nat} {C E : Array Value} {t u : TypeId} (h : VarIs W b C t) (k : VarIs W d E u) (ht : t ≠ u) : b ≠ d := by
  rintro rfl
  have e := h.symm.trans k
  simp only [Option.some.injEq, Obj.cells.injEq] at e
  exact ht e.2.1

theorem own_var {W : World} {base size n A : Nat} {e t : TypeId} {v : Value} {xs : List Value} {C : Array Value} (h : W.ownsRow base e size v n xs) (hv : VarIs W A C t) (het : e ≠ t) : v.ownBlock ≠ some A := by
  intro e'
  rcases h.2 with ⟨rfl, _⟩ | ⟨g, cap, cur, rfl, _, hh, _⟩
  · cases e'
  · have e1 : g = A := by simpa [Value.ownBlock] using e'
    subst e1
    have h2 := hh.symm.trans hv
    simp only [Option.some.injEq, Obj.cells.injEq] at h2
    exact het h2.2.1

theorem RowsAt.keepVar {W W' : World} {base b : Nat} {C E : Array Value} {t : TypeId} {ss : List St} (h : RowsAt W base C ss) (hv : VarIs W b E t) (ht : 48 ≠ t) (hg : W.grownBy W' (some b)) : RowsAt W' base C ss :=
  ⟨h.1, fun s hs => by obtain ⟨a, c, e, o⟩ := h.2.1 s hs; exact ⟨a, c, e, o.keep hg (fun k hk he => own_var o hv ht (hk.trans he))⟩, h.2.2⟩

theorem HidAt.keepVar {W W' : World} {base b : Nat} {C E : Array Value} {t : TypeId} {hids : List Int} {ss : List St} (h : HidAt W base C hids ss) (hv : VarIs W b E t) (ht : 3 ≠ t) (hg : W.grownBy W' (some b)) : HidAt W' base C hids ss :=
  ⟨h.1, fun s hs => by obtain ⟨a, c, e, o⟩ := h.2.1 s hs; exact ⟨a, c, e, o.keep hg (fun k hk he => own_var o hv ht (hk.trans he))⟩, h.2.2⟩

theorem range_grown {W W' : World} {b q : Nat} {cs : List Value} (h : W.rangeAt b 0 cs) (hg : W.grownBy W' (some q)) (hne : b ≠ q) : W'.rangeAt b 0 cs := fun j v hv => hg.cell (h j v hv) (fun e => hne (Option.some.inj e))

theorem range_below {W W' : World} {b : Nat} {cs : List Value} (h : W.rangeAt b 0 cs) (hb : Below W.heap.size W W') (hlt : b < W.heap.size) : W'.rangeAt b 0 cs := fun j v hv => (hb.cell (p := ⟨b, 0 + j, none⟩) hlt).trans (h j v hv)

/-- What stands behind a region, however its operations came, is asked once. -/
theorem join_gen {ι : Type} {P : Program} {md : Region.Mode} {ops : Array Oper} {Q : Exit → Act → World → Prop} {S : World → Prop} {n : Nat} {listed : Array Bool} {a : Act} {w : World}
    (Fr : ι → Act) (Ok : ι → World → Prop) (h2 : ∀ i we, Ok i we → Q .normal (Fr i) we) (h1 : Hid (∀ i we, Ok i we → Q .normal (Fr i) we) → wpAnyH P md ops Q S n listed a w) : wpAnyH P md ops Q S n listed a w := h1 h2

set_option maxRecDepth 20000 in
set_option maxHeartbeats 1600000 in
theorem allStates_any (st it : Int) (v2 v3 v4 v5 : Value) (fa : Option Addr) (fn fc : Nat) (from_ : List Int) (w : World) (rf : Row w fa fn from_) (hfn : fn ≤ 1048576) :
    Calls Tryz.prog 123 #[.agg #[.int .i64 st, .int .i64 it, v2, v3, v4, v5], .slice fa fn fc] w fun e w' => e = .returned (.bool (from_.all fun x => btw x 0 (st - 1))) ∧ Below w.heap.size w w' := by
  have RF := Lib.hid rf
  clear rf
  obtain ⟨R, hR⟩ : ∃ r, r = from_.all fun x => btw x 0 (st - 1) := ⟨_, rfl⟩
  rw [← hR]
  have HR := Lib.hid hR
  clear hR
  have V0 := Lib.hid (VarIs.new w #[.int .i64 st, .int .i64 it, v2, v3, v4, v5] 31 rfl)
  have B0 : Hid (Below w.heap.size w (w.alloc (.cells #[.int .i64 st, .int .i64 it, v2, v3, v4, v5] 31))) := (Below.refl _ _).alloc (Nat.le_refl _) _
  go_enter Tryz.func123, Tryz.ntmps123
  go_wp2_with fail
  go_loopw [9] (fun iv wr => ∃ k : Nat, k ≤ fn ∧ iv = .int .i64 (k : Int) ∧ Hid ((from_.take k).all (fun x => btw x 0 (st - 1)) = true) ∧ Hid (Below w.heap.size w wr) ∧ Hid (VarIs wr w.heap.size #[.int .i64 st, .int .i64 it, v2, v3, v4, v5] 31)) (fun iv _ => fn - (intOf iv).toNat)
  case atStart => exact ⟨0, Nat.zero_le _, rfl, by simp [Hid], B0.out, V0.out⟩
  case round =>
    obtain ⟨k, hk, rfl, HS, HB, HV⟩ := hrel
    clear V0 B0
    by_cases hlt : k < fn
    · obtain ⟨b, off, rfl, hb, hcell⟩ := RF.out.2 (by omega)
      have hkx : k < from_.length := by rw [RF.out.1]; exact hlt
      obtain ⟨x, hx⟩ : ∃ x, x = from_[k] := ⟨_, rfl⟩
      have g0 : wr.cell? ⟨b, off + k, none⟩ = some (.int .i64 x) := by
        rw [HB.out.cell (p := ⟨b, off + k, none⟩) hb, hcell k hlt, getD_eq from_ k hkx, hx]
      obtain ⟨p, hp⟩ : ∃ p, p = btw x 0 (st - 1) := ⟨_, rfl⟩
      have CS : Hid (∀ W, Calls Tryz.prog 35 #[.agg #[.int .i64 st, .int .i64 it, v2, v3, v4, v5], .int .i64 x] W fun e w' => e = .returned (.bool p) ∧ Below W.heap.size W w') := fun W => by rw [hp]; exact isState_any st it x v2 v3 v4 v5 W
      have HN : Hid (p = true → (from_.take (k + 1)).all (fun x => btw x 0 (st - 1)) = true) := fun e => by
        rw [List.take_succ_eq_append_getElem hkx, List.all_append, HS.out, ← hx]
        simp [← hp, e]
      have HF : Hid (p = false → from_.all (fun x => btw x 0 (st - 1)) = false) := fun e => by
        rw [List.all_eq_false]
        exact ⟨x, by rw [hx]; exact List.getElem_mem hkx, by rw [← hp, e]; simp⟩
      clear hx hp hcell hkx
      have m0 := HV.out.cell (j := 0) rfl
      have m1 := HV.out.cell (j := 1) rfl
      have m2 := HV.out.cell (j := 2) rfl
      have m3 := HV.out.cell (j := 3) rfl
      have m4 := HV.out.cell (j := 4) rfl
      have m5 := HV.out.cell (j := 5) rfl
      go_wp2_with fail
      clear m0 m1 m2 m3 m4 m5 g0
      refine (CS.out _).mono ?_
      rintro e w2 ⟨rfl, hb2⟩
      have HB2 := Lib.hid (HB.out.trans (hb2.mono HB.out.size))
      have HV2 := Lib.hid (HV.out.below hb2)
      clear hb2
      cases p with
      | false =>
        go_wp2_with fail
        go_ret
        exact ⟨ret_bool (by rw [HR.out, HF.out (by simp)]), HB2.out⟩
      | true =>
        have HN2 := Lib.hid (HN.out (by simp))
        go_wp2_with fail
        go_roundw
        case rel => exact ⟨k + 1, by omega, by go_num, HN2.out, HB2.out, HV2.out⟩
        case measure => simp [intOf]; omega
    · have HE : Hid (R = true) := by
        have h1 := HS.out
        rw [List.take_of_length_le (by rw [RF.out.1]; omega)] at h1
        rw [HR.out]
        exact h1
      go_wp2_with fail
      go_ret
      exact ⟨ret_bool HE.out.symm, HB.out⟩

set_option maxRecDepth 20000 in
set_option maxHeartbeats 12800000 in
theorem implRuns_any (a : IaD) (v : Value) (fa : Option Addr) (fn fc : Nat) (from_ : List Int) (ta : Option Addr) (tn tc : Nat) (tr : List Int) (w : World) (h : IaRow w a v) (f2 : a.ins.length ≤ 1048576) (f3 : a.outs.length ≤ 1048576) (f4 : a.hids.length ≤ 1048576) (f5 : a.steps.length ≤ 1048576) (rf : Row w fa fn from_) (hfn : fn ≤ 1048576) (rt : Row w ta tn tr) (htn : tn ≤ 1048576) :
    Calls Tryz.prog 98 #[v, .slice fa fn fc, .slice ta tn tc] w (RowRes w w.heap.size (if iaOkB a && from_.all (stateB a) then runsOf a from_ tr else [])) := by
  have CO : Hid (∀ W, Below w.heap.size w W → Calls Tryz.prog 69 #[v] W fun e w' => e = .returned (.bool (iaOkB a)) ∧ Below W.heap.size W w') := fun W hW => implIaOk_any a v W (h.below hW) f2 f3 f4 f5
  obtain ⟨q, hq⟩ : ∃ q, q = iaOkB a := ⟨_, rfl⟩
  obtain ⟨q2, hq2⟩ : ∃ q, q = from_.all (stateB a) := ⟨_, rfl⟩
  obtain ⟨L, hL⟩ : ∃ L, L = if iaOkB a && from_.all (stateB a) then runsOf a from_ tr else [] := ⟨_, rfl⟩
  rw [← hL]
  rw [← hq, ← hq2] at hL
  rw [← hq] at CO
  have HL := Lib.hid hL
  have HQ := Lib.hid hq
  have HQ2 := Lib.hid hq2
  have RF := Lib.hid rf
  have RT := Lib.hid rt
  clear hL hq hq2 rf rt
  obtain ⟨a2, n2, c2, a3, n3, c3, a4, n4, c4, a5, n5, c5, rfl, r2, r3, r4, r5⟩ := h
  obtain ⟨st, it, ins, outs, hids, steps⟩ := a
  simp only at r2 r3 r4 r5 f2 f3 f4 f5
  have hn4 : n4 ≤ 1048576 := by have := r4.1; omega
  have R4 := Lib.hid r4
  have R5 := Lib.hid r5
  clear r2 r3 r4 r5 f2 f3 f4 f5
  have B0 : Hid (∀ o, Below w.heap.size w (w.alloc o)) := fun o => (Below.refl _ _).alloc (Nat.le_refl _) _
  have V0 := Lib.hid (VarIs.new w #[.int .i64 st, .int .i64 it, .slice a2 n2 c2, .slice a3 n3 c3, .slice a4 n4 c4, .slice a5 n5 c5] 31 rfl)
  go_enter Tryz.func98, Tryz.ntmps98
  go_wp2_with fail
  refine (CO.out _ (B0.out _)).mono ?_
  rintro e w1 ⟨rfl, hb⟩
  have B1 : Hid (Below w.heap.size w w1) := (B0.out _).trans (hb.mono (B0.out _).size)
  have V1 := Lib.hid (V0.out.below hb)
  clear hb V0 B0 CO
  cases q with
  | false =>
    go_wp2_with fail
    go_ret
    obtain rfl : L = [] := HL.out
    exact ⟨_, rfl, World.ownsRow_nil _ _ _ _, B1.out⟩
  | true =>
    have m0 := V1.out.cell (j := 0) rfl
    have m1 := V1.out.cell (j := 1) rfl
    have m2 := V1.out.cell (j := 2) rfl
    have m3 := V1.out.cell (j := 3) rfl
    have m4 := V1.out.cell (j := 4) rfl
    have m5 := V1.out.cell (j := 5) rfl
    go_wp2_with fail
    clear m0 m1 m2 m3 m4 m5
    refine (allStates_any st it _ _ _ _ fa fn fc from_ _ (RF.out.below B1.out) hfn).mono ?_
    have HQ3 : Hid ((from_.all fun x => btw x 0 (st - 1)) = q2) := HQ2.out.symm
    rw [HQ3.out]
    rintro e w2 ⟨rfl, hb⟩
    have B2 : Hid (Below w.heap.size w w2) := B1.out.trans (hb.mono B1.out.size)
    have V2 := Lib.hid (V1.out.below hb)
    clear hb V1 B1
    cases q2 with
    | false =>
      go_wp2_with fail
      go_ret
      obtain rfl : L = [] := HL.out
      exact ⟨_, rfl, World.ownsRow_nil _ _ _ _, B2.out⟩
    | true =>
      have HALL : Hid (∀ x ∈ from_, stateB ⟨st, it, ins, outs, hids, steps⟩ x = true) := List.all_eq_true.1 HQ2.out.symm
      have HLR : Hid (L = runsOf ⟨st, it, ins, outs, hids, steps⟩ from_ tr) := HL.out
      have HN5 : Hid (n5 ≤ 400) := by
        have h1 := iaOk_len HQ.out.symm
        have h2 := R5.out.1
        unfold Hid
        rw [← h2]
        exact h1
      have HLOW := Lib.hid (iaOk_low HQ.out.symm)
      have KS : Hid (∀ W, Below w2.heap.size w2 W → W.cell? ⟨w.heap.size, 0, none⟩ = some (.int .i64 st) ∧ W.cell? ⟨w.heap.size, 1, none⟩ = some (.int .i64 it) ∧ W.cell? ⟨w.heap.size, 2, none⟩ = some (.slice a2 n2 c2) ∧ W.cell? ⟨w.heap.size, 3, none⟩ = some (.slice a3 n3 c3) ∧ W.cell? ⟨w.heap.size, 4, none⟩ = some (.slice a4 n4 c4) ∧ W.cell? ⟨w.heap.size, 5, none⟩ = some (.slice a5 n5 c5)) := fun W hW => by
        have hv := V2.out.below hW
        exact ⟨hv.cell rfl, hv.cell rfl, hv.cell rfl, hv.cell rfl, hv.cell rfl, hv.cell rfl⟩
      have B2D : Hid (Below w2.heap.size w2 w2.drew) := (Below.refl _ _).drew
      have S0 : Below w2.heap.size w2 w2.drew ∧ w2.drew.cell? ⟨w.heap.size, 0, none⟩ = some (.int .i64 st) ∧ w2.drew.cell? ⟨w.heap.size, 1, none⟩ = some (.int .i64 it) ∧ w2.drew.cell? ⟨w.heap.size, 2, none⟩ = some (.slice a2 n2 c2) ∧ w2.drew.cell? ⟨w.heap.size, 3, none⟩ = some (.slice a3 n3 c3) ∧ w2.drew.cell? ⟨w.heap.size, 4, none⟩ = some (.slice a4 n4 c4) ∧ w2.drew.cell? ⟨w.heap.size, 5, none⟩ = some (.slice a5 n5 c5) := ⟨B2D.out, KS.out _ B2D.out⟩
      have R4' := Lib.hid (R4.out.below B2.out)
      have R5' := Lib.hid (R5.out.below B2.out)
      have RF' := Lib.hid (RF.out.below B2.out)
      have RT' := Lib.hid (RT.out.below B2.out)
      clear R4 R5 RF RT HL
      have R4 := R4'
      have R5 := R5'
      have RF := RF'
      have RT := RT'
      clear R4' R5' RF' RT'
      go_wp2_with fail
      refine wp_region_held_drew (S := fun w' => Below w2.heap.size w2 w' ∧ w'.cell? ⟨w.heap.size, 0, none⟩ = some (.int .i64 st) ∧ w'.cell? ⟨w.heap.size, 1, none⟩ = some (.int .i64 it) ∧ w'.cell? ⟨w.heap.size, 2, none⟩ = some (.slice a2 n2 c2) ∧ w'.cell? ⟨w.heap.size, 3, none⟩ = some (.slice a3 n3 c3) ∧ w'.cell? ⟨w.heap.size, 4, none⟩ = some (.slice a4 n4 c4) ∧ w'.cell? ⟨w.heap.size, 5, none⟩ = some (.slice a5 n5 c5)) (by kernel_rfl) S0 (fun hHeld => ?_)
      change wpAnyH _ _ _ _ _ 8 (Array.replicate 8 false) _ _
      refine take_op 0 21 (.agg #[.int .i64 st, .int .i64 it, .slice a2 n2 c2, .slice a3 n3 c3, .slice a4 n4 c4, .slice a5 n5 c5]) (fuel := 7) rfl rfl (by kernel_rfl) (by kernel_rfl) (by kernel_rfl) (fun _ _ _ h => h) (by rfl) (fun w hSw => by go_simp) hHeld ?_
      simp only [Act.put, List.setIfInBounds_toArray, List.set_cons_zero, List.set_cons_succ]
      refine take_op 2 23 (.agg #[.int .i64 st, .int .i64 it, .slice a2 n2 c2, .slice a3 n3 c3, .slice a4 n4 c4, .slice a5 n5 c5]) (fuel := 6) rfl rfl (by kernel_rfl) (by kernel_rfl) (by kernel_rfl) (fun _ _ _ h => h) (by rfl) (fun w hSw => by go_simp) hHeld ?_
      simp only [Act.put, List.setIfInBounds_toArray, List.set_cons_zero, List.set_cons_succ]
      refine join_gen (ι := Nat × Nat × Array Value × Array Value) (fun i => ⟨#[.agg #[.int .i64 st, .int .i64 it, .slice a2 n2 c2, .slice a3 n3 c3, .slice a4 n4 c4, .slice a5 n5 c5], .slice fa fn fc, .slice ta tn tc, .pointer (some ⟨w.heap.size, 0, none⟩), undef, undef, .slice none 0 0, .pointer (some ⟨i.1, 0, none⟩), .pointer (some ⟨i.2.1, 0, none⟩), undef, undef, undef, .agg #[.int .i64 st, .int .i64 it, .slice a2 n2 c2, .slice a3 n3 c3, .slice a4 n4 c4, .slice a5 n5 c5], .bool true, .bool false, .bool false, .agg #[.int .i64 st, .int .i64 it, .slice a2 n2 c2, .slice a3 n3 c3, .slice a4 n4 c4, .slice a5 n5 c5], .slice fa fn fc, .bool true, .bool false, .bool false, .agg #[.int .i64 st, .int .i64 it, .slice a2 n2 c2, .slice a3 n3 c3, .slice a4 n4 c4, .slice a5 n5 c5], .agg i.2.2.1, .agg #[.int .i64 st, .int .i64 it, .slice a2 n2 c2, .slice a3 n3 c3, .slice a4 n4 c4, .slice a5 n5 c5], .agg i.2.2.2, undef, undef, undef, undef, undef, undef, undef, undef, undef, undef, undef, undef, undef, undef, undef, undef, undef, undef, undef, undef, undef], []⟩) (fun i we => Below w2.heap.size w2 we ∧ we.rangeAt i.1 0 i.2.2.1.toList ∧ i.1 < we.heap.size ∧ we.rangeAt i.2.1 0 i.2.2.2.toList ∧ i.2.1 < we.heap.size ∧ (∃ b, RowsAt we b i.2.2.1 steps) ∧ ∃ b, HidAt we b i.2.2.2 hids steps) ?_ (fun REST => ?_)
      · rintro ⟨b7, b8, CR, CH⟩ we ⟨hB, rg7, lt7, rg8, lt8, ⟨bR, hR⟩, ⟨bH, hH⟩⟩
        simp only at rg7 lt7 rg8 lt8 hR hH ⊢
        clear hHeld S0
        have BE := Lib.hid hB
        have RG7 := Lib.hid rg7
        have RG8 := Lib.hid rg8
        have HR := Lib.hid hR
        have HH := Lib.hid hH
        have HLCR : Hid (CR.toList.length = 40) := by have := hR.1; simpa [Hid] using this
        have HLCH : Hid (CH.toList.length = 40) := by have := hH.1; simpa [Hid] using this
        have BWE : Hid (Below w.heap.size w we) := B2.out.trans (hB.mono B2.out.size)
        clear hB rg7 rg8 hR hH
        go_wp2_with (refine wpList_load_mid rfl _ _ rfl b8 0 rfl CH.toList _ RG8.out Tryz.underlying143 rfl (by rw [HLCH.out]; kernel_rfl) ?_)
        refine (unseenFrom_any ⟨st, it, ins, outs, hids, steps⟩ HQ.out.symm fa fn fc from_ bH CH _ HALL.out (RF.out.below BE.out) hfn HH.out).mono ?_
        obtain ⟨N0, hN0⟩ : ∃ l, l = alongOf hids steps from_ := ⟨_, rfl⟩
        simp only
        rw [← hN0]
        have HN0 := Lib.hid hN0
        clear hN0
        rintro e w3 ⟨v3, rfl, ho3, hb3⟩
        have B3 := Lib.hid hb3
        have O3 := Lib.hid (ho3.mono (base := w.heap.size) BWE.out.size)
        clear ho3 hb3
        go_wp2_with fail
        go_loopw [9, 30] (fun av iv wr => ∃ (k len : Nat) (v0 : Value) (T : List Int), k ≤ tn ∧ v0 = av ∧ iv = .int .i64 (k : Int) ∧ Hid (Owns wr w.heap.size v0 len T) ∧ Hid (T = runOf ⟨st, it, ins, outs, hids, steps⟩ (alongOf hids steps from_) (tr.take k)) ∧ Hid (Below we.heap.size we wr)) (fun _ iv _ => tn - (intOf iv).toNat)
        case atStart => exact ⟨0, N0.length, v3, N0, Nat.zero_le _, rfl, rfl, O3.out, HN0.out, B3.out⟩
        case round =>
          obtain ⟨k, len, v0, T, hk, rfl, rfl, OT, HT, HB⟩ := hrel
          clear O3 B3 HN0
          obtain ⟨av, cv, rfl⟩ := OT.out.form
          have BW : Hid (Below w.heap.size w wr) := BWE.out.trans (HB.out.mono BWE.out.size)
          have hws := BW.out.size
          have hlen : len ≤ 40 := by
            have h2 : (runOf ⟨st, it, ins, outs, hids, steps⟩ (alongOf hids steps from_) (tr.take k)).length ≤ 40 := runOf_low (a := ⟨st, it, ins, outs, hids, steps⟩) HQ.out.symm HALL.out (tr.take k)
            rw [← HT.out, OT.out.length] at h2
            exact h2
          by_cases hlt : k < tn
          · obtain ⟨bt, ot, rfl, hbt, hcell⟩ := RT.out.2 (by omega)
            have hkx : k < tr.length := by rw [RT.out.1]; exact hlt
            obtain ⟨act, hact⟩ : ∃ x, x = tr[k] := ⟨_, rfl⟩
            have g0 : wr.cell? ⟨bt, ot + k, none⟩ = some (.int .i64 act) := by
              rw [(BE.out.trans (HB.out.mono BE.out.size)).cell (p := ⟨bt, ot + k, none⟩) hbt, hcell k hlt, getD_eq tr k hkx, hact]
            have HCLO : Hid (∀ x ∈ T, ∀ y ∈ closeOf ⟨st, it, ins, outs, hids, steps⟩ x, y ∈ T) := by
              rw [HT.out]
              exact runOf_closed (a := ⟨st, it, ins, outs, hids, steps⟩) (tr.take k)
            have HLOWT : Hid (∀ x ∈ T, 0 ≤ x ∧ x < 40) := fun x hx => by
              rw [HT.out] at hx
              have h1 := runOf_states (a := ⟨st, it, ins, outs, hids, steps⟩) HQ.out.symm HALL.out (tr.take k) x hx
              have h2 := iaOk_states HQ.out.symm
              simp only [stateB, btw, Bool.and_eq_true, decide_eq_true_eq] at h1 h2
              omega
            by_cases h0 : len = 0
            · have hE : Hid (L = []) := by
                have hT0 : T = [] := List.length_eq_zero_iff.1 (by rw [OT.out.length]; exact h0)
                unfold Hid
                rw [HLR.out]
                unfold runsOf
                have h1 : runOf ⟨st, it, ins, outs, hids, steps⟩ (alongOf hids steps from_) tr = runOf ⟨st, it, ins, outs, hids, steps⟩ (runOf ⟨st, it, ins, outs, hids, steps⟩ (alongOf hids steps from_) (tr.take k)) (tr.drop k) := by
                  rw [← runOf_append, List.take_append_drop]
                show runOf ⟨st, it, ins, outs, hids, steps⟩ (alongOf hids steps from_) tr = []
                rw [h1, ← HT.out, hT0, runOf_nil]
              subst h0
              clear hact hcell
              go_wp2_with fail
              go_ret
              obtain rfl := hE.out
              exact ⟨_, rfl, World.ownsRow_nil _ _ _ _, BW.out⟩
            · have hd0 : ((len : Int) == 0) = false := by simp; omega
              obtain ⟨NX, hNX⟩ : ∃ l, l = nextOf ⟨st, it, ins, outs, hids, steps⟩ T act := ⟨_, rfl⟩
              have HNE : Hid (ris ((T.map (rowL steps)).flatMap fun r => afterR r act) = NX) := by
                unfold Hid
                rw [hNX, tos_map]
                exact next_eq (a := ⟨st, it, ins, outs, hids, steps⟩) act HCLO.out
              have HT2 : Hid (alongOf hids steps NX = runOf ⟨st, it, ins, outs, hids, steps⟩ (alongOf hids steps from_) (tr.take (k + 1))) := by
                unfold Hid
                rw [List.take_succ_eq_append_getElem hkx]
                have := runOf_snoc ⟨st, it, ins, outs, hids, steps⟩ (alongOf hids steps from_) (tr.take k) tr[k]
                rw [this, ← HT.out, ← hact, hNX]
              have HSX : Hid (∀ x ∈ NX, stateB ⟨st, it, ins, outs, hids, steps⟩ x = true) := by rw [hNX]; exact next_states HQ.out.symm
              have hnx2 : NX.length ≤ 40 := by rw [hNX]; exact next_low HQ.out.symm T act
              have HSH : Hid (∀ r ∈ T.map (rowL steps), r.length ≤ 400) := rows_short (a := ⟨st, it, ins, outs, hids, steps⟩) (fun _ => HQ.out.symm)
              have CRA : Hid (∀ W, Below wr.heap.size wr W → Calls Tryz.prog 99 #[.agg CR.toList.toArray, .slice av len cv] W fun e w' => ∃ ad c, e = .returned (.slice ad len c) ∧ RowRows w' ad len (T.map (rowL steps)) ∧ Below W.heap.size W w') := fun W hW => by
                have hb9 : Below we.heap.size we W := HB.out.trans (hW.mono HB.out.size)
                have := rowsAt_any bR CR steps av len cv T W (HR.out.below hb9) (OT.out.below hW).row.2.2.2 (by omega) HLOWT.out
                simpa using this
              have CUF : Hid (∀ W ad c, Below wr.heap.size wr W → Row W ad (ris ((T.map (rowL steps)).flatMap fun r => afterR r act)).length (ris ((T.map (rowL steps)).flatMap fun r => afterR r act)) → Calls Tryz.prog 125 #[.agg CH.toList.toArray, .slice ad (ris ((T.map (rowL steps)).flatMap fun r => afterR r act)).length c] W (RowRes W W.heap.size (alongOf hids steps NX))) := fun W ad c hW hr => by
                rw [HNE.out] at hr ⊢
                have hb9 : Below we.heap.size we W := HB.out.trans (hW.mono HB.out.size)
                have := unseenFrom_any ⟨st, it, ins, outs, hids, steps⟩ HQ.out.symm ad NX.length c NX bH CH W HSX.out hr (by omega) (HH.out.below hb9)
                simpa using this
              have KS10 : Hid (∀ W, Below wr.heap.size wr W → W.rangeAt b7 0 CR.toList ∧ W.rangeAt b8 0 CH.toList) := fun W hW => ⟨range_below RG7.out (HB.out.trans (hW.mono HB.out.size)) lt7, range_below RG8.out (HB.out.trans (hW.mono HB.out.size)) lt8⟩
              have S0 : Below wr.heap.size wr wr.drew ∧ wr.drew.rangeAt b7 0 CR.toList ∧ wr.drew.rangeAt b8 0 CH.toList := ⟨(Below.refl _ _).drew, KS10.out _ (Below.refl _ _).drew⟩
              clear hact hcell hkx hNX
              go_wp2_with fail
              refine wp_region_held_drew (S := fun w' => Below wr.heap.size wr w' ∧ w'.rangeAt b7 0 CR.toList ∧ w'.rangeAt b8 0 CH.toList) (by kernel_rfl) S0 (fun hHeld => ?_)
              change wpAnyH _ _ _ _ _ 8 (Array.replicate 8 false) _ _
              refine take_yields 0 37 (.agg CH.toList.toArray) (fuel := 7) rfl rfl (by kernel_rfl) (by kernel_rfl) (by kernel_rfl) (fun _ _ _ h => h) (yieldsIf_load_mid (by rfl) _ _ rfl b8 0 rfl CH.toList _ (fun w hw => hw.2.2) Tryz.underlying143 rfl (by rw [HLCH.out]; kernel_rfl)) hHeld ?_
              simp only [Act.put, List.setIfInBounds_toArray, List.set_cons_zero, List.set_cons_succ]
              refine take_yields 1 38 (.agg CR.toList.toArray) (fuel := 6) rfl rfl (by kernel_rfl) (by kernel_rfl) (by kernel_rfl) (fun _ _ _ h => h) (yieldsIf_load_mid (by rfl) _ _ rfl b7 0 rfl CR.toList _ (fun w hw => hw.2.1) Tryz.underlying115 rfl (by rw [HLCR.out]; kernel_rfl)) hHeld ?_
              simp only [Act.put, List.setIfInBounds_toArray, List.set_cons_zero, List.set_cons_succ]
              refine take_op 2 39 (.slice av len cv) (fuel := 5) rfl rfl (by kernel_rfl) (by kernel_rfl) (by kernel_rfl) (fun _ _ _ h => h) (by rfl) (fun w hSw => by go_simp) hHeld ?_
              simp only [Act.put, List.setIfInBounds_toArray, List.set_cons_zero, List.set_cons_succ]
              refine take_op 4 41 (.int .i64 act) (fuel := 4) rfl rfl (by kernel_rfl) (by kernel_rfl) (by kernel_rfl) (fun _ _ _ h => h) (by rfl) (fun w hSw => by go_simp) hHeld ?_
              simp only [Act.put, List.setIfInBounds_toArray, List.set_cons_zero, List.set_cons_succ]
              refine wpAnyH_ready (rs := [3]) (fuel := 3) (by kernel_rfl) (by simp) ?_
              refine AllReadyH.cons rfl (fun K hK => ?_) AllReadyH.nil
              go_simp
              refine (CRA.out _ S0.1).mono ?_
              rintro e w5 ⟨a5x, c5x, rfl, hr5, hb5⟩
              have BS5 := Lib.hid (S0.1.trans (hb5.mono S0.1.size))
              have RR5 := Lib.hid hr5
              clear hr5 hb5
              go_wp2_with fail
              refine hK.out _ _ ⟨BS5.out, KS10.out _ BS5.out⟩ (fun hHeld => ?_)
              clear hK K
              refine wpAnyH_ready (rs := [5]) (fuel := 2) (by kernel_rfl) (by simp) ?_
              refine AllReadyH.cons rfl (fun K hK => ?_) AllReadyH.nil
              go_simp
              refine (tosOfRows_any a5x len c5x _ act _ RR5.out (by omega) HSH.out).mono ?_
              rintro e w6 ⟨v6, rfl, ho6, hb6⟩
              have BS6 := Lib.hid (BS5.out.trans (hb6.mono BS5.out.size))
              obtain ⟨a6x, c6x, rfl⟩ := ho6.form
              have RT6 := Lib.hid ho6.row.2.2.2
              clear ho6 hb6
              go_wp2_with fail
              refine hK.out _ _ ⟨BS6.out, KS10.out _ BS6.out⟩ (fun hHeld => ?_)
              clear hK K
              refine wpAnyH_ready (rs := [6]) (fuel := 1) (by kernel_rfl) (by simp) ?_
              refine AllReadyH.cons rfl (fun K hK => ?_) AllReadyH.nil
              go_simp
              refine (CUF.out _ _ _ BS6.out RT6.out).mono ?_
              rintro e w7 ⟨v7, rfl, ho7, hb7⟩
              have BS7 := Lib.hid (BS6.out.trans (hb7.mono BS6.out.size))
              have O7 := Lib.hid (ho7.mono (base := w.heap.size) (Nat.le_trans hws BS6.out.size))
              clear ho7 hb7
              go_wp2_with fail
              refine hK.out _ _ ⟨BS7.out, KS10.out _ BS7.out⟩ (fun hHeld => ?_)
              clear hK K
              refine take_op 7 9 (v7) (fuel := 0) rfl rfl (by kernel_rfl) (by kernel_rfl) (by kernel_rfl) (fun _ _ _ h => h) (by rfl) (fun w hSw => by go_simp) hHeld ?_
              simp only [Act.put, List.setIfInBounds_toArray, List.set_cons_zero, List.set_cons_succ]
              refine wpAnyH_done (by kernel_rfl) ?_ _
              clear hHeld S0
              have BR := Lib.hid (HB.out.trans (BS7.out.mono HB.out.size))
              go_wp2_with fail
              go_roundw
              case rel => exact ⟨k + 1, _, v7, alongOf hids steps NX, by omega, rfl, by go_num, O7.out, HT2.out, BR.out⟩
              case measure => simp [intOf]; omega
          · have HE : Hid (T = L) := by
              rw [HLR.out]
              have h1 := HT.out
              rw [List.take_of_length_le (by rw [RT.out.1]; omega)] at h1
              exact h1
            go_wp2_with fail
            go_ret
            have e := OT.out.length
            rw [← HE.out]
            subst e
            exact ⟨_, rfl, OT.out, BW.out⟩
      refine wpAnyH_ready (rs := [1, 4, 5]) (fuel := 5) (by kernel_rfl) (by simp) ?_
      refine AllReadyH.cons rfl (fun K hK => ?_) ?_
      · go_simp
        refine (rowsOf_any st it _ _ _ a5 n5 c5 steps _ (R5.out.below B2D.out) HN5.out HLOW.out).mono ?_
        rintro e wp1 ⟨CR1, rfl, hC, hb⟩
        have bb1 : Hid (Below w2.heap.size w2 wp1) := B2D.out.trans (hb.mono B2D.out.size)
        have rn1 := Lib.hid hC
        clear hb hC
        go_wp2_with fail
        refine hK.out _ _ ⟨bb1.out, KS.out _ bb1.out⟩ (fun hHeld => ?_)
        clear hK K
        refine wpAnyH_ready (rs := [3, 4, 5]) (fuel := 4) (by kernel_rfl) (by simp) ?_
        refine AllReadyH.cons rfl (fun K hK => ?_) ?_
        · go_simp
          refine (hiddenTosOf_any st it _ _ a4 n4 c4 hids a5 n5 c5 steps _ (R4.out.below bb1.out) hn4 (R5.out.below bb1.out) HN5.out HLOW.out).mono ?_
          rintro e wp2 ⟨CH2, rfl, hC, hb⟩
          have bb2 : Hid (Below w2.heap.size w2 wp2) := bb1.out.trans (hb.mono bb1.out.size)
          have rr2 : Hid (RowsAt wp2 _ CR1 steps) := rn1.out.below hb
          have hn2 := Lib.hid hC
          clear hb hC
          go_wp2_with fail
          refine hK.out _ _ ⟨bb2.out, KS.out _ bb2.out⟩ (fun hHeld => ?_)
          clear hK K
          refine wpAnyH_ready (rs := [4, 5]) (fuel := 3) (by kernel_rfl) (by simp) ?_
          refine AllReadyH.cons rfl (fun K hK => ?_) ?_
          · have bb3 : Hid (Below w2.heap.size w2 (wp2.alloc (.cells zRows 115))) := bb2.out.trans (((Below.refl _ wp2).alloc (Nat.le_refl _) (.cells zRows 115)).mono bb2.out.size)
            have rr3 : Hid (RowsAt (wp2.alloc (.cells zRows 115)) _ CR1 steps) := rr2.out.below ((Below.refl _ wp2).alloc (Nat.le_refl _) (.cells zRows 115))
            have hh3 : Hid (HidAt (wp2.alloc (.cells zRows 115)) _ CH2 hids steps) := hn2.out.below ((Below.refl _ wp2).alloc (Nat.le_refl _) (.cells zRows 115))
            have vn3 : Hid (VarIs (wp2.alloc (.cells zRows 115)) (wp2.heap.size) zRows 115) := VarIs.new wp2 zRows 115 (by simp)
            have ll3 : Hid (w2.heap.size ≤ wp2.heap.size) := by have h1 := bb2.out.size; (try simp at h1); unfold Hid; omega
            go_simp
            refine hK.out _ _ ⟨bb3.out, KS.out _ bb3.out⟩ (fun hHeld => ?_)
            clear hK K
            try simp only [Act.put, List.setIfInBounds_toArray, List.set_cons_zero, List.set_cons_succ]
            refine wpAnyH_ready (rs := [5]) (fuel := 2) (by kernel_rfl) (by simp) ?_
            refine AllReadyH.cons rfl (fun K hK => ?_) AllReadyH.nil
            have bb4 : Hid (Below w2.heap.size w2 ((wp2.alloc (.cells zRows 115)).alloc (.cells zRows 143))) := bb3.out.trans (((Below.refl _ (wp2.alloc (.cells zRows 115))).alloc (Nat.le_refl _) (.cells zRows 143)).mono bb3.out.size)
            have rr4 : Hid (RowsAt ((wp2.alloc (.cells zRows 115)).alloc (.cells zRows 143)) _ CR1 steps) := rr3.out.below ((Below.refl _ (wp2.alloc (.cells zRows 115))).alloc (Nat.le_refl _) (.cells zRows 143))
            have hh4 : Hid (HidAt ((wp2.alloc (.cells zRows 115)).alloc (.cells zRows 143)) _ CH2 hids steps) := hh3.out.below ((Below.refl _ (wp2.alloc (.cells zRows 115))).alloc (Nat.le_refl _) (.cells zRows 143))
            have va4 : Hid (VarIs ((wp2.alloc (.cells zRows 115)).alloc (.cells zRows 143)) (wp2.heap.size) zRows 115) := vn3.out.below ((Below.refl _ (wp2.alloc (.cells zRows 115))).alloc (Nat.le_refl _) (.cells zRows 143))
            have vn4 : Hid (VarIs ((wp2.alloc (.cells zRows 115)).alloc (.cells zRows 143)) (wp2.heap.size + 1) zRows 143) := VarIs.new (wp2.alloc (.cells zRows 115)) zRows 143 (by simp)
            have ll4 : Hid (w2.heap.size ≤ wp2.heap.size + 1) := by have h1 := bb3.out.size; (try simp at h1); unfold Hid; omega
            go_simp
            refine hK.out _ _ ⟨bb4.out, KS.out _ bb4.out⟩ (fun hHeld => ?_)
            clear hK K
            try simp only [Act.put, List.setIfInBounds_toArray, List.set_cons_zero, List.set_cons_succ]
            have lr : CR1.toList.length = 40 := by simpa using rr4.out.1
            have lh : CH2.toList.length = 40 := by simpa using hh4.out.1
            have HLR := Lib.hid lr
            have HLH := Lib.hid lh
            clear lr lh
            have ne78 : (wp2.heap.size) ≠ (wp2.heap.size + 1) := var_ne va4.out vn4.out (by decide)
            have t7 : Hid (((wp2.alloc (.cells zRows 115)).alloc (.cells zRows 143)).there (wp2.heap.size) 0 CR1.toList.toArray.size) := va4.out.there (by rw [List.size_toArray, HLR.out]; rfl)
            have g7 := Lib.hid (grown_setCells (wp2.heap.size) CR1.toList 0 ((wp2.alloc (.cells zRows 115)).alloc (.cells zRows 143)))
            have on7 : Hid (CR1.toList.toArray.all (·.oneCell') = true) := all_oneCell_toArray (fun u hu => rr4.out.one u (by simpa using hu))
            have on8 : Hid (CH2.toList.toArray.all (·.oneCell') = true) := all_oneCell_toArray (fun u hu => hh4.out.one u (by simpa using hu))
            have v8' := Lib.hid (vn4.out.grown g7.out (fun e => ne78 (Option.some.inj e).symm))
            have t8 : Hid ((((wp2.alloc (.cells zRows 115)).alloc (.cells zRows 143)).setCells (wp2.heap.size) 0 CR1.toList).there (wp2.heap.size + 1) 0 CH2.toList.toArray.size) := v8'.out.there (by rw [List.size_toArray, HLH.out]; rfl)
            have g8 := Lib.hid (grown_setCells (wp2.heap.size + 1) CH2.toList 0 (((wp2.alloc (.cells zRows 115)).alloc (.cells zRows 143)).setCells (wp2.heap.size) 0 CR1.toList))
            have rg7 : Hid ((((wp2.alloc (.cells zRows 115)).alloc (.cells zRows 143)).setCells (wp2.heap.size) 0 CR1.toList).rangeAt (wp2.heap.size) 0 CR1.toList) := World.rangeAt_setCells_same ((wp2.alloc (.cells zRows 115)).alloc (.cells zRows 143)) (wp2.heap.size) 0 CR1.toList (by simpa using t7.out)
            have rg8 : Hid (((((wp2.alloc (.cells zRows 115)).alloc (.cells zRows 143)).setCells (wp2.heap.size) 0 CR1.toList).setCells (wp2.heap.size + 1) 0 CH2.toList).rangeAt (wp2.heap.size + 1) 0 CH2.toList) := World.rangeAt_setCells_same (((wp2.alloc (.cells zRows 115)).alloc (.cells zRows 143)).setCells (wp2.heap.size) 0 CR1.toList) (wp2.heap.size + 1) 0 CH2.toList (by simpa using t8.out)
            have rg7' : Hid (((((wp2.alloc (.cells zRows 115)).alloc (.cells zRows 143)).setCells (wp2.heap.size) 0 CR1.toList).setCells (wp2.heap.size + 1) 0 CH2.toList).rangeAt (wp2.heap.size) 0 CR1.toList) := range_grown rg7.out g8.out ne78
            have B7 := Lib.hid (bb4.out.grown g7.out bb4.out.size (fun q hq => by have h1 := Option.some.inj hq; have h2 := ll3.out; omega))
            have B8 := Lib.hid (B7.out.grown g8.out B7.out.size (fun q hq => by have h1 := Option.some.inj hq; have h2 := ll4.out; omega))
            have r8 := Lib.hid ((rr4.out.keepVar va4.out (by decide) g7.out).keepVar v8'.out (by decide) g8.out)
            have h7 := hh4.out.keepVar va4.out (by decide) g7.out
            have h8 := Lib.hid (h7.keepVar v8'.out (by decide) g8.out)
            have lt7 : (wp2.heap.size) < ((((wp2.alloc (.cells zRows 115)).alloc (.cells zRows 143)).setCells (wp2.heap.size) 0 CR1.toList).setCells (wp2.heap.size + 1) 0 CH2.toList).heap.size := Nat.lt_of_lt_of_le (Nat.lt_of_lt_of_le va4.out.lt g7.out.size) g8.out.size
            have lt8 : (wp2.heap.size + 1) < ((((wp2.alloc (.cells zRows 115)).alloc (.cells zRows 143)).setCells (wp2.heap.size) 0 CR1.toList).setCells (wp2.heap.size + 1) 0 CH2.toList).heap.size := Nat.lt_of_lt_of_le v8'.out.lt g8.out.size
            refine wpAnyH_ready (rs := [6]) (fuel := 1) (by kernel_rfl) (by simp) ?_
            refine AllReadyH.cons rfl (fun K hK => ?_) AllReadyH.nil
            rw [if_pos (by rfl)]
            refine wp_store_mid _ _ _ rfl (wp2.heap.size) 0 CR1.toList.toArray rfl rfl t7.out (by rw [List.size_toArray, HLR.out]; kernel_rfl) on7.out ?_
            refine hK.out _ _ ⟨B7.out, KS.out _ B7.out⟩ (fun hHeld => ?_)
            clear hK K
            refine wpAnyH_ready (rs := [7]) (fuel := 0) (by kernel_rfl) (by simp) ?_
            refine AllReadyH.cons rfl (fun K hK => ?_) AllReadyH.nil
            rw [if_pos (by rfl)]
            refine wp_store_mid _ _ _ rfl (wp2.heap.size + 1) 0 CH2.toList.toArray rfl rfl t8.out (by rw [List.size_toArray, HLH.out]; kernel_rfl) on8.out ?_
            refine hK.out _ _ ⟨B8.out, KS.out _ B8.out⟩ (fun hHeld => ?_)
            clear hK K
            refine wpAnyH_done (by kernel_rfl) ?_ _
            exact REST.out (wp2.heap.size, wp2.heap.size + 1, CR1, CH2) _ ⟨B8.out, rg7'.out, lt7, rg8.out, lt8, ⟨_, r8.out⟩, ⟨_, h8.out⟩⟩
          refine AllReadyH.cons rfl (fun K hK => ?_) AllReadyH.nil
          have bb5 : Hid (Below w2.heap.size w2 (wp2.alloc (.cells zRows 143))) := bb2.out.trans (((Below.refl _ wp2).alloc (Nat.le_refl _) (.cells zRows 143)).mono bb2.out.size)
          have rr5 : Hid (RowsAt (wp2.alloc (.cells zRows 143)) _ CR1 steps) := rr2.out.below ((Below.refl _ wp2).alloc (Nat.le_refl _) (.cells zRows 143))
          have hh5 : Hid (HidAt (wp2.alloc (.cells zRows 143)) _ CH2 hids steps) := hn2.out.below ((Below.refl _ wp2).alloc (Nat.le_refl _) (.cells zRows 143))
          have vn5 : Hid (VarIs (wp2.alloc (.cells zRows 143)) (wp2.heap.size) zRows 143) := VarIs.new wp2 zRows 143 (by simp)
          have ll5 : Hid (w2.heap.size ≤ wp2.heap.size) := by have h1 := bb2.out.size; (try simp at h1); unfold Hid; omega
          go_simp
          refine hK.out _ _ ⟨bb5.out, KS.out _ bb5.out⟩ (fun hHeld => ?_)
          clear hK K
          try simp only [Act.put, List.setIfInBounds_toArray, List.set_cons_zero, List.set_cons_succ]
          refine wpAnyH_ready (rs := [4]) (fuel := 2) (by kernel_rfl) (by simp) ?_
          refine AllReadyH.cons rfl (fun K hK => ?_) AllReadyH.nil
          have bb6 : Hid (Below w2.heap.size w2 ((wp2.alloc (.cells zRows 143)).alloc (.cells zRows 115))) := bb5.out.trans (((Below.refl _ (wp2.alloc (.cells zRows 143))).alloc (Nat.le_refl _) (.cells zRows 115)).mono bb5.out.size)
          have rr6 : Hid (RowsAt ((wp2.alloc (.cells zRows 143)).alloc (.cells zRows 115)) _ CR1 steps) := rr5.out.below ((Below.refl _ (wp2.alloc (.cells zRows 143))).alloc (Nat.le_refl _) (.cells zRows 115))
          have hh6 : Hid (HidAt ((wp2.alloc (.cells zRows 143)).alloc (.cells zRows 115)) _ CH2 hids steps) := hh5.out.below ((Below.refl _ (wp2.alloc (.cells zRows 143))).alloc (Nat.le_refl _) (.cells zRows 115))
          have vb6 : Hid (VarIs ((wp2.alloc (.cells zRows 143)).alloc (.cells zRows 115)) (wp2.heap.size) zRows 143) := vn5.out.below ((Below.refl _ (wp2.alloc (.cells zRows 143))).alloc (Nat.le_refl _) (.cells zRows 115))
          have vn6 : Hid (VarIs ((wp2.alloc (.cells zRows 143)).alloc (.cells zRows 115)) (wp2.heap.size + 1) zRows 115) := VarIs.new (wp2.alloc (.cells zRows 143)) zRows 115 (by simp)
          have ll6 : Hid (w2.heap.size ≤ wp2.heap.size + 1) := by have h1 := bb5.out.size; (try simp at h1); unfold Hid; omega
          go_simp
          refine hK.out _ _ ⟨bb6.out, KS.out _ bb6.out⟩ (fun hHeld => ?_)
          clear hK K
          try simp only [Act.put, List.setIfInBounds_toArray, List.set_cons_zero, List.set_cons_succ]
          have lr : CR1.toList.length = 40 := by simpa using rr6.out.1
          have lh : CH2.toList.length = 40 := by simpa using hh6.out.1
          have HLR := Lib.hid lr
          have HLH := Lib.hid lh
          clear lr lh
          have ne78 : (wp2.heap.size + 1) ≠ (wp2.heap.size) := var_ne vn6.out vb6.out (by decide)
          have t7 : Hid (((wp2.alloc (.cells zRows 143)).alloc (.cells zRows 115)).there (wp2.heap.size + 1) 0 CR1.toList.toArray.size) := vn6.out.there (by rw [List.size_toArray, HLR.out]; rfl)
          have g7 := Lib.hid (grown_setCells (wp2.heap.size + 1) CR1.toList 0 ((wp2.alloc (.cells zRows 143)).alloc (.cells zRows 115)))
          have on7 : Hid (CR1.toList.toArray.all (·.oneCell') = true) := all_oneCell_toArray (fun u hu => rr6.out.one u (by simpa using hu))
          have on8 : Hid (CH2.toList.toArray.all (·.oneCell') = true) := all_oneCell_toArray (fun u hu => hh6.out.one u (by simpa using hu))
          have v8' := Lib.hid (vb6.out.grown g7.out (fun e => ne78 (Option.some.inj e).symm))
          have t8 : Hid ((((wp2.alloc (.cells zRows 143)).alloc (.cells zRows 115)).setCells (wp2.heap.size + 1) 0 CR1.toList).there (wp2.heap.size) 0 CH2.toList.toArray.size) := v8'.out.there (by rw [List.size_toArray, HLH.out]; rfl)
          have g8 := Lib.hid (grown_setCells (wp2.heap.size) CH2.toList 0 (((wp2.alloc (.cells zRows 143)).alloc (.cells zRows 115)).setCells (wp2.heap.size + 1) 0 CR1.toList))
          have rg7 : Hid ((((wp2.alloc (.cells zRows 143)).alloc (.cells zRows 115)).setCells (wp2.heap.size + 1) 0 CR1.toList).rangeAt (wp2.heap.size + 1) 0 CR1.toList) := World.rangeAt_setCells_same ((wp2.alloc (.cells zRows 143)).alloc (.cells zRows 115)) (wp2.heap.size + 1) 0 CR1.toList (by simpa using t7.out)
          have rg8 : Hid (((((wp2.alloc (.cells zRows 143)).alloc (.cells zRows 115)).setCells (wp2.heap.size + 1) 0 CR1.toList).setCells (wp2.heap.size) 0 CH2.toList).rangeAt (wp2.heap.size) 0 CH2.toList) := World.rangeAt_setCells_same (((wp2.alloc (.cells zRows 143)).alloc (.cells zRows 115)).setCells (wp2.heap.size + 1) 0 CR1.toList) (wp2.heap.size) 0 CH2.toList (by simpa using t8.out)
          have rg7' : Hid (((((wp2.alloc (.cells zRows 143)).alloc (.cells zRows 115)).setCells (wp2.heap.size + 1) 0 CR1.toList).setCells (wp2.heap.size) 0 CH2.toList).rangeAt (wp2.heap.size + 1) 0 CR1.toList) := range_grown rg7.out g8.out ne78
          have B7 := Lib.hid (bb6.out.grown g7.out bb6.out.size (fun q hq => by have h1 := Option.some.inj hq; have h2 := ll6.out; omega))
          have B8 := Lib.hid (B7.out.grown g8.out B7.out.size (fun q hq => by have h1 := Option.some.inj hq; have h2 := ll5.out; omega))
          have r8 := Lib.hid ((rr6.out.keepVar vn6.out (by decide) g7.out).keepVar v8'.out (by decide) g8.out)
          have h7 := hh6.out.keepVar vn6.out (by decide) g7.out
          have h8 := Lib.hid (h7.keepVar v8'.out (by decide) g8.out)
          have lt7 : (wp2.heap.size + 1) < ((((wp2.alloc (.cells zRows 143)).alloc (.cells zRows 115)).setCells (wp2.heap.size + 1) 0 CR1.toList).setCells (wp2.heap.size) 0 CH2.toList).heap.size := Nat.lt_of_lt_of_le (Nat.lt_of_lt_of_le vn6.out.lt g7.out.size) g8.out.size
          have lt8 : (wp2.heap.size) < ((((wp2.alloc (.cells zRows 143)).alloc (.cells zRows 115)).setCells (wp2.heap.size + 1) 0 CR1.toList).setCells (wp2.heap.size) 0 CH2.toList).heap.size := Nat.lt_of_lt_of_le v8'.out.lt g8.out.size
          refine wpAnyH_ready (rs := [6]) (fuel := 1) (by kernel_rfl) (by simp) ?_
          refine AllReadyH.cons rfl (fun K hK => ?_) AllReadyH.nil
          rw [if_pos (by rfl)]
          refine wp_store_mid _ _ _ rfl (wp2.heap.size + 1) 0 CR1.toList.toArray rfl rfl t7.out (by rw [List.size_toArray, HLR.out]; kernel_rfl) on7.out ?_
          refine hK.out _ _ ⟨B7.out, KS.out _ B7.out⟩ (fun hHeld => ?_)
          clear hK K
          refine wpAnyH_ready (rs := [7]) (fuel := 0) (by kernel_rfl) (by simp) ?_
          refine AllReadyH.cons rfl (fun K hK => ?_) AllReadyH.nil
          rw [if_pos (by rfl)]
          refine wp_store_mid _ _ _ rfl (wp2.heap.size) 0 CH2.toList.toArray rfl rfl t8.out (by rw [List.size_toArray, HLH.out]; kernel_rfl) on8.out ?_
          refine hK.out _ _ ⟨B8.out, KS.out _ B8.out⟩ (fun hHeld => ?_)
          clear hK K
          refine wpAnyH_done (by kernel_rfl) ?_ _
          exact REST.out (wp2.heap.size + 1, wp2.heap.size, CR1, CH2) _ ⟨B8.out, rg7'.out, lt7, rg8.out, lt8, ⟨_, r8.out⟩, ⟨_, h8.out⟩⟩
        refine AllReadyH.cons rfl (fun K hK => ?_) ?_
        · have bb7 : Hid (Below w2.heap.size w2 (wp1.alloc (.cells zRows 115))) := bb1.out.trans (((Below.refl _ wp1).alloc (Nat.le_refl _) (.cells zRows 115)).mono bb1.out.size)
          have rr7 : Hid (RowsAt (wp1.alloc (.cells zRows 115)) _ CR1 steps) := rn1.out.below ((Below.refl _ wp1).alloc (Nat.le_refl _) (.cells zRows 115))
          have vn7 : Hid (VarIs (wp1.alloc (.cells zRows 115)) (wp1.heap.size) zRows 115) := VarIs.new wp1 zRows 115 (by simp)
          have ll7 : Hid (w2.heap.size ≤ wp1.heap.size) := by have h1 := bb1.out.size; (try simp at h1); unfold Hid; omega
          go_simp
          refine hK.out _ _ ⟨bb7.out, KS.out _ bb7.out⟩ (fun hHeld => ?_)
          clear hK K
          try simp only [Act.put, List.setIfInBounds_toArray, List.set_cons_zero, List.set_cons_succ]
          refine wpAnyH_ready (rs := [3, 5]) (fuel := 3) (by kernel_rfl) (by simp) ?_
          refine AllReadyH.cons rfl (fun K hK => ?_) ?_
          · go_simp
            refine (hiddenTosOf_any st it _ _ a4 n4 c4 hids a5 n5 c5 steps _ (R4.out.below bb7.out) hn4 (R5.out.below bb7.out) HN5.out HLOW.out).mono ?_
            rintro e wp8 ⟨CH8, rfl, hC, hb⟩
            have bb8 : Hid (Below w2.heap.size w2 wp8) := bb7.out.trans (hb.mono bb7.out.size)
            have rr8 : Hid (RowsAt wp8 _ CR1 steps) := rr7.out.below hb
            have va8 : Hid (VarIs wp8 (wp1.heap.size) zRows 115) := vn7.out.below hb
            have hn8 := Lib.hid hC
            clear hb hC
            go_wp2_with fail
            refine hK.out _ _ ⟨bb8.out, KS.out _ bb8.out⟩ (fun hHeld => ?_)
            clear hK K
            refine wpAnyH_ready (rs := [5]) (fuel := 2) (by kernel_rfl) (by simp) ?_
            refine AllReadyH.cons rfl (fun K hK => ?_) AllReadyH.nil
            have bb9 : Hid (Below w2.heap.size w2 (wp8.alloc (.cells zRows 143))) := bb8.out.trans (((Below.refl _ wp8).alloc (Nat.le_refl _) (.cells zRows 143)).mono bb8.out.size)
            have rr9 : Hid (RowsAt (wp8.alloc (.cells zRows 143)) _ CR1 steps) := rr8.out.below ((Below.refl _ wp8).alloc (Nat.le_refl _) (.cells zRows 143))
            have hh9 : Hid (HidAt (wp8.alloc (.cells zRows 143)) _ CH8 hids steps) := hn8.out.below ((Below.refl _ wp8).alloc (Nat.le_refl _) (.cells zRows 143))
            have va9 : Hid (VarIs (wp8.alloc (.cells zRows 143)) (wp1.heap.size) zRows 115) := va8.out.below ((Below.refl _ wp8).alloc (Nat.le_refl _) (.cells zRows 143))
            have vn9 : Hid (VarIs (wp8.alloc (.cells zRows 143)) (wp8.heap.size) zRows 143) := VarIs.new wp8 zRows 143 (by simp)
            have ll9 : Hid (w2.heap.size ≤ wp8.heap.size) := by have h1 := bb8.out.size; (try simp at h1); unfold Hid; omega
            go_simp
            refine hK.out _ _ ⟨bb9.out, KS.out _ bb9.out⟩ (fun hHeld => ?_)
            clear hK K
            try simp only [Act.put, List.setIfInBounds_toArray, List.set_cons_zero, List.set_cons_succ]
            have lr : CR1.toList.length = 40 := by simpa using rr9.out.1
            have lh : CH8.toList.length = 40 := by simpa using hh9.out.1
            have HLR := Lib.hid lr
            have HLH := Lib.hid lh
            clear lr lh
            have ne78 : (wp1.heap.size) ≠ (wp8.heap.size) := var_ne va9.out vn9.out (by decide)
            have t7 : Hid ((wp8.alloc (.cells zRows 143)).there (wp1.heap.size) 0 CR1.toList.toArray.size) := va9.out.there (by rw [List.size_toArray, HLR.out]; rfl)
            have g7 := Lib.hid (grown_setCells (wp1.heap.size) CR1.toList 0 (wp8.alloc (.cells zRows 143)))
            have on7 : Hid (CR1.toList.toArray.all (·.oneCell') = true) := all_oneCell_toArray (fun u hu => rr9.out.one u (by simpa using hu))
            have on8 : Hid (CH8.toList.toArray.all (·.oneCell') = true) := all_oneCell_toArray (fun u hu => hh9.out.one u (by simpa using hu))
            have v8' := Lib.hid (vn9.out.grown g7.out (fun e => ne78 (Option.some.inj e).symm))
            have t8 : Hid (((wp8.alloc (.cells zRows 143)).setCells (wp1.heap.size) 0 CR1.toList).there (wp8.heap.size) 0 CH8.toList.toArray.size) := v8'.out.there (by rw [List.size_toArray, HLH.out]; rfl)
            have g8 := Lib.hid (grown_setCells (wp8.heap.size) CH8.toList 0 ((wp8.alloc (.cells zRows 143)).setCells (wp1.heap.size) 0 CR1.toList))
            have rg7 : Hid (((wp8.alloc (.cells zRows 143)).setCells (wp1.heap.size) 0 CR1.toList).rangeAt (wp1.heap.size) 0 CR1.toList) := World.rangeAt_setCells_same (wp8.alloc (.cells zRows 143)) (wp1.heap.size) 0 CR1.toList (by simpa using t7.out)
            have rg8 : Hid ((((wp8.alloc (.cells zRows 143)).setCells (wp1.heap.size) 0 CR1.toList).setCells (wp8.heap.size) 0 CH8.toList).rangeAt (wp8.heap.size) 0 CH8.toList) := World.rangeAt_setCells_same ((wp8.alloc (.cells zRows 143)).setCells (wp1.heap.size) 0 CR1.toList) (wp8.heap.size) 0 CH8.toList (by simpa using t8.out)
            have rg7' : Hid ((((wp8.alloc (.cells zRows 143)).setCells (wp1.heap.size) 0 CR1.toList).setCells (wp8.heap.size) 0 CH8.toList).rangeAt (wp1.heap.size) 0 CR1.toList) := range_grown rg7.out g8.out ne78
            have B7 := Lib.hid (bb9.out.grown g7.out bb9.out.size (fun q hq => by have h1 := Option.some.inj hq; have h2 := ll7.out; omega))
            have B8 := Lib.hid (B7.out.grown g8.out B7.out.size (fun q hq => by have h1 := Option.some.inj hq; have h2 := ll9.out; omega))
            have r8 := Lib.hid ((rr9.out.keepVar va9.out (by decide) g7.out).keepVar v8'.out (by decide) g8.out)
            have h7 := hh9.out.keepVar va9.out (by decide) g7.out
            have h8 := Lib.hid (h7.keepVar v8'.out (by decide) g8.out)
            have lt7 : (wp1.heap.size) < (((wp8.alloc (.cells zRows 143)).setCells (wp1.heap.size) 0 CR1.toList).setCells (wp8.heap.size) 0 CH8.toList).heap.size := Nat.lt_of_lt_of_le (Nat.lt_of_lt_of_le va9.out.lt g7.out.size) g8.out.size
            have lt8 : (wp8.heap.size) < (((wp8.alloc (.cells zRows 143)).setCells (wp1.heap.size) 0 CR1.toList).setCells (wp8.heap.size) 0 CH8.toList).heap.size := Nat.lt_of_lt_of_le v8'.out.lt g8.out.size
            refine wpAnyH_ready (rs := [6]) (fuel := 1) (by kernel_rfl) (by simp) ?_
            refine AllReadyH.cons rfl (fun K hK => ?_) AllReadyH.nil
            rw [if_pos (by rfl)]
            refine wp_store_mid _ _ _ rfl (wp1.heap.size) 0 CR1.toList.toArray rfl rfl t7.out (by rw [List.size_toArray, HLR.out]; kernel_rfl) on7.out ?_
            refine hK.out _ _ ⟨B7.out, KS.out _ B7.out⟩ (fun hHeld => ?_)
            clear hK K
            refine wpAnyH_ready (rs := [7]) (fuel := 0) (by kernel_rfl) (by simp) ?_
            refine AllReadyH.cons rfl (fun K hK => ?_) AllReadyH.nil
            rw [if_pos (by rfl)]
            refine wp_store_mid _ _ _ rfl (wp8.heap.size) 0 CH8.toList.toArray rfl rfl t8.out (by rw [List.size_toArray, HLH.out]; kernel_rfl) on8.out ?_
            refine hK.out _ _ ⟨B8.out, KS.out _ B8.out⟩ (fun hHeld => ?_)
            clear hK K
            refine wpAnyH_done (by kernel_rfl) ?_ _
            exact REST.out (wp1.heap.size, wp8.heap.size, CR1, CH8) _ ⟨B8.out, rg7'.out, lt7, rg8.out, lt8, ⟨_, r8.out⟩, ⟨_, h8.out⟩⟩
          refine AllReadyH.cons rfl (fun K hK => ?_) AllReadyH.nil
          have bb10 : Hid (Below w2.heap.size w2 ((wp1.alloc (.cells zRows 115)).alloc (.cells zRows 143))) := bb7.out.trans (((Below.refl _ (wp1.alloc (.cells zRows 115))).alloc (Nat.le_refl _) (.cells zRows 143)).mono bb7.out.size)
          have rr10 : Hid (RowsAt ((wp1.alloc (.cells zRows 115)).alloc (.cells zRows 143)) _ CR1 steps) := rr7.out.below ((Below.refl _ (wp1.alloc (.cells zRows 115))).alloc (Nat.le_refl _) (.cells zRows 143))
          have va10 : Hid (VarIs ((wp1.alloc (.cells zRows 115)).alloc (.cells zRows 143)) (wp1.heap.size) zRows 115) := vn7.out.below ((Below.refl _ (wp1.alloc (.cells zRows 115))).alloc (Nat.le_refl _) (.cells zRows 143))
          have vn10 : Hid (VarIs ((wp1.alloc (.cells zRows 115)).alloc (.cells zRows 143)) (wp1.heap.size + 1) zRows 143) := VarIs.new (wp1.alloc (.cells zRows 115)) zRows 143 (by simp)
          have ll10 : Hid (w2.heap.size ≤ wp1.heap.size + 1) := by have h1 := bb7.out.size; (try simp at h1); unfold Hid; omega
          go_simp
          refine hK.out _ _ ⟨bb10.out, KS.out _ bb10.out⟩ (fun hHeld => ?_)
          clear hK K
          try simp only [Act.put, List.setIfInBounds_toArray, List.set_cons_zero, List.set_cons_succ]
          refine wpAnyH_ready (rs := [3]) (fuel := 2) (by kernel_rfl) (by simp) ?_
          refine AllReadyH.cons rfl (fun K hK => ?_) AllReadyH.nil
          go_simp
          refine (hiddenTosOf_any st it _ _ a4 n4 c4 hids a5 n5 c5 steps _ (R4.out.below bb10.out) hn4 (R5.out.below bb10.out) HN5.out HLOW.out).mono ?_
          rintro e wp11 ⟨CH11, rfl, hC, hb⟩
          have bb11 : Hid (Below w2.heap.size w2 wp11) := bb10.out.trans (hb.mono bb10.out.size)
          have rr11 : Hid (RowsAt wp11 _ CR1 steps) := rr10.out.below hb
          have va11 : Hid (VarIs wp11 (wp1.heap.size) zRows 115) := va10.out.below hb
          have vb11 : Hid (VarIs wp11 (wp1.heap.size + 1) zRows 143) := vn10.out.below hb
          have hn11 := Lib.hid hC
          clear hb hC
          go_wp2_with fail
          refine hK.out _ _ ⟨bb11.out, KS.out _ bb11.out⟩ (fun hHeld => ?_)
          clear hK K
          have lr : CR1.toList.length = 40 := by simpa using rr11.out.1
          have lh : CH11.toList.length = 40 := by simpa using hn11.out.1
          have HLR := Lib.hid lr
          have HLH := Lib.hid lh
          clear lr lh
          have ne78 : (wp1.heap.size) ≠ (wp1.heap.size + 1) := var_ne va11.out vb11.out (by decide)
          have t7 : Hid (wp11.there (wp1.heap.size) 0 CR1.toList.toArray.size) := va11.out.there (by rw [List.size_toArray, HLR.out]; rfl)
          have g7 := Lib.hid (grown_setCells (wp1.heap.size) CR1.toList 0 wp11)
          have on7 : Hid (CR1.toList.toArray.all (·.oneCell') = true) := all_oneCell_toArray (fun u hu => rr11.out.one u (by simpa using hu))
          have on8 : Hid (CH11.toList.toArray.all (·.oneCell') = true) := all_oneCell_toArray (fun u hu => hn11.out.one u (by simpa using hu))
          have v8' := Lib.hid (vb11.out.grown g7.out (fun e => ne78 (Option.some.inj e).symm))
          have t8 : Hid ((wp11.setCells (wp1.heap.size) 0 CR1.toList).there (wp1.heap.size + 1) 0 CH11.toList.toArray.size) := v8'.out.there (by rw [List.size_toArray, HLH.out]; rfl)
          have g8 := Lib.hid (grown_setCells (wp1.heap.size + 1) CH11.toList 0 (wp11.setCells (wp1.heap.size) 0 CR1.toList))
          have rg7 : Hid ((wp11.setCells (wp1.heap.size) 0 CR1.toList).rangeAt (wp1.heap.size) 0 CR1.toList) := World.rangeAt_setCells_same wp11 (wp1.heap.size) 0 CR1.toList (by simpa using t7.out)
          have rg8 : Hid (((wp11.setCells (wp1.heap.size) 0 CR1.toList).setCells (wp1.heap.size + 1) 0 CH11.toList).rangeAt (wp1.heap.size + 1) 0 CH11.toList) := World.rangeAt_setCells_same (wp11.setCells (wp1.heap.size) 0 CR1.toList) (wp1.heap.size + 1) 0 CH11.toList (by simpa using t8.out)
          have rg7' : Hid (((wp11.setCells (wp1.heap.size) 0 CR1.toList).setCells (wp1.heap.size + 1) 0 CH11.toList).rangeAt (wp1.heap.size) 0 CR1.toList) := range_grown rg7.out g8.out ne78
          have B7 := Lib.hid (bb11.out.grown g7.out bb11.out.size (fun q hq => by have h1 := Option.some.inj hq; have h2 := ll7.out; omega))
          have B8 := Lib.hid (B7.out.grown g8.out B7.out.size (fun q hq => by have h1 := Option.some.inj hq; have h2 := ll10.out; omega))
          have r8 := Lib.hid ((rr11.out.keepVar va11.out (by decide) g7.out).keepVar v8'.out (by decide) g8.out)
          have h7 := hn11.out.keepVar va11.out (by decide) g7.out
          have h8 := Lib.hid (h7.keepVar v8'.out (by decide) g8.out)
          have lt7 : (wp1.heap.size) < ((wp11.setCells (wp1.heap.size) 0 CR1.toList).setCells (wp1.heap.size + 1) 0 CH11.toList).heap.size := Nat.lt_of_lt_of_le (Nat.lt_of_lt_of_le va11.out.lt g7.out.size) g8.out.size
          have lt8 : (wp1.heap.size + 1) < ((wp11.setCells (wp1.heap.size) 0 CR1.toList).setCells (wp1.heap.size + 1) 0 CH11.toList).heap.size := Nat.lt_of_lt_of_le v8'.out.lt g8.out.size
          refine wpAnyH_ready (rs := [6]) (fuel := 1) (by kernel_rfl) (by simp) ?_
          refine AllReadyH.cons rfl (fun K hK => ?_) AllReadyH.nil
          rw [if_pos (by rfl)]
          refine wp_store_mid _ _ _ rfl (wp1.heap.size) 0 CR1.toList.toArray rfl rfl t7.out (by rw [List.size_toArray, HLR.out]; kernel_rfl) on7.out ?_
          refine hK.out _ _ ⟨B7.out, KS.out _ B7.out⟩ (fun hHeld => ?_)
          clear hK K
          refine wpAnyH_ready (rs := [7]) (fuel := 0) (by kernel_rfl) (by simp) ?_
          refine AllReadyH.cons rfl (fun K hK => ?_) AllReadyH.nil
          rw [if_pos (by rfl)]
          refine wp_store_mid _ _ _ rfl (wp1.heap.size + 1) 0 CH11.toList.toArray rfl rfl t8.out (by rw [List.size_toArray, HLH.out]; kernel_rfl) on8.out ?_
          refine hK.out _ _ ⟨B8.out, KS.out _ B8.out⟩ (fun hHeld => ?_)
          clear hK K
          refine wpAnyH_done (by kernel_rfl) ?_ _
          exact REST.out (wp1.heap.size, wp1.heap.size + 1, CR1, CH11) _ ⟨B8.out, rg7'.out, lt7, rg8.out, lt8, ⟨_, r8.out⟩, ⟨_, h8.out⟩⟩
        refine AllReadyH.cons rfl (fun K hK => ?_) AllReadyH.nil
        have bb12 : Hid (Below w2.heap.size w2 (wp1.alloc (.cells zRows 143))) := bb1.out.trans (((Below.refl _ wp1).alloc (Nat.le_refl _) (.cells zRows 143)).mono bb1.out.size)
        have rr12 : Hid (RowsAt (wp1.alloc (.cells zRows 143)) _ CR1 steps) := rn1.out.below ((Below.refl _ wp1).alloc (Nat.le_refl _) (.cells zRows 143))
        have vn12 : Hid (VarIs (wp1.alloc (.cells zRows 143)) (wp1.heap.size) zRows 143) := VarIs.new wp1 zRows 143 (by simp)
        have ll12 : Hid (w2.heap.size ≤ wp1.heap.size) := by have h1 := bb1.out.size; (try simp at h1); unfold Hid; omega
        go_simp
        refine hK.out _ _ ⟨bb12.out, KS.out _ bb12.out⟩ (fun hHeld => ?_)
        clear hK K
        try simp only [Act.put, List.setIfInBounds_toArray, List.set_cons_zero, List.set_cons_succ]
        refine wpAnyH_ready (rs := [3, 4]) (fuel := 3) (by kernel_rfl) (by simp) ?_
        refine AllReadyH.cons rfl (fun K hK => ?_) ?_
        · go_simp
          refine (hiddenTosOf_any st it _ _ a4 n4 c4 hids a5 n5 c5 steps _ (R4.out.below bb12.out) hn4 (R5.out.below bb12.out) HN5.out HLOW.out).mono ?_
          rintro e wp13 ⟨CH13, rfl, hC, hb⟩
          have bb13 : Hid (Below w2.heap.size w2 wp13) := bb12.out.trans (hb.mono bb12.out.size)
          have rr13 : Hid (RowsAt wp13 _ CR1 steps) := rr12.out.below hb
          have vb13 : Hid (VarIs wp13 (wp1.heap.size) zRows 143) := vn12.out.below hb
          have hn13 := Lib.hid hC
          clear hb hC
          go_wp2_with fail
          refine hK.out _ _ ⟨bb13.out, KS.out _ bb13.out⟩ (fun hHeld => ?_)
          clear hK K
          refine wpAnyH_ready (rs := [4]) (fuel := 2) (by kernel_rfl) (by simp) ?_
          refine AllReadyH.cons rfl (fun K hK => ?_) AllReadyH.nil
          have bb14 : Hid (Below w2.heap.size w2 (wp13.alloc (.cells zRows 115))) := bb13.out.trans (((Below.refl _ wp13).alloc (Nat.le_refl _) (.cells zRows 115)).mono bb13.out.size)
          have rr14 : Hid (RowsAt (wp13.alloc (.cells zRows 115)) _ CR1 steps) := rr13.out.below ((Below.refl _ wp13).alloc (Nat.le_refl _) (.cells zRows 115))
          have hh14 : Hid (HidAt (wp13.alloc (.cells zRows 115)) _ CH13 hids steps) := hn13.out.below ((Below.refl _ wp13).alloc (Nat.le_refl _) (.cells zRows 115))
          have vb14 : Hid (VarIs (wp13.alloc (.cells zRows 115)) (wp1.heap.size) zRows 143) := vb13.out.below ((Below.refl _ wp13).alloc (Nat.le_refl _) (.cells zRows 115))
          have vn14 : Hid (VarIs (wp13.alloc (.cells zRows 115)) (wp13.heap.size) zRows 115) := VarIs.new wp13 zRows 115 (by simp)
          have ll14 : Hid (w2.heap.size ≤ wp13.heap.size) := by have h1 := bb13.out.size; (try simp at h1); unfold Hid; omega
          go_simp
          refine hK.out _ _ ⟨bb14.out, KS.out _ bb14.out⟩ (fun hHeld => ?_)
          clear hK K
          try simp only [Act.put, List.setIfInBounds_toArray, List.set_cons_zero, List.set_cons_succ]
          have lr : CR1.toList.length = 40 := by simpa using rr14.out.1
          have lh : CH13.toList.length = 40 := by simpa using hh14.out.1
          have HLR := Lib.hid lr
          have HLH := Lib.hid lh
          clear lr lh
          have ne78 : (wp13.heap.size) ≠ (wp1.heap.size) := var_ne vn14.out vb14.out (by decide)
          have t7 : Hid ((wp13.alloc (.cells zRows 115)).there (wp13.heap.size) 0 CR1.toList.toArray.size) := vn14.out.there (by rw [List.size_toArray, HLR.out]; rfl)
          have g7 := Lib.hid (grown_setCells (wp13.heap.size) CR1.toList 0 (wp13.alloc (.cells zRows 115)))
          have on7 : Hid (CR1.toList.toArray.all (·.oneCell') = true) := all_oneCell_toArray (fun u hu => rr14.out.one u (by simpa using hu))
          have on8 : Hid (CH13.toList.toArray.all (·.oneCell') = true) := all_oneCell_toArray (fun u hu => hh14.out.one u (by simpa using hu))
          have v8' := Lib.hid (vb14.out.grown g7.out (fun e => ne78 (Option.some.inj e).symm))
          have t8 : Hid (((wp13.alloc (.cells zRows 115)).setCells (wp13.heap.size) 0 CR1.toList).there (wp1.heap.size) 0 CH13.toList.toArray.size) := v8'.out.there (by rw [List.size_toArray, HLH.out]; rfl)
          have g8 := Lib.hid (grown_setCells (wp1.heap.size) CH13.toList 0 ((wp13.alloc (.cells zRows 115)).setCells (wp13.heap.size) 0 CR1.toList))
          have rg7 : Hid (((wp13.alloc (.cells zRows 115)).setCells (wp13.heap.size) 0 CR1.toList).rangeAt (wp13.heap.size) 0 CR1.toList) := World.rangeAt_setCells_same (wp13.alloc (.cells zRows 115)) (wp13.heap.size) 0 CR1.toList (by simpa using t7.out)
          have rg8 : Hid ((((wp13.alloc (.cells zRows 115)).setCells (wp13.heap.size) 0 CR1.toList).setCells (wp1.heap.size) 0 CH13.toList).rangeAt (wp1.heap.size) 0 CH13.toList) := World.rangeAt_setCells_same ((wp13.alloc (.cells zRows 115)).setCells (wp13.heap.size) 0 CR1.toList) (wp1.heap.size) 0 CH13.toList (by simpa using t8.out)
          have rg7' : Hid ((((wp13.alloc (.cells zRows 115)).setCells (wp13.heap.size) 0 CR1.toList).setCells (wp1.heap.size) 0 CH13.toList).rangeAt (wp13.heap.size) 0 CR1.toList) := range_grown rg7.out g8.out ne78
          have B7 := Lib.hid (bb14.out.grown g7.out bb14.out.size (fun q hq => by have h1 := Option.some.inj hq; have h2 := ll14.out; omega))
          have B8 := Lib.hid (B7.out.grown g8.out B7.out.size (fun q hq => by have h1 := Option.some.inj hq; have h2 := ll12.out; omega))
          have r8 := Lib.hid ((rr14.out.keepVar vn14.out (by decide) g7.out).keepVar v8'.out (by decide) g8.out)
          have h7 := hh14.out.keepVar vn14.out (by decide) g7.out
          have h8 := Lib.hid (h7.keepVar v8'.out (by decide) g8.out)
          have lt7 : (wp13.heap.size) < (((wp13.alloc (.cells zRows 115)).setCells (wp13.heap.size) 0 CR1.toList).setCells (wp1.heap.size) 0 CH13.toList).heap.size := Nat.lt_of_lt_of_le (Nat.lt_of_lt_of_le vn14.out.lt g7.out.size) g8.out.size
          have lt8 : (wp1.heap.size) < (((wp13.alloc (.cells zRows 115)).setCells (wp13.heap.size) 0 CR1.toList).setCells (wp1.heap.size) 0 CH13.toList).heap.size := Nat.lt_of_lt_of_le v8'.out.lt g8.out.size
          refine wpAnyH_ready (rs := [6]) (fuel := 1) (by kernel_rfl) (by simp) ?_
          refine AllReadyH.cons rfl (fun K hK => ?_) AllReadyH.nil
          rw [if_pos (by rfl)]
          refine wp_store_mid _ _ _ rfl (wp13.heap.size) 0 CR1.toList.toArray rfl rfl t7.out (by rw [List.size_toArray, HLR.out]; kernel_rfl) on7.out ?_
          refine hK.out _ _ ⟨B7.out, KS.out _ B7.out⟩ (fun hHeld => ?_)
          clear hK K
          refine wpAnyH_ready (rs := [7]) (fuel := 0) (by kernel_rfl) (by simp) ?_
          refine AllReadyH.cons rfl (fun K hK => ?_) AllReadyH.nil
          rw [if_pos (by rfl)]
          refine wp_store_mid _ _ _ rfl (wp1.heap.size) 0 CH13.toList.toArray rfl rfl t8.out (by rw [List.size_toArray, HLH.out]; kernel_rfl) on8.out ?_
          refine hK.out _ _ ⟨B8.out, KS.out _ B8.out⟩ (fun hHeld => ?_)
          clear hK K
          refine wpAnyH_done (by kernel_rfl) ?_ _
          exact REST.out (wp13.heap.size, wp1.heap.size, CR1, CH13) _ ⟨B8.out, rg7'.out, lt7, rg8.out, lt8, ⟨_, r8.out⟩, ⟨_, h8.out⟩⟩
        refine AllReadyH.cons rfl (fun K hK => ?_) AllReadyH.nil
        have bb15 : Hid (Below w2.heap.size w2 ((wp1.alloc (.cells zRows 143)).alloc (.cells zRows 115))) := bb12.out.trans (((Below.refl _ (wp1.alloc (.cells zRows 143))).alloc (Nat.le_refl _) (.cells zRows 115)).mono bb12.out.size)
        have rr15 : Hid (RowsAt ((wp1.alloc (.cells zRows 143)).alloc (.cells zRows 115)) _ CR1 steps) := rr12.out.below ((Below.refl _ (wp1.alloc (.cells zRows 143))).alloc (Nat.le_refl _) (.cells zRows 115))
        have vb15 : Hid (VarIs ((wp1.alloc (.cells zRows 143)).alloc (.cells zRows 115)) (wp1.heap.size) zRows 143) := vn12.out.below ((Below.refl _ (wp1.alloc (.cells zRows 143))).alloc (Nat.le_refl _) (.cells zRows 115))
        have vn15 : Hid (VarIs ((wp1.alloc (.cells zRows 143)).alloc (.cells zRows 115)) (wp1.heap.size + 1) zRows 115) := VarIs.new (wp1.alloc (.cells zRows 143)) zRows 115 (by simp)
        have ll15 : Hid (w2.heap.size ≤ wp1.heap.size + 1) := by have h1 := bb12.out.size; (try simp at h1); unfold Hid; omega
        go_simp
        refine hK.out _ _ ⟨bb15.out, KS.out _ bb15.out⟩ (fun hHeld => ?_)
        clear hK K
        try simp only [Act.put, List.setIfInBounds_toArray, List.set_cons_zero, List.set_cons_succ]
        refine wpAnyH_ready (rs := [3]) (fuel := 2) (by kernel_rfl) (by simp) ?_
        refine AllReadyH.cons rfl (fun K hK => ?_) AllReadyH.nil
        go_simp
        refine (hiddenTosOf_any st it _ _ a4 n4 c4 hids a5 n5 c5 steps _ (R4.out.below bb15.out) hn4 (R5.out.below bb15.out) HN5.out HLOW.out).mono ?_
        rintro e wp16 ⟨CH16, rfl, hC, hb⟩
        have bb16 : Hid (Below w2.heap.size w2 wp16) := bb15.out.trans (hb.mono bb15.out.size)
        have rr16 : Hid (RowsAt wp16 _ CR1 steps) := rr15.out.below hb
        have va16 : Hid (VarIs wp16 (wp1.heap.size + 1) zRows 115) := vn15.out.below hb
        have vb16 : Hid (VarIs wp16 (wp1.heap.size) zRows 143) := vb15.out.below hb
        have hn16 := Lib.hid hC
        clear hb hC
        go_wp2_with fail
        refine hK.out _ _ ⟨bb16.out, KS.out _ bb16.out⟩ (fun hHeld => ?_)
        clear hK K
        have lr : CR1.toList.length = 40 := by simpa using rr16.out.1
        have lh : CH16.toList.length = 40 := by simpa using hn16.out.1
        have HLR := Lib.hid lr
        have HLH := Lib.hid lh
        clear lr lh
        have ne78 : (wp1.heap.size + 1) ≠ (wp1.heap.size) := var_ne va16.out vb16.out (by decide)
        have t7 : Hid (wp16.there (wp1.heap.size + 1) 0 CR1.toList.toArray.size) := va16.out.there (by rw [List.size_toArray, HLR.out]; rfl)
        have g7 := Lib.hid (grown_setCells (wp1.heap.size + 1) CR1.toList 0 wp16)
        have on7 : Hid (CR1.toList.toArray.all (·.oneCell') = true) := all_oneCell_toArray (fun u hu => rr16.out.one u (by simpa using hu))
        have on8 : Hid (CH16.toList.toArray.all (·.oneCell') = true) := all_oneCell_toArray (fun u hu => hn16.out.one u (by simpa using hu))
        have v8' := Lib.hid (vb16.out.grown g7.out (fun e => ne78 (Option.some.inj e).symm))
        have t8 : Hid ((wp16.setCells (wp1.heap.size + 1) 0 CR1.toList).there (wp1.heap.size) 0 CH16.toList.toArray.size) := v8'.out.there (by rw [List.size_toArray, HLH.out]; rfl)
        have g8 := Lib.hid (grown_setCells (wp1.heap.size) CH16.toList 0 (wp16.setCells (wp1.heap.size + 1) 0 CR1.toList))
        have rg7 : Hid ((wp16.setCells (wp1.heap.size + 1) 0 CR1.toList).rangeAt (wp1.heap.size + 1) 0 CR1.toList) := World.rangeAt_setCells_same wp16 (wp1.heap.size + 1) 0 CR1.toList (by simpa using t7.out)
        have rg8 : Hid (((wp16.setCells (wp1.heap.size + 1) 0 CR1.toList).setCells (wp1.heap.size) 0 CH16.toList).rangeAt (wp1.heap.size) 0 CH16.toList) := World.rangeAt_setCells_same (wp16.setCells (wp1.heap.size + 1) 0 CR1.toList) (wp1.heap.size) 0 CH16.toList (by simpa using t8.out)
        have rg7' : Hid (((wp16.setCells (wp1.heap.size + 1) 0 CR1.toList).setCells (wp1.heap.size) 0 CH16.toList).rangeAt (wp1.heap.size + 1) 0 CR1.toList) := range_grown rg7.out g8.out ne78
        have B7 := Lib.hid (bb16.out.grown g7.out bb16.out.size (fun q hq => by have h1 := Option.some.inj hq; have h2 := ll15.out; omega))
        have B8 := Lib.hid (B7.out.grown g8.out B7.out.size (fun q hq => by have h1 := Option.some.inj hq; have h2 := ll12.out; omega))
        have r8 := Lib.hid ((rr16.out.keepVar va16.out (by decide) g7.out).keepVar v8'.out (by decide) g8.out)
        have h7 := hn16.out.keepVar va16.out (by decide) g7.out
        have h8 := Lib.hid (h7.keepVar v8'.out (by decide) g8.out)
        have lt7 : (wp1.heap.size + 1) < ((wp16.setCells (wp1.heap.size + 1) 0 CR1.toList).setCells (wp1.heap.size) 0 CH16.toList).heap.size := Nat.lt_of_lt_of_le (Nat.lt_of_lt_of_le va16.out.lt g7.out.size) g8.out.size
        have lt8 : (wp1.heap.size) < ((wp16.setCells (wp1.heap.size + 1) 0 CR1.toList).setCells (wp1.heap.size) 0 CH16.toList).heap.size := Nat.lt_of_lt_of_le v8'.out.lt g8.out.size
        refine wpAnyH_ready (rs := [6]) (fuel := 1) (by kernel_rfl) (by simp) ?_
        refine AllReadyH.cons rfl (fun K hK => ?_) AllReadyH.nil
        rw [if_pos (by rfl)]
        refine wp_store_mid _ _ _ rfl (wp1.heap.size + 1) 0 CR1.toList.toArray rfl rfl t7.out (by rw [List.size_toArray, HLR.out]; kernel_rfl) on7.out ?_
        refine hK.out _ _ ⟨B7.out, KS.out _ B7.out⟩ (fun hHeld => ?_)
        clear hK K
        refine wpAnyH_ready (rs := [7]) (fuel := 0) (by kernel_rfl) (by simp) ?_
        refine AllReadyH.cons rfl (fun K hK => ?_) AllReadyH.nil
        rw [if_pos (by rfl)]
        refine wp_store_mid _ _ _ rfl (wp1.heap.size) 0 CH16.toList.toArray rfl rfl t8.out (by rw [List.size_toArray, HLH.out]; kernel_rfl) on8.out ?_
        refine hK.out _ _ ⟨B8.out, KS.out _ B8.out⟩ (fun hHeld => ?_)
        clear hK K
        refine wpAnyH_done (by kernel_rfl) ?_ _
        exact REST.out (wp1.heap.size + 1, wp1.heap.size, CR1, CH16) _ ⟨B8.out, rg7'.out, lt7, rg8.out, lt8, ⟨_, r8.out⟩, ⟨_, h8.out⟩⟩
      refine AllReadyH.cons rfl (fun K hK => ?_) ?_
      · have bb17 : Hid (Below w2.heap.size w2 (w2.alloc (.cells zRows 115)).drew) := B2D.out.trans (((Below.refl _ w2.drew).alloc (Nat.le_refl _) (.cells zRows 115)).mono B2D.out.size)
        have vn17 : Hid (VarIs (w2.alloc (.cells zRows 115)).drew (w2.heap.size) zRows 115) := VarIs.new w2.drew zRows 115 (by simp)
        have ll17 : Hid (w2.heap.size ≤ w2.heap.size) := by have h1 := B2D.out.size; (try simp at h1); unfold Hid; omega
        go_simp
        refine hK.out _ _ ⟨bb17.out, KS.out _ bb17.out⟩ (fun hHeld => ?_)
        clear hK K
        try simp only [Act.put, List.setIfInBounds_toArray, List.set_cons_zero, List.set_cons_succ]
        refine wpAnyH_ready (rs := [1, 5]) (fuel := 4) (by kernel_rfl) (by simp) ?_
        refine AllReadyH.cons rfl (fun K hK => ?_) ?_
        · go_simp
          refine (rowsOf_any st it _ _ _ a5 n5 c5 steps _ (R5.out.below bb17.out) HN5.out HLOW.out).mono ?_
          rintro e wp18 ⟨CR18, rfl, hC, hb⟩
          have bb18 : Hid (Below w2.heap.size w2 wp18) := bb17.out.trans (hb.mono bb17.out.size)
          have va18 : Hid (VarIs wp18 (w2.heap.size) zRows 115) := vn17.out.below hb
          have rn18 := Lib.hid hC
          clear hb hC
          go_wp2_with fail
          refine hK.out _ _ ⟨bb18.out, KS.out _ bb18.out⟩ (fun hHeld => ?_)
          clear hK K
          refine wpAnyH_ready (rs := [3, 5]) (fuel := 3) (by kernel_rfl) (by simp) ?_
          refine AllReadyH.cons rfl (fun K hK => ?_) ?_
          · go_simp
            refine (hiddenTosOf_any st it _ _ a4 n4 c4 hids a5 n5 c5 steps _ (R4.out.below bb18.out) hn4 (R5.out.below bb18.out) HN5.out HLOW.out).mono ?_
            rintro e wp19 ⟨CH19, rfl, hC, hb⟩
            have bb19 : Hid (Below w2.heap.size w2 wp19) := bb18.out.trans (hb.mono bb18.out.size)
            have rr19 : Hid (RowsAt wp19 _ CR18 steps) := rn18.out.below hb
            have va19 : Hid (VarIs wp19 (w2.heap.size) zRows 115) := va18.out.below hb
            have hn19 := Lib.hid hC
            clear hb hC
            go_wp2_with fail
            refine hK.out _ _ ⟨bb19.out, KS.out _ bb19.out⟩ (fun hHeld => ?_)
            clear hK K
            refine wpAnyH_ready (rs := [5]) (fuel := 2) (by kernel_rfl) (by simp) ?_
            refine AllReadyH.cons rfl (fun K hK => ?_) AllReadyH.nil
            have bb20 : Hid (Below w2.heap.size w2 (wp19.alloc (.cells zRows 143))) := bb19.out.trans (((Below.refl _ wp19).alloc (Nat.le_refl _) (.cells zRows 143)).mono bb19.out.size)
            have rr20 : Hid (RowsAt (wp19.alloc (.cells zRows 143)) _ CR18 steps) := rr19.out.below ((Below.refl _ wp19).alloc (Nat.le_refl _) (.cells zRows 143))
            have hh20 : Hid (HidAt (wp19.alloc (.cells zRows 143)) _ CH19 hids steps) := hn19.out.below ((Below.refl _ wp19).alloc (Nat.le_refl _) (.cells zRows 143))
            have va20 : Hid (VarIs (wp19.alloc (.cells zRows 143)) (w2.heap.size) zRows 115) := va19.out.below ((Below.refl _ wp19).alloc (Nat.le_refl _) (.cells zRows 143))
            have vn20 : Hid (VarIs (wp19.alloc (.cells zRows 143)) (wp19.heap.size) zRows 143) := VarIs.new wp19 zRows 143 (by simp)
            have ll20 : Hid (w2.heap.size ≤ wp19.heap.size) := by have h1 := bb19.out.size; (try simp at h1); unfold Hid; omega
            go_simp
            refine hK.out _ _ ⟨bb20.out, KS.out _ bb20.out⟩ (fun hHeld => ?_)
            clear hK K
            try simp only [Act.put, List.setIfInBounds_toArray, List.set_cons_zero, List.set_cons_succ]
            have lr : CR18.toList.length = 40 := by simpa using rr20.out.1
            have lh : CH19.toList.length = 40 := by simpa using hh20.out.1
            have HLR := Lib.hid lr
            have HLH := Lib.hid lh
            clear lr lh
            have ne78 : (w2.heap.size) ≠ (wp19.heap.size) := var_ne va20.out vn20.out (by decide)
            have t7 : Hid ((wp19.alloc (.cells zRows 143)).there (w2.heap.size) 0 CR18.toList.toArray.size) := va20.out.there (by rw [List.size_toArray, HLR.out]; rfl)
            have g7 := Lib.hid (grown_setCells (w2.heap.size) CR18.toList 0 (wp19.alloc (.cells zRows 143)))
            have on7 : Hid (CR18.toList.toArray.all (·.oneCell') = true) := all_oneCell_toArray (fun u hu => rr20.out.one u (by simpa using hu))
            have on8 : Hid (CH19.toList.toArray.all (·.oneCell') = true) := all_oneCell_toArray (fun u hu => hh20.out.one u (by simpa using hu))
            have v8' := Lib.hid (vn20.out.grown g7.out (fun e => ne78 (Option.some.inj e).symm))
            have t8 : Hid (((wp19.alloc (.cells zRows 143)).setCells (w2.heap.size) 0 CR18.toList).there (wp19.heap.size) 0 CH19.toList.toArray.size) := v8'.out.there (by rw [List.size_toArray, HLH.out]; rfl)
            have g8 := Lib.hid (grown_setCells (wp19.heap.size) CH19.toList 0 ((wp19.alloc (.cells zRows 143)).setCells (w2.heap.size) 0 CR18.toList))
            have rg7 : Hid (((wp19.alloc (.cells zRows 143)).setCells (w2.heap.size) 0 CR18.toList).rangeAt (w2.heap.size) 0 CR18.toList) := World.rangeAt_setCells_same (wp19.alloc (.cells zRows 143)) (w2.heap.size) 0 CR18.toList (by simpa using t7.out)
            have rg8 : Hid ((((wp19.alloc (.cells zRows 143)).setCells (w2.heap.size) 0 CR18.toList).setCells (wp19.heap.size) 0 CH19.toList).rangeAt (wp19.heap.size) 0 CH19.toList) := World.rangeAt_setCells_same ((wp19.alloc (.cells zRows 143)).setCells (w2.heap.size) 0 CR18.toList) (wp19.heap.size) 0 CH19.toList (by simpa using t8.out)
            have rg7' : Hid ((((wp19.alloc (.cells zRows 143)).setCells (w2.heap.size) 0 CR18.toList).setCells (wp19.heap.size) 0 CH19.toList).rangeAt (w2.heap.size) 0 CR18.toList) := range_grown rg7.out g8.out ne78
            have B7 := Lib.hid (bb20.out.grown g7.out bb20.out.size (fun q hq => by have h1 := Option.some.inj hq; have h2 := ll17.out; omega))
            have B8 := Lib.hid (B7.out.grown g8.out B7.out.size (fun q hq => by have h1 := Option.some.inj hq; have h2 := ll20.out; omega))
            have r8 := Lib.hid ((rr20.out.keepVar va20.out (by decide) g7.out).keepVar v8'.out (by decide) g8.out)
            have h7 := hh20.out.keepVar va20.out (by decide) g7.out
            have h8 := Lib.hid (h7.keepVar v8'.out (by decide) g8.out)
            have lt7 : (w2.heap.size) < (((wp19.alloc (.cells zRows 143)).setCells (w2.heap.size) 0 CR18.toList).setCells (wp19.heap.size) 0 CH19.toList).heap.size := Nat.lt_of_lt_of_le (Nat.lt_of_lt_of_le va20.out.lt g7.out.size) g8.out.size
            have lt8 : (wp19.heap.size) < (((wp19.alloc (.cells zRows 143)).setCells (w2.heap.size) 0 CR18.toList).setCells (wp19.heap.size) 0 CH19.toList).heap.size := Nat.lt_of_lt_of_le v8'.out.lt g8.out.size
            refine wpAnyH_ready (rs := [6]) (fuel := 1) (by kernel_rfl) (by simp) ?_
            refine AllReadyH.cons rfl (fun K hK => ?_) AllReadyH.nil
            rw [if_pos (by rfl)]
            refine wp_store_mid _ _ _ rfl (w2.heap.size) 0 CR18.toList.toArray rfl rfl t7.out (by rw [List.size_toArray, HLR.out]; kernel_rfl) on7.out ?_
            refine hK.out _ _ ⟨B7.out, KS.out _ B7.out⟩ (fun hHeld => ?_)
            clear hK K
            refine wpAnyH_ready (rs := [7]) (fuel := 0) (by kernel_rfl) (by simp) ?_
            refine AllReadyH.cons rfl (fun K hK => ?_) AllReadyH.nil
            rw [if_pos (by rfl)]
            refine wp_store_mid _ _ _ rfl (wp19.heap.size) 0 CH19.toList.toArray rfl rfl t8.out (by rw [List.size_toArray, HLH.out]; kernel_rfl) on8.out ?_
            refine hK.out _ _ ⟨B8.out, KS.out _ B8.out⟩ (fun hHeld => ?_)
            clear hK K
            refine wpAnyH_done (by kernel_rfl) ?_ _
            exact REST.out (w2.heap.size, wp19.heap.size, CR18, CH19) _ ⟨B8.out, rg7'.out, lt7, rg8.out, lt8, ⟨_, r8.out⟩, ⟨_, h8.out⟩⟩
          refine AllReadyH.cons rfl (fun K hK => ?_) AllReadyH.nil
          have bb21 : Hid (Below w2.heap.size w2 (wp18.alloc (.cells zRows 143))) := bb18.out.trans (((Below.refl _ wp18).alloc (Nat.le_refl _) (.cells zRows 143)).mono bb18.out.size)
          have rr21 : Hid (RowsAt (wp18.alloc (.cells zRows 143)) _ CR18 steps) := rn18.out.below ((Below.refl _ wp18).alloc (Nat.le_refl _) (.cells zRows 143))
          have va21 : Hid (VarIs (wp18.alloc (.cells zRows 143)) (w2.heap.size) zRows 115) := va18.out.below ((Below.refl _ wp18).alloc (Nat.le_refl _) (.cells zRows 143))
          have vn21 : Hid (VarIs (wp18.alloc (.cells zRows 143)) (wp18.heap.size) zRows 143) := VarIs.new wp18 zRows 143 (by simp)
          have ll21 : Hid (w2.heap.size ≤ wp18.heap.size) := by have h1 := bb18.out.size; (try simp at h1); unfold Hid; omega
          go_simp
          refine hK.out _ _ ⟨bb21.out, KS.out _ bb21.out⟩ (fun hHeld => ?_)
          clear hK K
          try simp only [Act.put, List.setIfInBounds_toArray, List.set_cons_zero, List.set_cons_succ]
          refine wpAnyH_ready (rs := [3]) (fuel := 2) (by kernel_rfl) (by simp) ?_
          refine AllReadyH.cons rfl (fun K hK => ?_) AllReadyH.nil
          go_simp
          refine (hiddenTosOf_any st it _ _ a4 n4 c4 hids a5 n5 c5 steps _ (R4.out.below bb21.out) hn4 (R5.out.below bb21.out) HN5.out HLOW.out).mono ?_
          rintro e wp22 ⟨CH22, rfl, hC, hb⟩
          have bb22 : Hid (Below w2.heap.size w2 wp22) := bb21.out.trans (hb.mono bb21.out.size)
          have rr22 : Hid (RowsAt wp22 _ CR18 steps) := rr21.out.below hb
          have va22 : Hid (VarIs wp22 (w2.heap.size) zRows 115) := va21.out.below hb
          have vb22 : Hid (VarIs wp22 (wp18.heap.size) zRows 143) := vn21.out.below hb
          have hn22 := Lib.hid hC
          clear hb hC
          go_wp2_with fail
          refine hK.out _ _ ⟨bb22.out, KS.out _ bb22.out⟩ (fun hHeld => ?_)
          clear hK K
          have lr : CR18.toList.length = 40 := by simpa using rr22.out.1
          have lh : CH22.toList.length = 40 := by simpa using hn22.out.1
          have HLR := Lib.hid lr
          have HLH := Lib.hid lh
          clear lr lh
          have ne78 : (w2.heap.size) ≠ (wp18.heap.size) := var_ne va22.out vb22.out (by decide)
          have t7 : Hid (wp22.there (w2.heap.size) 0 CR18.toList.toArray.size) := va22.out.there (by rw [List.size_toArray, HLR.out]; rfl)
          have g7 := Lib.hid (grown_setCells (w2.heap.size) CR18.toList 0 wp22)
          have on7 : Hid (CR18.toList.toArray.all (·.oneCell') = true) := all_oneCell_toArray (fun u hu => rr22.out.one u (by simpa using hu))
          have on8 : Hid (CH22.toList.toArray.all (·.oneCell') = true) := all_oneCell_toArray (fun u hu => hn22.out.one u (by simpa using hu))
          have v8' := Lib.hid (vb22.out.grown g7.out (fun e => ne78 (Option.some.inj e).symm))
          have t8 : Hid ((wp22.setCells (w2.heap.size) 0 CR18.toList).there (wp18.heap.size) 0 CH22.toList.toArray.size) := v8'.out.there (by rw [List.size_toArray, HLH.out]; rfl)
          have g8 := Lib.hid (grown_setCells (wp18.heap.size) CH22.toList 0 (wp22.setCells (w2.heap.size) 0 CR18.toList))
          have rg7 : Hid ((wp22.setCells (w2.heap.size) 0 CR18.toList).rangeAt (w2.heap.size) 0 CR18.toList) := World.rangeAt_setCells_same wp22 (w2.heap.size) 0 CR18.toList (by simpa using t7.out)
          have rg8 : Hid (((wp22.setCells (w2.heap.size) 0 CR18.toList).setCells (wp18.heap.size) 0 CH22.toList).rangeAt (wp18.heap.size) 0 CH22.toList) := World.rangeAt_setCells_same (wp22.setCells (w2.heap.size) 0 CR18.toList) (wp18.heap.size) 0 CH22.toList (by simpa using t8.out)
          have rg7' : Hid (((wp22.setCells (w2.heap.size) 0 CR18.toList).setCells (wp18.heap.size) 0 CH22.toList).rangeAt (w2.heap.size) 0 CR18.toList) := range_grown rg7.out g8.out ne78
          have B7 := Lib.hid (bb22.out.grown g7.out bb22.out.size (fun q hq => by have h1 := Option.some.inj hq; have h2 := ll17.out; omega))
          have B8 := Lib.hid (B7.out.grown g8.out B7.out.size (fun q hq => by have h1 := Option.some.inj hq; have h2 := ll21.out; omega))
          have r8 := Lib.hid ((rr22.out.keepVar va22.out (by decide) g7.out).keepVar v8'.out (by decide) g8.out)
          have h7 := hn22.out.keepVar va22.out (by decide) g7.out
          have h8 := Lib.hid (h7.keepVar v8'.out (by decide) g8.out)
          have lt7 : (w2.heap.size) < ((wp22.setCells (w2.heap.size) 0 CR18.toList).setCells (wp18.heap.size) 0 CH22.toList).heap.size := Nat.lt_of_lt_of_le (Nat.lt_of_lt_of_le va22.out.lt g7.out.size) g8.out.size
          have lt8 : (wp18.heap.size) < ((wp22.setCells (w2.heap.size) 0 CR18.toList).setCells (wp18.heap.size) 0 CH22.toList).heap.size := Nat.lt_of_lt_of_le v8'.out.lt g8.out.size
          refine wpAnyH_ready (rs := [6]) (fuel := 1) (by kernel_rfl) (by simp) ?_
          refine AllReadyH.cons rfl (fun K hK => ?_) AllReadyH.nil
          rw [if_pos (by rfl)]
          refine wp_store_mid _ _ _ rfl (w2.heap.size) 0 CR18.toList.toArray rfl rfl t7.out (by rw [List.size_toArray, HLR.out]; kernel_rfl) on7.out ?_
          refine hK.out _ _ ⟨B7.out, KS.out _ B7.out⟩ (fun hHeld => ?_)
          clear hK K
          refine wpAnyH_ready (rs := [7]) (fuel := 0) (by kernel_rfl) (by simp) ?_
          refine AllReadyH.cons rfl (fun K hK => ?_) AllReadyH.nil
          rw [if_pos (by rfl)]
          refine wp_store_mid _ _ _ rfl (wp18.heap.size) 0 CH22.toList.toArray rfl rfl t8.out (by rw [List.size_toArray, HLH.out]; kernel_rfl) on8.out ?_
          refine hK.out _ _ ⟨B8.out, KS.out _ B8.out⟩ (fun hHeld => ?_)
          clear hK K
          refine wpAnyH_done (by kernel_rfl) ?_ _
          exact REST.out (w2.heap.size, wp18.heap.size, CR18, CH22) _ ⟨B8.out, rg7'.out, lt7, rg8.out, lt8, ⟨_, r8.out⟩, ⟨_, h8.out⟩⟩
        refine AllReadyH.cons rfl (fun K hK => ?_) AllReadyH.nil
        have bb23 : Hid (Below w2.heap.size w2 ((w2.alloc (.cells zRows 115)).alloc (.cells zRows 143)).drew) := bb17.out.trans (((Below.refl _ (w2.alloc (.cells zRows 115)).drew).alloc (Nat.le_refl _) (.cells zRows 143)).mono bb17.out.size)
        have va23 : Hid (VarIs ((w2.alloc (.cells zRows 115)).alloc (.cells zRows 143)).drew (w2.heap.size) zRows 115) := vn17.out.below ((Below.refl _ (w2.alloc (.cells zRows 115)).drew).alloc (Nat.le_refl _) (.cells zRows 143))
        have vn23 : Hid (VarIs ((w2.alloc (.cells zRows 115)).alloc (.cells zRows 143)).drew (w2.heap.size + 1) zRows 143) := VarIs.new (w2.alloc (.cells zRows 115)).drew zRows 143 (by simp)
        have ll23 : Hid (w2.heap.size ≤ w2.heap.size + 1) := by have h1 := bb17.out.size; (try simp at h1); unfold Hid; omega
        go_simp
        refine hK.out _ _ ⟨bb23.out, KS.out _ bb23.out⟩ (fun hHeld => ?_)
        clear hK K
        try simp only [Act.put, List.setIfInBounds_toArray, List.set_cons_zero, List.set_cons_succ]
        refine wpAnyH_ready (rs := [1]) (fuel := 3) (by kernel_rfl) (by simp) ?_
        refine AllReadyH.cons rfl (fun K hK => ?_) AllReadyH.nil
        go_simp
        refine (rowsOf_any st it _ _ _ a5 n5 c5 steps _ (R5.out.below bb23.out) HN5.out HLOW.out).mono ?_
        rintro e wp24 ⟨CR24, rfl, hC, hb⟩
        have bb24 : Hid (Below w2.heap.size w2 wp24) := bb23.out.trans (hb.mono bb23.out.size)
        have va24 : Hid (VarIs wp24 (w2.heap.size) zRows 115) := va23.out.below hb
        have vb24 : Hid (VarIs wp24 (w2.heap.size + 1) zRows 143) := vn23.out.below hb
        have rn24 := Lib.hid hC
        clear hb hC
        go_wp2_with fail
        refine hK.out _ _ ⟨bb24.out, KS.out _ bb24.out⟩ (fun hHeld => ?_)
        clear hK K
        refine wpAnyH_ready (rs := [3]) (fuel := 2) (by kernel_rfl) (by simp) ?_
        refine AllReadyH.cons rfl (fun K hK => ?_) AllReadyH.nil
        go_simp
        refine (hiddenTosOf_any st it _ _ a4 n4 c4 hids a5 n5 c5 steps _ (R4.out.below bb24.out) hn4 (R5.out.below bb24.out) HN5.out HLOW.out).mono ?_
        rintro e wp25 ⟨CH25, rfl, hC, hb⟩
        have bb25 : Hid (Below w2.heap.size w2 wp25) := bb24.out.trans (hb.mono bb24.out.size)
        have rr25 : Hid (RowsAt wp25 _ CR24 steps) := rn24.out.below hb
        have va25 : Hid (VarIs wp25 (w2.heap.size) zRows 115) := va24.out.below hb
        have vb25 : Hid (VarIs wp25 (w2.heap.size + 1) zRows 143) := vb24.out.below hb
        have hn25 := Lib.hid hC
        clear hb hC
        go_wp2_with fail
        refine hK.out _ _ ⟨bb25.out, KS.out _ bb25.out⟩ (fun hHeld => ?_)
        clear hK K
        have lr : CR24.toList.length = 40 := by simpa using rr25.out.1
        have lh : CH25.toList.length = 40 := by simpa using hn25.out.1
        have HLR := Lib.hid lr
        have HLH := Lib.hid lh
        clear lr lh
        have ne78 : (w2.heap.size) ≠ (w2.heap.size + 1) := var_ne va25.out vb25.out (by decide)
        have t7 : Hid (wp25.there (w2.heap.size) 0 CR24.toList.toArray.size) := va25.out.there (by rw [List.size_toArray, HLR.out]; rfl)
        have g7 := Lib.hid (grown_setCells (w2.heap.size) CR24.toList 0 wp25)
        have on7 : Hid (CR24.toList.toArray.all (·.oneCell') = true) := all_oneCell_toArray (fun u hu => rr25.out.one u (by simpa using hu))
        have on8 : Hid (CH25.toList.toArray.all (·.oneCell') = true) := all_oneCell_toArray (fun u hu => hn25.out.one u (by simpa using hu))
        have v8' := Lib.hid (vb25.out.grown g7.out (fun e => ne78 (Option.some.inj e).symm))
        have t8 : Hid ((wp25.setCells (w2.heap.size) 0 CR24.toList).there (w2.heap.size + 1) 0 CH25.toList.toArray.size) := v8'.out.there (by rw [List.size_toArray, HLH.out]; rfl)
        have g8 := Lib.hid (grown_setCells (w2.heap.size + 1) CH25.toList 0 (wp25.setCells (w2.heap.size) 0 CR24.toList))
        have rg7 : Hid ((wp25.setCells (w2.heap.size) 0 CR24.toList).rangeAt (w2.heap.size) 0 CR24.toList) := World.rangeAt_setCells_same wp25 (w2.heap.size) 0 CR24.toList (by simpa using t7.out)
        have rg8 : Hid (((wp25.setCells (w2.heap.size) 0 CR24.toList).setCells (w2.heap.size + 1) 0 CH25.toList).rangeAt (w2.heap.size + 1) 0 CH25.toList) := World.rangeAt_setCells_same (wp25.setCells (w2.heap.size) 0 CR24.toList) (w2.heap.size + 1) 0 CH25.toList (by simpa using t8.out)
        have rg7' : Hid (((wp25.setCells (w2.heap.size) 0 CR24.toList).setCells (w2.heap.size + 1) 0 CH25.toList).rangeAt (w2.heap.size) 0 CR24.toList) := range_grown rg7.out g8.out ne78
        have B7 := Lib.hid (bb25.out.grown g7.out bb25.out.size (fun q hq => by have h1 := Option.some.inj hq; have h2 := ll17.out; omega))
        have B8 := Lib.hid (B7.out.grown g8.out B7.out.size (fun q hq => by have h1 := Option.some.inj hq; have h2 := ll23.out; omega))
        have r8 := Lib.hid ((rr25.out.keepVar va25.out (by decide) g7.out).keepVar v8'.out (by decide) g8.out)
        have h7 := hn25.out.keepVar va25.out (by decide) g7.out
        have h8 := Lib.hid (h7.keepVar v8'.out (by decide) g8.out)
        have lt7 : (w2.heap.size) < ((wp25.setCells (w2.heap.size) 0 CR24.toList).setCells (w2.heap.size + 1) 0 CH25.toList).heap.size := Nat.lt_of_lt_of_le (Nat.lt_of_lt_of_le va25.out.lt g7.out.size) g8.out.size
        have lt8 : (w2.heap.size + 1) < ((wp25.setCells (w2.heap.size) 0 CR24.toList).setCells (w2.heap.size + 1) 0 CH25.toList).heap.size := Nat.lt_of_lt_of_le v8'.out.lt g8.out.size
        refine wpAnyH_ready (rs := [6]) (fuel := 1) (by kernel_rfl) (by simp) ?_
        refine AllReadyH.cons rfl (fun K hK => ?_) AllReadyH.nil
        rw [if_pos (by rfl)]
        refine wp_store_mid _ _ _ rfl (w2.heap.size) 0 CR24.toList.toArray rfl rfl t7.out (by rw [List.size_toArray, HLR.out]; kernel_rfl) on7.out ?_
        refine hK.out _ _ ⟨B7.out, KS.out _ B7.out⟩ (fun hHeld => ?_)
        clear hK K
        refine wpAnyH_ready (rs := [7]) (fuel := 0) (by kernel_rfl) (by simp) ?_
        refine AllReadyH.cons rfl (fun K hK => ?_) AllReadyH.nil
        rw [if_pos (by rfl)]
        refine wp_store_mid _ _ _ rfl (w2.heap.size + 1) 0 CH25.toList.toArray rfl rfl t8.out (by rw [List.size_toArray, HLH.out]; kernel_rfl) on8.out ?_
        refine hK.out _ _ ⟨B8.out, KS.out _ B8.out⟩ (fun hHeld => ?_)
        clear hK K
        refine wpAnyH_done (by kernel_rfl) ?_ _
        exact REST.out (w2.heap.size, w2.heap.size + 1, CR24, CH25) _ ⟨B8.out, rg7'.out, lt7, rg8.out, lt8, ⟨_, r8.out⟩, ⟨_, h8.out⟩⟩
      refine AllReadyH.cons rfl (fun K hK => ?_) AllReadyH.nil
      have bb26 : Hid (Below w2.heap.size w2 (w2.alloc (.cells zRows 143)).drew) := B2D.out.trans (((Below.refl _ w2.drew).alloc (Nat.le_refl _) (.cells zRows 143)).mono B2D.out.size)
      have vn26 : Hid (VarIs (w2.alloc (.cells zRows 143)).drew (w2.heap.size) zRows 143) := VarIs.new w2.drew zRows 143 (by simp)
      have ll26 : Hid (w2.heap.size ≤ w2.heap.size) := by have h1 := B2D.out.size; (try simp at h1); unfold Hid; omega
      go_simp
      refine hK.out _ _ ⟨bb26.out, KS.out _ bb26.out⟩ (fun hHeld => ?_)
      clear hK K
      try simp only [Act.put, List.setIfInBounds_toArray, List.set_cons_zero, List.set_cons_succ]
      refine wpAnyH_ready (rs := [1, 4]) (fuel := 4) (by kernel_rfl) (by simp) ?_
      refine AllReadyH.cons rfl (fun K hK => ?_) ?_
      · go_simp
        refine (rowsOf_any st it _ _ _ a5 n5 c5 steps _ (R5.out.below bb26.out) HN5.out HLOW.out).mono ?_
        rintro e wp27 ⟨CR27, rfl, hC, hb⟩
        have bb27 : Hid (Below w2.heap.size w2 wp27) := bb26.out.trans (hb.mono bb26.out.size)
        have vb27 : Hid (VarIs wp27 (w2.heap.size) zRows 143) := vn26.out.below hb
        have rn27 := Lib.hid hC
        clear hb hC
        go_wp2_with fail
        refine hK.out _ _ ⟨bb27.out, KS.out _ bb27.out⟩ (fun hHeld => ?_)
        clear hK K
        refine wpAnyH_ready (rs := [3, 4]) (fuel := 3) (by kernel_rfl) (by simp) ?_
        refine AllReadyH.cons rfl (fun K hK => ?_) ?_
        · go_simp
          refine (hiddenTosOf_any st it _ _ a4 n4 c4 hids a5 n5 c5 steps _ (R4.out.below bb27.out) hn4 (R5.out.below bb27.out) HN5.out HLOW.out).mono ?_
          rintro e wp28 ⟨CH28, rfl, hC, hb⟩
          have bb28 : Hid (Below w2.heap.size w2 wp28) := bb27.out.trans (hb.mono bb27.out.size)
          have rr28 : Hid (RowsAt wp28 _ CR27 steps) := rn27.out.below hb
          have vb28 : Hid (VarIs wp28 (w2.heap.size) zRows 143) := vb27.out.below hb
          have hn28 := Lib.hid hC
          clear hb hC
          go_wp2_with fail
          refine hK.out _ _ ⟨bb28.out, KS.out _ bb28.out⟩ (fun hHeld => ?_)
          clear hK K
          refine wpAnyH_ready (rs := [4]) (fuel := 2) (by kernel_rfl) (by simp) ?_
          refine AllReadyH.cons rfl (fun K hK => ?_) AllReadyH.nil
          have bb29 : Hid (Below w2.heap.size w2 (wp28.alloc (.cells zRows 115))) := bb28.out.trans (((Below.refl _ wp28).alloc (Nat.le_refl _) (.cells zRows 115)).mono bb28.out.size)
          have rr29 : Hid (RowsAt (wp28.alloc (.cells zRows 115)) _ CR27 steps) := rr28.out.below ((Below.refl _ wp28).alloc (Nat.le_refl _) (.cells zRows 115))
          have hh29 : Hid (HidAt (wp28.alloc (.cells zRows 115)) _ CH28 hids steps) := hn28.out.below ((Below.refl _ wp28).alloc (Nat.le_refl _) (.cells zRows 115))
          have vb29 : Hid (VarIs (wp28.alloc (.cells zRows 115)) (w2.heap.size) zRows 143) := vb28.out.below ((Below.refl _ wp28).alloc (Nat.le_refl _) (.cells zRows 115))
          have vn29 : Hid (VarIs (wp28.alloc (.cells zRows 115)) (wp28.heap.size) zRows 115) := VarIs.new wp28 zRows 115 (by simp)
          have ll29 : Hid (w2.heap.size ≤ wp28.heap.size) := by have h1 := bb28.out.size; (try simp at h1); unfold Hid; omega
          go_simp
          refine hK.out _ _ ⟨bb29.out, KS.out _ bb29.out⟩ (fun hHeld => ?_)
          clear hK K
          try simp only [Act.put, List.setIfInBounds_toArray, List.set_cons_zero, List.set_cons_succ]
          have lr : CR27.toList.length = 40 := by simpa using rr29.out.1
          have lh : CH28.toList.length = 40 := by simpa using hh29.out.1
          have HLR := Lib.hid lr
          have HLH := Lib.hid lh
          clear lr lh
          have ne78 : (wp28.heap.size) ≠ (w2.heap.size) := var_ne vn29.out vb29.out (by decide)
          have t7 : Hid ((wp28.alloc (.cells zRows 115)).there (wp28.heap.size) 0 CR27.toList.toArray.size) := vn29.out.there (by rw [List.size_toArray, HLR.out]; rfl)
          have g7 := Lib.hid (grown_setCells (wp28.heap.size) CR27.toList 0 (wp28.alloc (.cells zRows 115)))
          have on7 : Hid (CR27.toList.toArray.all (·.oneCell') = true) := all_oneCell_toArray (fun u hu => rr29.out.one u (by simpa using hu))
          have on8 : Hid (CH28.toList.toArray.all (·.oneCell') = true) := all_oneCell_toArray (fun u hu => hh29.out.one u (by simpa using hu))
          have v8' := Lib.hid (vb29.out.grown g7.out (fun e => ne78 (Option.some.inj e).symm))
          have t8 : Hid (((wp28.alloc (.cells zRows 115)).setCells (wp28.heap.size) 0 CR27.toList).there (w2.heap.size) 0 CH28.toList.toArray.size) := v8'.out.there (by rw [List.size_toArray, HLH.out]; rfl)
          have g8 := Lib.hid (grown_setCells (w2.heap.size) CH28.toList 0 ((wp28.alloc (.cells zRows 115)).setCells (wp28.heap.size) 0 CR27.toList))
          have rg7 : Hid (((wp28.alloc (.cells zRows 115)).setCells (wp28.heap.size) 0 CR27.toList).rangeAt (wp28.heap.size) 0 CR27.toList) := World.rangeAt_setCells_same (wp28.alloc (.cells zRows 115)) (wp28.heap.size) 0 CR27.toList (by simpa using t7.out)
          have rg8 : Hid ((((wp28.alloc (.cells zRows 115)).setCells (wp28.heap.size) 0 CR27.toList).setCells (w2.heap.size) 0 CH28.toList).rangeAt (w2.heap.size) 0 CH28.toList) := World.rangeAt_setCells_same ((wp28.alloc (.cells zRows 115)).setCells (wp28.heap.size) 0 CR27.toList) (w2.heap.size) 0 CH28.toList (by simpa using t8.out)
          have rg7' : Hid ((((wp28.alloc (.cells zRows 115)).setCells (wp28.heap.size) 0 CR27.toList).setCells (w2.heap.size) 0 CH28.toList).rangeAt (wp28.heap.size) 0 CR27.toList) := range_grown rg7.out g8.out ne78
          have B7 := Lib.hid (bb29.out.grown g7.out bb29.out.size (fun q hq => by have h1 := Option.some.inj hq; have h2 := ll29.out; omega))
          have B8 := Lib.hid (B7.out.grown g8.out B7.out.size (fun q hq => by have h1 := Option.some.inj hq; have h2 := ll26.out; omega))
          have r8 := Lib.hid ((rr29.out.keepVar vn29.out (by decide) g7.out).keepVar v8'.out (by decide) g8.out)
          have h7 := hh29.out.keepVar vn29.out (by decide) g7.out
          have h8 := Lib.hid (h7.keepVar v8'.out (by decide) g8.out)
          have lt7 : (wp28.heap.size) < (((wp28.alloc (.cells zRows 115)).setCells (wp28.heap.size) 0 CR27.toList).setCells (w2.heap.size) 0 CH28.toList).heap.size := Nat.lt_of_lt_of_le (Nat.lt_of_lt_of_le vn29.out.lt g7.out.size) g8.out.size
          have lt8 : (w2.heap.size) < (((wp28.alloc (.cells zRows 115)).setCells (wp28.heap.size) 0 CR27.toList).setCells (w2.heap.size) 0 CH28.toList).heap.size := Nat.lt_of_lt_of_le v8'.out.lt g8.out.size
          refine wpAnyH_ready (rs := [6]) (fuel := 1) (by kernel_rfl) (by simp) ?_
          refine AllReadyH.cons rfl (fun K hK => ?_) AllReadyH.nil
          rw [if_pos (by rfl)]
          refine wp_store_mid _ _ _ rfl (wp28.heap.size) 0 CR27.toList.toArray rfl rfl t7.out (by rw [List.size_toArray, HLR.out]; kernel_rfl) on7.out ?_
          refine hK.out _ _ ⟨B7.out, KS.out _ B7.out⟩ (fun hHeld => ?_)
          clear hK K
          refine wpAnyH_ready (rs := [7]) (fuel := 0) (by kernel_rfl) (by simp) ?_
          refine AllReadyH.cons rfl (fun K hK => ?_) AllReadyH.nil
          rw [if_pos (by rfl)]
          refine wp_store_mid _ _ _ rfl (w2.heap.size) 0 CH28.toList.toArray rfl rfl t8.out (by rw [List.size_toArray, HLH.out]; kernel_rfl) on8.out ?_
          refine hK.out _ _ ⟨B8.out, KS.out _ B8.out⟩ (fun hHeld => ?_)
          clear hK K
          refine wpAnyH_done (by kernel_rfl) ?_ _
          exact REST.out (wp28.heap.size, w2.heap.size, CR27, CH28) _ ⟨B8.out, rg7'.out, lt7, rg8.out, lt8, ⟨_, r8.out⟩, ⟨_, h8.out⟩⟩
        refine AllReadyH.cons rfl (fun K hK => ?_) AllReadyH.nil
        have bb30 : Hid (Below w2.heap.size w2 (wp27.alloc (.cells zRows 115))) := bb27.out.trans (((Below.refl _ wp27).alloc (Nat.le_refl _) (.cells zRows 115)).mono bb27.out.size)
        have rr30 : Hid (RowsAt (wp27.alloc (.cells zRows 115)) _ CR27 steps) := rn27.out.below ((Below.refl _ wp27).alloc (Nat.le_refl _) (.cells zRows 115))
        have vb30 : Hid (VarIs (wp27.alloc (.cells zRows 115)) (w2.heap.size) zRows 143) := vb27.out.below ((Below.refl _ wp27).alloc (Nat.le_refl _) (.cells zRows 115))
        have vn30 : Hid (VarIs (wp27.alloc (.cells zRows 115)) (wp27.heap.size) zRows 115) := VarIs.new wp27 zRows 115 (by simp)
        have ll30 : Hid (w2.heap.size ≤ wp27.heap.size) := by have h1 := bb27.out.size; (try simp at h1); unfold Hid; omega
        go_simp
        refine hK.out _ _ ⟨bb30.out, KS.out _ bb30.out⟩ (fun hHeld => ?_)
        clear hK K
        try simp only [Act.put, List.setIfInBounds_toArray, List.set_cons_zero, List.set_cons_succ]
        refine wpAnyH_ready (rs := [3]) (fuel := 2) (by kernel_rfl) (by simp) ?_
        refine AllReadyH.cons rfl (fun K hK => ?_) AllReadyH.nil
        go_simp
        refine (hiddenTosOf_any st it _ _ a4 n4 c4 hids a5 n5 c5 steps _ (R4.out.below bb30.out) hn4 (R5.out.below bb30.out) HN5.out HLOW.out).mono ?_
        rintro e wp31 ⟨CH31, rfl, hC, hb⟩
        have bb31 : Hid (Below w2.heap.size w2 wp31) := bb30.out.trans (hb.mono bb30.out.size)
        have rr31 : Hid (RowsAt wp31 _ CR27 steps) := rr30.out.below hb
        have va31 : Hid (VarIs wp31 (wp27.heap.size) zRows 115) := vn30.out.below hb
        have vb31 : Hid (VarIs wp31 (w2.heap.size) zRows 143) := vb30.out.below hb
        have hn31 := Lib.hid hC
        clear hb hC
        go_wp2_with fail
        refine hK.out _ _ ⟨bb31.out, KS.out _ bb31.out⟩ (fun hHeld => ?_)
        clear hK K
        have lr : CR27.toList.length = 40 := by simpa using rr31.out.1
        have lh : CH31.toList.length = 40 := by simpa using hn31.out.1
        have HLR := Lib.hid lr
        have HLH := Lib.hid lh
        clear lr lh
        have ne78 : (wp27.heap.size) ≠ (w2.heap.size) := var_ne va31.out vb31.out (by decide)
        have t7 : Hid (wp31.there (wp27.heap.size) 0 CR27.toList.toArray.size) := va31.out.there (by rw [List.size_toArray, HLR.out]; rfl)
        have g7 := Lib.hid (grown_setCells (wp27.heap.size) CR27.toList 0 wp31)
        have on7 : Hid (CR27.toList.toArray.all (·.oneCell') = true) := all_oneCell_toArray (fun u hu => rr31.out.one u (by simpa using hu))
        have on8 : Hid (CH31.toList.toArray.all (·.oneCell') = true) := all_oneCell_toArray (fun u hu => hn31.out.one u (by simpa using hu))
        have v8' := Lib.hid (vb31.out.grown g7.out (fun e => ne78 (Option.some.inj e).symm))
        have t8 : Hid ((wp31.setCells (wp27.heap.size) 0 CR27.toList).there (w2.heap.size) 0 CH31.toList.toArray.size) := v8'.out.there (by rw [List.size_toArray, HLH.out]; rfl)
        have g8 := Lib.hid (grown_setCells (w2.heap.size) CH31.toList 0 (wp31.setCells (wp27.heap.size) 0 CR27.toList))
        have rg7 : Hid ((wp31.setCells (wp27.heap.size) 0 CR27.toList).rangeAt (wp27.heap.size) 0 CR27.toList) := World.rangeAt_setCells_same wp31 (wp27.heap.size) 0 CR27.toList (by simpa using t7.out)
        have rg8 : Hid (((wp31.setCells (wp27.heap.size) 0 CR27.toList).setCells (w2.heap.size) 0 CH31.toList).rangeAt (w2.heap.size) 0 CH31.toList) := World.rangeAt_setCells_same (wp31.setCells (wp27.heap.size) 0 CR27.toList) (w2.heap.size) 0 CH31.toList (by simpa using t8.out)
        have rg7' : Hid (((wp31.setCells (wp27.heap.size) 0 CR27.toList).setCells (w2.heap.size) 0 CH31.toList).rangeAt (wp27.heap.size) 0 CR27.toList) := range_grown rg7.out g8.out ne78
        have B7 := Lib.hid (bb31.out.grown g7.out bb31.out.size (fun q hq => by have h1 := Option.some.inj hq; have h2 := ll30.out; omega))
        have B8 := Lib.hid (B7.out.grown g8.out B7.out.size (fun q hq => by have h1 := Option.some.inj hq; have h2 := ll26.out; omega))
        have r8 := Lib.hid ((rr31.out.keepVar va31.out (by decide) g7.out).keepVar v8'.out (by decide) g8.out)
        have h7 := hn31.out.keepVar va31.out (by decide) g7.out
        have h8 := Lib.hid (h7.keepVar v8'.out (by decide) g8.out)
        have lt7 : (wp27.heap.size) < ((wp31.setCells (wp27.heap.size) 0 CR27.toList).setCells (w2.heap.size) 0 CH31.toList).heap.size := Nat.lt_of_lt_of_le (Nat.lt_of_lt_of_le va31.out.lt g7.out.size) g8.out.size
        have lt8 : (w2.heap.size) < ((wp31.setCells (wp27.heap.size) 0 CR27.toList).setCells (w2.heap.size) 0 CH31.toList).heap.size := Nat.lt_of_lt_of_le v8'.out.lt g8.out.size
        refine wpAnyH_ready (rs := [6]) (fuel := 1) (by kernel_rfl) (by simp) ?_
        refine AllReadyH.cons rfl (fun K hK => ?_) AllReadyH.nil
        rw [if_pos (by rfl)]
        refine wp_store_mid _ _ _ rfl (wp27.heap.size) 0 CR27.toList.toArray rfl rfl t7.out (by rw [List.size_toArray, HLR.out]; kernel_rfl) on7.out ?_
        refine hK.out _ _ ⟨B7.out, KS.out _ B7.out⟩ (fun hHeld => ?_)
        clear hK K
        refine wpAnyH_ready (rs := [7]) (fuel := 0) (by kernel_rfl) (by simp) ?_
        refine AllReadyH.cons rfl (fun K hK => ?_) AllReadyH.nil
        rw [if_pos (by rfl)]
        refine wp_store_mid _ _ _ rfl (w2.heap.size) 0 CH31.toList.toArray rfl rfl t8.out (by rw [List.size_toArray, HLH.out]; kernel_rfl) on8.out ?_
        refine hK.out _ _ ⟨B8.out, KS.out _ B8.out⟩ (fun hHeld => ?_)
        clear hK K
        refine wpAnyH_done (by kernel_rfl) ?_ _
        exact REST.out (wp27.heap.size, w2.heap.size, CR27, CH31) _ ⟨B8.out, rg7'.out, lt7, rg8.out, lt8, ⟨_, r8.out⟩, ⟨_, h8.out⟩⟩
      refine AllReadyH.cons rfl (fun K hK => ?_) AllReadyH.nil
      have bb32 : Hid (Below w2.heap.size w2 ((w2.alloc (.cells zRows 143)).alloc (.cells zRows 115)).drew) := bb26.out.trans (((Below.refl _ (w2.alloc (.cells zRows 143)).drew).alloc (Nat.le_refl _) (.cells zRows 115)).mono bb26.out.size)
      have vb32 : Hid (VarIs ((w2.alloc (.cells zRows 143)).alloc (.cells zRows 115)).drew (w2.heap.size) zRows 143) := vn26.out.below ((Below.refl _ (w2.alloc (.cells zRows 143)).drew).alloc (Nat.le_refl _) (.cells zRows 115))
      have vn32 : Hid (VarIs ((w2.alloc (.cells zRows 143)).alloc (.cells zRows 115)).drew (w2.heap.size + 1) zRows 115) := VarIs.new (w2.alloc (.cells zRows 143)).drew zRows 115 (by simp)
      have ll32 : Hid (w2.heap.size ≤ w2.heap.size + 1) := by have h1 := bb26.out.size; (try simp at h1); unfold Hid; omega
      go_simp
      refine hK.out _ _ ⟨bb32.out, KS.out _ bb32.out⟩ (fun hHeld => ?_)
      clear hK K
      try simp only [Act.put, List.setIfInBounds_toArray, List.set_cons_zero, List.set_cons_succ]
      refine wpAnyH_ready (rs := [1]) (fuel := 3) (by kernel_rfl) (by simp) ?_
      refine AllReadyH.cons rfl (fun K hK => ?_) AllReadyH.nil
      go_simp
      refine (rowsOf_any st it _ _ _ a5 n5 c5 steps _ (R5.out.below bb32.out) HN5.out HLOW.out).mono ?_
      rintro e wp33 ⟨CR33, rfl, hC, hb⟩
      have bb33 : Hid (Below w2.heap.size w2 wp33) := bb32.out.trans (hb.mono bb32.out.size)
      have va33 : Hid (VarIs wp33 (w2.heap.size + 1) zRows 115) := vn32.out.below hb
      have vb33 : Hid (VarIs wp33 (w2.heap.size) zRows 143) := vb32.out.below hb
      have rn33 := Lib.hid hC
      clear hb hC
      go_wp2_with fail
      refine hK.out _ _ ⟨bb33.out, KS.out _ bb33.out⟩ (fun hHeld => ?_)
      clear hK K
      refine wpAnyH_ready (rs := [3]) (fuel := 2) (by kernel_rfl) (by simp) ?_
      refine AllReadyH.cons rfl (fun K hK => ?_) AllReadyH.nil
      go_simp
      refine (hiddenTosOf_any st it _ _ a4 n4 c4 hids a5 n5 c5 steps _ (R4.out.below bb33.out) hn4 (R5.out.below bb33.out) HN5.out HLOW.out).mono ?_
      rintro e wp34 ⟨CH34, rfl, hC, hb⟩
      have bb34 : Hid (Below w2.heap.size w2 wp34) := bb33.out.trans (hb.mono bb33.out.size)
      have rr34 : Hid (RowsAt wp34 _ CR33 steps) := rn33.out.below hb
      have va34 : Hid (VarIs wp34 (w2.heap.size + 1) zRows 115) := va33.out.below hb
      have vb34 : Hid (VarIs wp34 (w2.heap.size) zRows 143) := vb33.out.below hb
      have hn34 := Lib.hid hC
      clear hb hC
      go_wp2_with fail
      refine hK.out _ _ ⟨bb34.out, KS.out _ bb34.out⟩ (fun hHeld => ?_)
      clear hK K
      have lr : CR33.toList.length = 40 := by simpa using rr34.out.1
      have lh : CH34.toList.length = 40 := by simpa using hn34.out.1
      have HLR := Lib.hid lr
      have HLH := Lib.hid lh
      clear lr lh
      have ne78 : (w2.heap.size + 1) ≠ (w2.heap.size) := var_ne va34.out vb34.out (by decide)
      have t7 : Hid (wp34.there (w2.heap.size + 1) 0 CR33.toList.toArray.size) := va34.out.there (by rw [List.size_toArray, HLR.out]; rfl)
      have g7 := Lib.hid (grown_setCells (w2.heap.size + 1) CR33.toList 0 wp34)
      have on7 : Hid (CR33.toList.toArray.all (·.oneCell') = true) := all_oneCell_toArray (fun u hu => rr34.out.one u (by simpa using hu))
      have on8 : Hid (CH34.toList.toArray.all (·.oneCell') = true) := all_oneCell_toArray (fun u hu => hn34.out.one u (by simpa using hu))
      have v8' := Lib.hid (vb34.out.grown g7.out (fun e => ne78 (Option.some.inj e).symm))
      have t8 : Hid ((wp34.setCells (w2.heap.size + 1) 0 CR33.toList).there (w2.heap.size) 0 CH34.toList.toArray.size) := v8'.out.there (by rw [List.size_toArray, HLH.out]; rfl)
      have g8 := Lib.hid (grown_setCells (w2.heap.size) CH34.toList 0 (wp34.setCells (w2.heap.size + 1) 0 CR33.toList))
      have rg7 : Hid ((wp34.setCells (w2.heap.size + 1) 0 CR33.toList).rangeAt (w2.heap.size + 1) 0 CR33.toList) := World.rangeAt_setCells_same wp34 (w2.heap.size + 1) 0 CR33.toList (by simpa using t7.out)
      have rg8 : Hid (((wp34.setCells (w2.heap.size + 1) 0 CR33.toList).setCells (w2.heap.size) 0 CH34.toList).rangeAt (w2.heap.size) 0 CH34.toList) := World.rangeAt_setCells_same (wp34.setCells (w2.heap.size + 1) 0 CR33.toList) (w2.heap.size) 0 CH34.toList (by simpa using t8.out)
      have rg7' : Hid (((wp34.setCells (w2.heap.size + 1) 0 CR33.toList).setCells (w2.heap.size) 0 CH34.toList).rangeAt (w2.heap.size + 1) 0 CR33.toList) := range_grown rg7.out g8.out ne78
      have B7 := Lib.hid (bb34.out.grown g7.out bb34.out.size (fun q hq => by have h1 := Option.some.inj hq; have h2 := ll32.out; omega))
      have B8 := Lib.hid (B7.out.grown g8.out B7.out.size (fun q hq => by have h1 := Option.some.inj hq; have h2 := ll26.out; omega))
      have r8 := Lib.hid ((rr34.out.keepVar va34.out (by decide) g7.out).keepVar v8'.out (by decide) g8.out)
      have h7 := hn34.out.keepVar va34.out (by decide) g7.out
      have h8 := Lib.hid (h7.keepVar v8'.out (by decide) g8.out)
      have lt7 : (w2.heap.size + 1) < ((wp34.setCells (w2.heap.size + 1) 0 CR33.toList).setCells (w2.heap.size) 0 CH34.toList).heap.size := Nat.lt_of_lt_of_le (Nat.lt_of_lt_of_le va34.out.lt g7.out.size) g8.out.size
      have lt8 : (w2.heap.size) < ((wp34.setCells (w2.heap.size + 1) 0 CR33.toList).setCells (w2.heap.size) 0 CH34.toList).heap.size := Nat.lt_of_lt_of_le v8'.out.lt g8.out.size
      refine wpAnyH_ready (rs := [6]) (fuel := 1) (by kernel_rfl) (by simp) ?_
      refine AllReadyH.cons rfl (fun K hK => ?_) AllReadyH.nil
      rw [if_pos (by rfl)]
      refine wp_store_mid _ _ _ rfl (w2.heap.size + 1) 0 CR33.toList.toArray rfl rfl t7.out (by rw [List.size_toArray, HLR.out]; kernel_rfl) on7.out ?_
      refine hK.out _ _ ⟨B7.out, KS.out _ B7.out⟩ (fun hHeld => ?_)
      clear hK K
      refine wpAnyH_ready (rs := [7]) (fuel := 0) (by kernel_rfl) (by simp) ?_
      refine AllReadyH.cons rfl (fun K hK => ?_) AllReadyH.nil
      rw [if_pos (by rfl)]
      refine wp_store_mid _ _ _ rfl (w2.heap.size) 0 CH34.toList.toArray rfl rfl t8.out (by rw [List.size_toArray, HLH.out]; kernel_rfl) on8.out ?_
      refine hK.out _ _ ⟨B8.out, KS.out _ B8.out⟩ (fun hHeld => ?_)
      clear hK K
      refine wpAnyH_done (by kernel_rfl) ?_ _
      exact REST.out (w2.heap.size + 1, w2.heap.size, CR33, CH34) _ ⟨B8.out, rg7'.out, lt7, rg8.out, lt8, ⟨_, r8.out⟩, ⟨_, h8.out⟩⟩

end Go.Proofs.YtdbgjgeglgipiaaGreat
