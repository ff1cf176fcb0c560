/-
  The contract of the program's outlookOf: what is surely taken and may be said, as bits, and for each action the states that one may come to. Conditions: the automaton is right and its lists have at most 2^20 elements; the state is one of it.
-/
import Derived.Test.YtdbgjgeglgipiaaGreatUnseen
import Derived.Test.YtdbgjgeglgipiaaGreatRisen
import Derived.Test.YtdbgjgeglgipiaaGreatTwo
import Derived.WalkMore
namespace Go.Proofs.YtdbgjgeglgipiaaGreat
open Go.RowKit

/-- Fourteen cells: two masks, and rows of the call's own for the first 'k' actions. -/
def OutX (W : World) (base : Nat) (f : Nat → List Int) (k : Nat) (C : Array Value) (M N : Int) : Prop :=
  C.size = 14 ∧ C[0]? = some (.int .u16 M) ∧ C[1]? = some (.int .u16 N) ∧ (∀ i, i < k → ∃ v, C[2 + i]? = some v ∧ Owns W base v (f i).length (f i)) ∧ (∀ i, k ≤ i → i < 12 → C[2 + i]? = some (.slice none 0 0))

theorem OutX.below {W W' : World} {base : Nat} {f : Nat → List Int} {k : Nat} {C : Array Value} {M N : Int} (h : OutX W base f k C M N) (hb : Below W.heap.size W W') : OutX W' base f k C M N :=
  ⟨h.1, h.2.1, h.2.2.1, fun i hi => by obtain ⟨v, h1, h2⟩ := h.2.2.2.1 i hi; exact ⟨v, h1, h2.below hb⟩, h.2.2.2.2⟩

theorem OutX.grown {W W' : World} {base b : Nat} {f : Nat → List Int} {k : Nat} {C E : Array Value} {t : TypeId} {M N : Int} (h : OutX W base f k C M N) (hv : VarIs W b E t) (ht : 3 ≠ t) (hg : W.grownBy W' (some b)) : OutX W' base f k C M N :=
  ⟨h.1, h.2.1, h.2.2.1, fun i hi => by obtain ⟨v, h1, h2⟩ := h.2.2.2.1 i hi; exact ⟨v, h1, World.ownsRow.kept h2 hg (Or.inr (own_var h2 hv ht))⟩, h.2.2.2.2⟩

theorem OutX.put {W : World} {base : Nat} {f : Nat → List Int} {k : Nat} {C : Array Value} {M N : Int} (h : OutX W base f k C M N) (hk : k < 12) {v : Value} (hv : Owns W base v (f k).length (f k)) : OutX W base f (k + 1) (C.setIfInBounds (2 + k) v) M N := by
  obtain ⟨h0, h1, h2, h3, h4⟩ := h
  refine ⟨by simpa using h0, ?_, ?_, fun i hi => ?_, fun i hi hi2 => ?_⟩
  · rw [Array.getElem?_setIfInBounds_ne (by omega)]; exact h1
  · rw [Array.getElem?_setIfInBounds_ne (by omega)]; exact h2
  · by_cases e : i = k
    · subst e
      exact ⟨v, by rw [Array.getElem?_setIfInBounds_self_of_lt (by omega)], hv⟩
    · obtain ⟨u, hu, ho⟩ := h3 i (by omega)
      exact ⟨u, by rw [Array.getElem?_setIfInBounds_ne (by omega)]; exact hu, ho⟩
  · rw [Array.getElem?_setIfInBounds_ne (by omega)]
    exact h4 i (by omega) hi2

theorem OutX.one {W : World} {base : Nat} {f : Nat → List Int} {C : Array Value} {M N : Int} (h : OutX W base f 12 C M N) : ∀ u ∈ C, u.oneCell' = true := by
  intro u hu
  obtain ⟨h0, h1, h2, h3, _⟩ := h
  obtain ⟨i, hi, rfl⟩ := Array.getElem_of_mem hu
  have e := Array.getElem?_eq_getElem hi
  match i, hi, e with
  | 0, hi, e => rw [h1] at e; rw [← Option.some.inj e]; rfl
  | 1, hi, e => rw [h2] at e; rw [← Option.some.inj e]; rfl
  | i + 2, hi, e =>
    obtain ⟨v, hv, ho⟩ := h3 i (by omega)
    rw [Nat.add_comm 2 i] at hv
    rw [hv] at e
    obtain ⟨a, c, rfl⟩ := ho.form
    rw [← Option.some.inj e]
    rfl

/-- What chapter 4 answers of one state. -/
def OutC (W : World) (base : Nat) (a : IaD) (s : Int) (C : Array Value) : Prop :=
  ∃ M N, Mask M (maskOf (sureOf a s)) ∧ Mask N (maskOf (sayOf a s)) ∧ OutX W base (fun i => farOf a s (i : Int)) 12 C M N

theorem OutC.below {W W' : World} {base : Nat} {a : IaD} {s : Int} {C : Array Value} (h : OutC W base a s C) (hb : Below W.heap.size W W') : OutC W' base a s C := by
  obtain ⟨M, N, h1, h2, h3⟩ := h
  exact ⟨M, N, h1, h2, h3.below hb⟩

def zOut : Array Value := #[.int .u16 0, .int .u16 0, .slice none 0 0, .slice none 0 0, .slice none 0 0, .slice none 0 0, .slice none 0 0, .slice none 0 0, .slice none 0 0, .slice none 0 0, .slice none 0 0, .slice none 0 0, .slice none 0 0, .slice none 0 0]

theorem outX_start (W : World) (base : Nat) (f : Nat → List Int) (M N : Int) : OutX W base f 0 ((zOut.setIfInBounds 0 (.int .u16 M)).setIfInBounds 1 (.int .u16 N)) M N := by
  refine ⟨rfl, rfl, rfl, fun i hi => absurd hi (Nat.not_lt_zero _), fun i _ hi => ?_⟩
  match i, hi with
  | 0, _ => rfl
  | 1, _ => rfl
  | 2, _ => rfl
  | 3, _ => rfl
  | 4, _ => rfl
  | 5, _ => rfl
  | 6, _ => rfl
  | 7, _ => rfl
  | 8, _ => rfl
  | 9, _ => rfl
  | 10, _ => rfl
  | 11, _ => rfl

set_option maxRecDepth 20000 in
set_option maxHeartbeats 6400000 in
theorem outlookOf_any (a : IaD) (v : Value) (s : Int) (w : World) (h : IaRow w a v) (fa : Small a) (hok : iaOkB a = true) (hs : stateB a s = true) :
    Calls Tryz.prog 37 #[v, .int .i64 s] w fun e w' => ∃ C, e = .returned (.agg C) ∧ OutC w' w.heap.size a s C ∧ Below w.heap.size w w' := by
  obtain ⟨f2, f3, f4, f5⟩ := fa
  have hrun : runIf a [s] = closeOf a s := by
    rw [runIf_one]
    unfold closeIf
    rw [hok, hs]
    rfl
  have CR : Hid (∀ W fb fc, Below w.heap.size w W → Row W fb 1 [s] → Calls Tryz.prog 72 #[v, .slice fb 1 fc] W fun e w' => ∃ ad c, e = .returned (.slice ad (closeOf a s).length c) ∧ RowRows w' ad (closeOf a s).length ((closeOf a s).map (rowL a.steps)) ∧ Below W.heap.size W w') := fun W fb fc hW hf => by
    rw [← hrun]
    exact rowsUnseen_any a v fb 1 fc [s] W (h.below hW) f2 f3 f4 f5 hf (by omega)
  have hn40 := close_low hok hs
  obtain ⟨n, hn⟩ : ∃ n, n = (closeOf a s).length := ⟨_, rfl⟩
  rw [← hn] at CR hn40
  obtain ⟨SU, hSU⟩ : ∃ l, l = sureOf a s := ⟨_, rfl⟩
  obtain ⟨SA, hSA⟩ : ∃ l, l = sayOf a s := ⟨_, rfl⟩
  have lSU : SU.length ≤ 2097152 := by
    have h1 : (sureOf a s).length ≤ a.ins.length := rises_len (ys := a.ins) (by rw [← sureP_eq]; exact sureP_rises _) (fun y hy => (mem_sure.1 hy).1)
    rw [hSU]
    omega
  have lSA : SA.length ≤ 2097152 := by
    have h1 : (sayOf a s).length ≤ a.outs.length := rises_len (ys := a.outs) (foldJoin_rises List.Pairwise.nil) (fun y hy => by
      obtain ⟨x, _, hx⟩ := mem_say.1 hy
      exact (mem_ofL.1 hx).1)
    rw [hSA]
    omega
  have hfar : ∀ i : Nat, ris (((closeOf a s).map (rowL a.steps)).flatMap fun r => afterR r (i : Int)) = farOf a s (i : Int) := fun i => by
    rw [← far_eq, List.flatMap_map]
    rfl
  obtain ⟨a2, n2, c2, a3, n3, c3, a4, n4, c4, a5, n5, c5, rfl, r2, r3, r4, r5⟩ := h
  obtain ⟨st, it, ins, outs, hids, steps⟩ := a
  simp only at r2 r3 r4 r5 f2 f3 f4 f5 hfar
  have k2 : n2 ≤ 1048576 := by have := r2.1; omega
  have k3 : n3 ≤ 1048576 := by have := r3.1; omega
  have hlen := iaOk_len hok
  have HCA : Hid (∀ W ad c, RowRows W ad n ((closeOf ⟨st, it, ins, outs, hids, steps⟩ s).map (rowL steps)) → Below w.heap.size w W → Calls Tryz.prog 74 #[.slice ad n c, .slice a2 n2 c2] W fun e w' => ∃ b d, e = .returned (.slice b SU.length d) ∧ Row w' b SU.length SU ∧ Below W.heap.size W w') := fun W ad c hr hW => by
    refine (actsOfAll_any ⟨st, it, ins, outs, hids, steps⟩ ad n c (closeOf ⟨st, it, ins, outs, hids, steps⟩ s) a2 n2 c2 ins W hr hn40 (fun _ => hok) (r2.below hW) k2).mono ?_
    rintro e w' ⟨v', rfl, ho, hb⟩
    rw [sureP_eq (a := ⟨st, it, ins, outs, hids, steps⟩), ← hSU] at ho
    obtain ⟨b, d, rfl⟩ := ho.form
    exact ⟨b, d, rfl, ho.row.2.2.2, hb⟩
  have HCS : Hid (∀ W ad c, RowRows W ad n ((closeOf ⟨st, it, ins, outs, hids, steps⟩ s).map (rowL steps)) → Below w.heap.size w W → Calls Tryz.prog 75 #[.slice ad n c, .slice a3 n3 c3] W fun e w' => ∃ b d, e = .returned (.slice b SA.length d) ∧ Row w' b SA.length SA ∧ Below W.heap.size W w') := fun W ad c hr hW => by
    refine (actsOfSome_any ⟨st, it, ins, outs, hids, steps⟩ ad n c (closeOf ⟨st, it, ins, outs, hids, steps⟩ s) a3 n3 c3 outs W hr hn40 (fun _ => hok) (r3.below hW) k3).mono ?_
    rintro e w' ⟨v', rfl, ho, hb⟩
    have e2 : (closeOf ⟨st, it, ins, outs, hids, steps⟩ s).foldl (fun o x => joinOf o (ofL steps x outs)) [] = SA := hSA.symm
    simp only [e2] at ho
    obtain ⟨b, d, rfl⟩ := ho.form
    exact ⟨b, d, rfl, ho.row.2.2.2, hb⟩
  have HCT : Hid (∀ W ad c (i : Nat), RowRows W ad n ((closeOf ⟨st, it, ins, outs, hids, steps⟩ s).map (rowL steps)) → Calls Tryz.prog 76 #[.slice ad n c, .int .i64 (i : Int)] W fun e w' => ∃ v', e = .returned v' ∧ Owns w' W.heap.size v' (farOf ⟨st, it, ins, outs, hids, steps⟩ s (i : Int)).length (farOf ⟨st, it, ins, outs, hids, steps⟩ s (i : Int)) ∧ Below W.heap.size W w') := fun W ad c i hr => by
    have h1 := tosOfRows_any ad n c ((closeOf ⟨st, it, ins, outs, hids, steps⟩ s).map (rowL steps)) (i : Int) W hr (by omega) (fun r hr => by
      obtain ⟨x, _, rfl⟩ := List.mem_map.1 hr
      exact Nat.le_trans (rowL_len _ _) hlen)
    rw [hfar i] at h1
    exact h1
  have HMS : Hid (∀ M, Mask M (maskOf SU) → Mask M (maskOf (sureOf ⟨st, it, ins, outs, hids, steps⟩ s))) := fun M hM => by rw [← hSU]; exact hM
  have HMA : Hid (∀ M, Mask M (maskOf SA) → Mask M (maskOf (sayOf ⟨st, it, ins, outs, hids, steps⟩ s))) := fun M hM => by rw [← hSA]; exact hM
  have V0 : Hid (VarIs (((w.alloc (.cells #[.int .i64 st, .int .i64 it, .slice a2 n2 c2, .slice a3 n3 c3, .slice a4 n4 c4, .slice a5 n5 c5] 31)).alloc (.cells zOut 67)).alloc (.cells #[.int .i64 s] 3)) w.heap.size #[.int .i64 st, .int .i64 it, .slice a2 n2 c2, .slice a3 n3 c3, .slice a4 n4 c4, .slice a5 n5 c5] 31) := ((VarIs.new w _ _ rfl).alloc _).alloc _
  have V4 : Hid (VarIs (((w.alloc (.cells #[.int .i64 st, .int .i64 it, .slice a2 n2 c2, .slice a3 n3 c3, .slice a4 n4 c4, .slice a5 n5 c5] 31)).alloc (.cells zOut 67)).alloc (.cells #[.int .i64 s] 3)) (w.heap.size + 1) zOut 67) := (VarIs.new _ _ _ (by simp)).alloc _
  have RF : Hid (Row (((w.alloc (.cells #[.int .i64 st, .int .i64 it, .slice a2 n2 c2, .slice a3 n3 c3, .slice a4 n4 c4, .slice a5 n5 c5] 31)).alloc (.cells zOut 67)).alloc (.cells #[.int .i64 s] 3)) (some ⟨w.heap.size + 1 + 1, 0, none⟩) 1 [s]) := row_one _ s _ (by simp)
  have B0 : Hid (Below w.heap.size w (((w.alloc (.cells #[.int .i64 st, .int .i64 it, .slice a2 n2 c2, .slice a3 n3 c3, .slice a4 n4 c4, .slice a5 n5 c5] 31)).alloc (.cells zOut 67)).alloc (.cells #[.int .i64 s] 3))) := (((Below.refl _ _).alloc (Nat.le_refl _) _).alloc (by simp) _).alloc (by simp; omega) _
  obtain ⟨w0, hw0⟩ : ∃ x, x = ((w.alloc (.cells #[.int .i64 st, .int .i64 it, .slice a2 n2 c2, .slice a3 n3 c3, .slice a4 n4 c4, .slice a5 n5 c5] 31)).alloc (.cells zOut 67)).alloc (.cells #[.int .i64 s] 3) := ⟨_, rfl⟩
  rw [← hw0] at V0 V4 RF B0
  have HW0 : Hid (((w.alloc (.cells #[.int .i64 st, .int .i64 it, .slice a2 n2 c2, .slice a3 n3 c3, .slice a4 n4 c4, .slice a5 n5 c5] 31)).alloc (.cells #[.int .u16 0, .int .u16 0, .slice none 0 0, .slice none 0 0, .slice none 0 0, .slice none 0 0, .slice none 0 0, .slice none 0 0, .slice none 0 0, .slice none 0 0, .slice none 0 0, .slice none 0 0, .slice none 0 0, .slice none 0 0] 67)).alloc (.cells #[.int .i64 s] 3) = w0) := hw0.symm
  clear hw0 r2 r3 r4 r5 f2 f3 f4 f5 hok hs hSU hSA hrun hfar hlen hn k2 k3
  go_enter Tryz.func37, Tryz.ntmps37
  go_wp2_with fail
  rw [HW0.out]
  clear HW0
  refine (CR.out _ _ _ B0.out RF.out).mono ?_
  rintro e w1 ⟨ad, c, rfl, hr, hb⟩
  have B1 : Hid (Below w.heap.size w w1) := B0.out.trans (hb.mono B0.out.size)
  have RR1 := Lib.hid hr
  have V1 := Lib.hid (V0.out.below hb)
  have V41 := Lib.hid (V4.out.below hb)
  clear hb hr V0 V4 RF B0 CR
  obtain ⟨w2, hw2⟩ : ∃ x, x = w1.alloc (.cells zOut 67) := ⟨_, rfl⟩
  have BW : Hid (Below w1.heap.size w1 w2) := by rw [hw2]; exact (Below.refl _ _).alloc (Nat.le_refl _) _
  have VX : Hid (VarIs w2 w1.heap.size zOut 67) := by rw [hw2]; exact VarIs.new w1 _ _ rfl
  have HW2 : Hid (w1.alloc (.cells #[.int .u16 0, .int .u16 0, .slice none 0 0, .slice none 0 0, .slice none 0 0, .slice none 0 0, .slice none 0 0, .slice none 0 0, .slice none 0 0, .slice none 0 0, .slice none 0 0, .slice none 0 0, .slice none 0 0, .slice none 0 0] 67) = w2) := hw2.symm
  have hz2 : w2.heap.size = w1.heap.size + 1 := by rw [hw2]; simp
  clear hw2
  have m2 := (((Below.refl w1.heap.size w1).alloc (Nat.le_refl _) (.cells zOut 67)).cell (p := ⟨w.heap.size, 2, none⟩) V1.out.lt).trans (V1.out.cell (j := 2) (u := .slice a2 n2 c2) rfl)
  unfold zOut at m2
  go_wp2_with fail
  clear m2
  rw [HW2.out]
  clear HW2
  refine (HCA.out _ _ _ (RR1.out.below BW.out) (B1.out.trans (BW.out.mono B1.out.size))).mono ?_
  rintro e w3 ⟨b, d, rfl, hrow, hb⟩
  have BW3 : Hid (Below w1.heap.size w1 w3) := BW.out.trans (hb.mono BW.out.size)
  have VX3 := Lib.hid (VX.out.below hb)
  have HR3 := Lib.hid hrow
  clear hb hrow BW VX hz2
  go_wp2_with fail
  refine (takeApart_any b SU.length d SU _ HR3.out lSU).mono ?_
  rintro e w4 ⟨M, v4, rfl, hM, _, hb⟩
  have BW4 : Hid (Below w1.heap.size w1 w4) := BW3.out.trans (hb.mono BW3.out.size)
  have VX4 := Lib.hid (VX3.out.below hb)
  have HM := Lib.hid (HMS.out M hM)
  clear hb hM BW3 VX3 HR3 HMS HCA
  have x0 := VX4.out.cell (j := 0) (u := .int .u16 0) rfl
  have y0 := VX4.out.frozen 0
  obtain ⟨w5, hw5⟩ : ∃ x, x = w4.setCell ⟨w1.heap.size, 0, none⟩ (.int .u16 M) := ⟨_, rfl⟩
  have BW5 : Hid (Below w1.heap.size w1 w5) := by rw [hw5]; exact below_setCell BW4.out (Nat.le_refl _) _
  have VX5 : Hid (VarIs w5 w1.heap.size (zOut.setIfInBounds 0 (.int .u16 M)) 67) := by rw [hw5]; exact VX4.out.set 0 _
  have V5 : Hid (VarIs w5 w.heap.size #[.int .i64 st, .int .i64 it, .slice a2 n2 c2, .slice a3 n3 c3, .slice a4 n4 c4, .slice a5 n5 c5] 31) := V1.out.below BW5.out
  have m3 := V5.out.cell (j := 3) (u := .slice a3 n3 c3) rfl
  have HW5 : Hid (w4.setCell ⟨w1.heap.size, 0, none⟩ (.int .u16 M) = w5) := hw5.symm
  rw [hw5] at m3
  clear hw5
  go_wp2_with fail
  clear x0 y0 m3
  rw [HW5.out]
  clear HW5 BW4 VX4
  refine (HCS.out _ _ _ (RR1.out.below BW5.out) (B1.out.trans (BW5.out.mono B1.out.size))).mono ?_
  rintro e w6 ⟨b6, d6, rfl, hrow, hb⟩
  have BW6 : Hid (Below w1.heap.size w1 w6) := BW5.out.trans (hb.mono BW5.out.size)
  have VX6 := Lib.hid (VX5.out.below hb)
  have HR6 := Lib.hid hrow
  clear hb hrow BW5 VX5 V5
  go_wp2_with fail
  refine (takeApart_any b6 SA.length d6 SA _ HR6.out lSA).mono ?_
  rintro e w7 ⟨N, v7, rfl, hN, _, hb⟩
  have BW7 : Hid (Below w1.heap.size w1 w7) := BW6.out.trans (hb.mono BW6.out.size)
  have VX7 := Lib.hid (VX6.out.below hb)
  have HN := Lib.hid (HMA.out N hN)
  clear hb hN BW6 VX6 HR6 HMA HCS
  have x1 := VX7.out.cell (j := 1) (u := .int .u16 0) rfl
  have y1 := VX7.out.frozen 1
  obtain ⟨w8, hw8⟩ : ∃ x, x = w7.setCell ⟨w1.heap.size, 1, none⟩ (.int .u16 N) := ⟨_, rfl⟩
  have BW8 : Hid (Below w1.heap.size w1 w8) := by rw [hw8]; exact below_setCell BW7.out (Nat.le_refl _) _
  have VX8 : Hid (VarIs w8 w1.heap.size ((zOut.setIfInBounds 0 (.int .u16 M)).setIfInBounds 1 (.int .u16 N)) 67) := by rw [hw8]; exact VX7.out.set 1 _
  have HW8 : Hid (w7.setCell ⟨w1.heap.size, 1, none⟩ (.int .u16 N) = w8) := hw8.symm
  clear hw8
  go_wp2_with fail
  clear x1 y1
  rw [HW8.out]
  clear HW8 BW7 VX7
  go_loopw [30] (fun i wr => ∃ (k : Nat) (C : Array Value), k ≤ 12 ∧ i = .int .i64 (k : Int) ∧ Hid (Below w1.heap.size w1 wr) ∧ Hid (VarIs wr w1.heap.size C 67) ∧ Hid (OutX wr (w1.heap.size + 1) (fun i => farOf ⟨st, it, ins, outs, hids, steps⟩ s (i : Int)) k C M N)) (fun i _ => 12 - (intOf i).toNat)
  case atStart => exact ⟨0, _, by omega, rfl, BW8.out, VX8.out, outX_start _ _ _ _ _⟩
  case round =>
    clear BW8 VX8
    obtain ⟨k, C, hk, rfl, HB, HV, HX⟩ := hrel
    by_cases hlt : k < 12
    · have i1 : (0 : Int) ≤ (k : Int) := by omega
      have i2 : (k : Int) < 12 := by omega
      have CT := Lib.hid (HCT.out wr ad c k (RR1.out.below HB.out))
      go_wp2_with fail
      refine CT.out.mono ?_
      rintro e w' ⟨v', rfl, ho, hb⟩
      have HB1 : Hid (Below w1.heap.size w1 w') := HB.out.trans (hb.mono HB.out.size)
      have HV1 := Lib.hid (HV.out.below hb)
      have HX1 := Lib.hid ((HX.out.below hb).put hlt (ho.mono (by have := HV.out.lt; omega)))
      obtain ⟨ab, cb, rfl⟩ := ho.form
      have xk := HV1.out.cell (j := 2 + k) (HX.out.2.2.2.2 k (Nat.le_refl _) hlt)
      have yk := HV1.out.frozen (2 + k)
      obtain ⟨w'', hw''⟩ : ∃ x, x = w'.setCell ⟨w1.heap.size, 2 + k, none⟩ (.slice ab (farOf ⟨st, it, ins, outs, hids, steps⟩ s (k : Int)).length cb) := ⟨_, rfl⟩
      have HB2 : Hid (Below w1.heap.size w1 w'') := by rw [hw'']; exact below_setCell HB1.out (Nat.le_refl _) _
      have HV2 : Hid (VarIs w'' w1.heap.size (C.setIfInBounds (2 + k) (.slice ab (farOf ⟨st, it, ins, outs, hids, steps⟩ s (k : Int)).length cb)) 67) := by rw [hw'']; exact HV1.out.set (2 + k) _
      have HX2 := Lib.hid (HX1.out.grown (W' := w'') HV1.out (by decide) (by rw [hw'']; exact grown_setCells w1.heap.size [.slice ab (farOf ⟨st, it, ins, outs, hids, steps⟩ s (k : Int)).length cb] (2 + k) w'))
      have HW : Hid (w'.setCell ⟨w1.heap.size, 2 + k, none⟩ (.slice ab (farOf ⟨st, it, ins, outs, hids, steps⟩ s (k : Int)).length cb) = w'') := hw''.symm
      clear ho hb hw'' HB HV HX CT HB1 HV1 HX1
      go_wp2_with fail
      clear xk yk
      try rw [HW.out]
      clear HW
      go_roundw
      case rel => exact ⟨k + 1, _, by omega, by go_num, HB2.out, HV2.out, HX2.out⟩
      case measure => simp [intOf]; omega
    · obtain rfl : k = 12 := by omega
      have hCl : C.toList.length = 14 := by simpa using HX.out.1
      have HCL := Lib.hid hCl
      have RG := Lib.hid HV.out.range
      have TH : Hid (wr.there (w.heap.size + 1) 0 C.toList.toArray.size) := (V41.out.below HB.out).there (by simp [HX.out.1, zOut])
      have ON : Hid (C.toList.toArray.all (·.oneCell') = true) := all_oneCell_toArray (fun u hu => HX.out.one u (by simpa using hu))
      have V4w := Lib.hid (V41.out.below HB.out)
      clear hCl
      go_wp2_with (first | refine wpList_load_mid rfl _ _ rfl w1.heap.size 0 rfl C.toList _ RG.out Tryz.underlying67 rfl (by rw [HCL.out]; kernel_rfl) ?_ | refine wpList_store_mid rfl _ _ _ rfl (w.heap.size + 1) 0 C.toList.toArray rfl rfl TH.out (by rw [List.size_toArray, HCL.out]; kernel_rfl) ON.out ?_)
      have RG2 : Hid ((wr.setCells (w.heap.size + 1) 0 C.toList).rangeAt (w.heap.size + 1) 0 C.toList) := World.rangeAt_setCells_same wr (w.heap.size + 1) 0 C.toList (by simpa using TH.out)
      have HGS := Lib.hid (grown_setCells (w.heap.size + 1) C.toList 0 wr)
      have hB : Below w.heap.size w wr := B1.out.trans (HB.out.mono B1.out.size)
      have hX := HX.out.grown V4w.out (by decide) HGS.out
      refine bodyPost_ret (v := .agg C) ?_ rfl ⟨C, rfl, ⟨M, N, HM.out, HN.out, hX.1, hX.2.1, hX.2.2.1, fun i hi => by obtain ⟨v, h1, h2⟩ := hX.2.2.2.1 i hi; exact ⟨v, h1, h2.mono (by have := B1.out.size; omega)⟩, hX.2.2.2.2⟩, hB.grown HGS.out hB.size (fun q hq => by cases hq; omega)⟩
      have HLD := run_loadVar_mid (P := Tryz.prog) _ (w.heap.size + 1) 0 67 C.toList _ RG2.out Tryz.underlying67 rfl (by rw [HCL.out]; kernel_rfl)
      simp [results, Tryz.results37, asAddr, Act.put, HLD]

end Go.Proofs.YtdbgjgeglgipiaaGreat
