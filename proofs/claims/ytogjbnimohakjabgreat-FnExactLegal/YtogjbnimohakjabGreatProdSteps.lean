import Derived.Test.YtogjbnimohakjabGreatStepOf
import Derived.Test.YtogjbnimohakjabGreatProdDef
import Derived.Test.YtogjbnimohakjabGreatIaLaw
import Derived.Test.YtogjbnimohakjabGreatClashMath
import Derived.Test.YtogjbnimohakjabGreatShared
/-
  Contracts of the program's stepsApart, stepsTogether. Conditions: both automata are right, their lists have at most 2^20 elements.
-/
namespace Go.Proofs.YtogjbnimohakjabGreat
open Go.RowKit

theorem besideA_len (su : Int) (m : Nat) (x : St) : (besideA su m x).length = m := by simp [besideA]
theorem besideB_len (su : Int) (m : Nat) (x : St) : (besideB su m x).length = m := by simp [besideB]

theorem aloneA_len (sh : List Int) (su : Int) (m : Nat) : ∀ ss : List St, (aloneA sh su m ss).length ≤ ss.length * m
  | [] => by simp [aloneA]
  | x :: r => by
    have h1 := aloneA_len sh su m r
    have h2 : aloneA sh su m (x :: r) = (if hasB sh x.2.1 then [] else besideA su m x) ++ aloneA sh su m r := rfl
    rw [h2, List.length_append, List.length_cons, Nat.succ_mul]
    split
    · simp; omega
    · rw [besideA_len]; omega

theorem aloneB_len (sh : List Int) (su : Int) (m : Nat) : ∀ ss : List St, (aloneB sh su m ss).length ≤ ss.length * m
  | [] => by simp [aloneB]
  | x :: r => by
    have h1 := aloneB_len sh su m r
    have h2 : aloneB sh su m (x :: r) = (if hasB sh x.2.1 then [] else besideB su m x) ++ aloneB sh su m r := rfl
    rw [h2, List.length_append, List.length_cons, Nat.succ_mul]
    split
    · simp; omega
    · rw [besideB_len]; omega

set_option maxRecDepth 20000 in
set_option maxHeartbeats 6400000 in
theorem stepsApart_any (a b : IaD) (v u : Value) (w : World) (h : IaRow w a v) (k : IaRow w b u) (fa : Small a) (fb : Small b) (oka : iaOkB a = true) (okb : iaOkB b = true) (sa : Option Addr) (sn sc : Nat) (sh : List Int) (hs : Row w sa sn sh) (hsn : sn ≤ 1048576) :
    Calls Tryz.prog 72 #[v, u, .slice sa sn sc] w fun e w' => ∃ v', e = .returned v' ∧ OwnsS 42 w' w.heap.size v' (aloneA sh b.states b.states.toNat a.steps ++ aloneB sh b.states a.states.toNat b.steps).length (aloneA sh b.states b.states.toNat a.steps ++ aloneB sh b.states a.states.toNat b.steps) ∧ Below w.heap.size w w' := by
  have sA := iaOk_states oka
  have sB := iaOk_states okb
  have eA := iaOk_ends oka
  have eB := iaOk_ends okb
  have lA := iaOk_len oka
  have lB := iaOk_len okb
  clear oka okb
  obtain ⟨a2, n2, c2, a3, n3, c3, a4, n4, c4, a5, n5, c5, rfl, r2, r3, r4, r5⟩ := h
  obtain ⟨b2, m2, d2, b3, m3, d3, b4, m4, d4, b5, m5, d5, rfl, q2, q3, q4, q5⟩ := k
  obtain ⟨st, it, ins, outs, hids, steps⟩ := a
  obtain ⟨su, iu, jns, juts, jids, jteps⟩ := b
  obtain ⟨f2, f3, f4, f5⟩ := fa
  obtain ⟨g2, g3, g4, g5⟩ := fb
  simp only at r2 r3 r4 r5 q2 q3 q4 q5 f2 f3 f4 f5 g2 g3 g4 g5
  have HA : Hid (∀ W, Below w.heap.size w W → IaRow W ⟨st, it, ins, outs, hids, steps⟩ (.agg #[.int .i64 st, .int .i64 it, .slice a2 n2 c2, .slice a3 n3 c3, .slice a4 n4 c4, .slice a5 n5 c5])) := fun W hW => IaRow.below ⟨a2, n2, c2, a3, n3, c3, a4, n4, c4, a5, n5, c5, rfl, r2, r3, r4, r5⟩ hW
  have HB : Hid (∀ W, Below w.heap.size w W → IaRow W ⟨su, iu, jns, juts, jids, jteps⟩ (.agg #[.int .i64 su, .int .i64 iu, .slice b2 m2 d2, .slice b3 m3 d3, .slice b4 m4 d4, .slice b5 m5 d5])) := fun W hW => IaRow.below ⟨b2, m2, d2, b3, m3, d3, b4, m4, d4, b5, m5, d5, rfl, q2, q3, q4, q5⟩ hW
  have S0 := Lib.hid (Box2.start w (iaC st it a2 n2 c2 a3 n3 c3 a4 n4 c4 a5 n5 c5) (iaC su iu b2 m2 d2 b3 m3 d3 b4 m4 d4 b5 m5 d5) 29)
  have e2 := r2.1
  have e3 := r3.1
  have e4 := r4.1
  have k2 := q2.1
  have k3 := q3.1
  have k4 := q4.1
  rw [e2] at f2
  rw [e3] at f3
  rw [e4] at f4
  rw [k2] at g2
  rw [k3] at g3
  rw [k4] at g4
  have R2 := Lib.hid r2
  have R3 := Lib.hid r3
  have R4 := Lib.hid r4
  have R5 := Lib.hid r5
  have Q2 := Lib.hid q2
  have Q3 := Lib.hid q3
  have Q4 := Lib.hid q4
  have Q5 := Lib.hid q5
  clear r2 r3 r4 r5 q2 q3 q4 q5
  clear HA HB R2 R3 R4 Q2 Q3 Q4
  simp only at sA sB eA eB lA lB ⊢
  have EA := Lib.hid eA
  have EB := Lib.hid eB
  have RSH := Lib.hid hs
  clear eA eB hs
  obtain ⟨nA, hnA⟩ : ∃ n, n = st.toNat := ⟨_, rfl⟩
  obtain ⟨nB, hnB⟩ : ∃ n, n = su.toNat := ⟨_, rfl⟩
  rw [← hnA, ← hnB]
  have hA40 : nA ≤ 40 := by omega
  have hB40 : nB ≤ 40 := by omega
  have HNA := Lib.hid hnA
  have HNB := Lib.hid hnB
  clear hnA hnB
  have HLA : Hid (∀ k, (aloneA sh su nB (steps.take k)).length ≤ 16000) := fun k => by
    have h1 := aloneA_len sh su nB (steps.take k)
    have h2 : (steps.take k).length * nB ≤ 400 * 40 := Nat.mul_le_mul (by rw [List.length_take]; omega) hB40
    omega
  have HLB : Hid (∀ k, (aloneB sh su nA (jteps.take k)).length ≤ 16000) := fun k => by
    have h1 := aloneB_len sh su nA (jteps.take k)
    have h2 : (jteps.take k).length * nA ≤ 400 * 40 := Nat.mul_le_mul (by rw [List.length_take]; omega) hA40
    omega
  obtain ⟨wz, hwz⟩ : ∃ x, x = ((w.alloc (.cells #[.int .i64 st, .int .i64 it, .slice a2 n2 c2, .slice a3 n3 c3, .slice a4 n4 c4, .slice a5 n5 c5] 29)).alloc (.cells #[.int .i64 su, .int .i64 iu, .slice b2 m2 d2, .slice b3 m3 d3, .slice b4 m4 d4, .slice b5 m5 d5] 29)) := ⟨_, rfl⟩
  have HSZ : Hid (wz.heap.size = w.heap.size + 2) := by unfold Hid; rw [hwz]; simp
  have RB0 : Hid (Below (w.heap.size + 2) wz ((w.alloc (.cells #[.int .i64 st, .int .i64 it, .slice a2 n2 c2, .slice a3 n3 c3, .slice a4 n4 c4, .slice a5 n5 c5] 29)).alloc (.cells #[.int .i64 su, .int .i64 iu, .slice b2 m2 d2, .slice b3 m3 d3, .slice b4 m4 d4, .slice b5 m5 d5] 29))) := by unfold Hid; rw [hwz, ← HSZ.out, hwz]; exact Below.refl _ _
  have HBX : Hid (∀ W, Below (w.heap.size + 2) wz W → Box2 w W w.heap.size (w.heap.size + 1) 29 (iaC st it a2 n2 c2 a3 n3 c3 a4 n4 c4 a5 n5 c5) (iaC su iu b2 m2 d2 b3 m3 d3 b4 m4 d4 b5 m5 d5)) := fun W hW => by
    rw [← HSZ.out] at hW
    have h0 : Box2 w wz w.heap.size (w.heap.size + 1) 29 (iaC st it a2 n2 c2 a3 n3 c3 a4 n4 c4 a5 n5 c5) (iaC su iu b2 m2 d2 b3 m3 d3 b4 m4 d4 b5 m5 d5) := by rw [hwz]; exact S0.out
    exact h0.below hW
  clear hwz
  obtain ⟨i0, hi0, hz0, hz1, hz2⟩ := info_parts (show (Tryz.prog.info? 42).map (fun i => (i.zero, i.size, i.bytes)) = some (some (.agg #[.int .i64 0, .int .i64 0, .int .i64 0]), 3, 24) by kernel_rfl)
  have ca5 := S0.out.2.1.cell (j := 5) (u := .slice a5 n5 c5) rfl
  go_enter Tryz.func72, Tryz.ntmps72
  go_wp2_with fail
  clear ca5
  go_loopw [7, 17] (fun pv iv wr => ∃ (k len : Nat) (v0 : Value) (L : List St), k ≤ n5 ∧ v0 = pv ∧ iv = .int .i64 (k : Int) ∧ Hid (OwnsS 42 wr (w.heap.size + 2) v0 len L) ∧ Hid (L = aloneA sh su nB (steps.take k)) ∧ Hid (Below (w.heap.size + 2) wz wr)) (fun _ iv _ => n5 - (intOf iv).toNat)
  case atStart => exact ⟨0, 0, _, [], Nat.zero_le _, rfl, rfl, World.ownsRow_nil _ _ _ _, rfl, RB0.out⟩
  case round =>
    clear RB0
    obtain ⟨k, len, v0, L, hk, rfl, rfl, HO, HT, HB⟩ := hrel
    by_cases hlt : k < n5
    · obtain ⟨b, off, rfl, hbx, hcell⟩ := R5.out.2 (by omega)
      have hkx : k < steps.length := by rw [R5.out.1]; exact hlt
      obtain ⟨⟨xf, xa, xt⟩, hs⟩ : ∃ t, t = steps[k] := ⟨_, rfl⟩
      obtain ⟨e0, e1, e2⟩ := hcell k steps[k] (List.getElem?_eq_getElem hkx)
      have hin := EA.out steps[k] (List.getElem_mem hkx)
      rw [← hs] at e0 e1 e2 hin
      simp only at hin
      have BWr := (HBX.out _ HB.out).1
      have g0 := (BWr.cell (p := ⟨b, off + k * 3, none⟩) hbx).trans e0
      have g1 := (BWr.cell (p := ⟨b, off + k * 3 + 1, none⟩) hbx).trans e1
      have g2 := (BWr.cell (p := ⟨b, off + k * 3 + 2, none⟩) hbx).trans e2
      simp only at g0 g1 g2
      have hszr : w.heap.size + 2 ≤ wr.heap.size := by have h1 := HB.out.size; have h2 := HSZ.out; omega
      have B1 : Hid (Below (w.heap.size + 2) wz (wr.alloc (.cells #[.int .i64 xf, .int .i64 xa, .int .i64 xt] 42))) := HB.out.alloc hszr _
      have X1 := Lib.hid (VarIs.new wr #[.int .i64 xf, .int .i64 xa, .int .i64 xt] 42 rfl)
      have O1 := Lib.hid (HO.out.alloc (.cells #[.int .i64 xf, .int .i64 xa, .int .i64 xt] 42))
      have N1 : Hid (v0.ownBlock ≠ some wr.heap.size) := fun e => by have := (HO.out.lt _ e).2; omega
      obtain ⟨q, hq⟩ : ∃ q, q = hasB sh xa := ⟨_, rfl⟩
      have CS : Hid (∀ W, Below w.heap.size w W → Calls Tryz.prog 117 #[.slice sa sn sc, .int .i64 xa] W fun e w' => e = .returned (.bool q) ∧ W = w') := fun W hW => by
        rw [hq]
        exact (implSetHas_any sa sn sc xa sh W (RSH.out.below hW) (by omega)).mono fun e w' h => ⟨h.1, h.2.symm⟩
      have HST : Hid (aloneA sh su nB (steps.take (k + 1)) = L ++ (if q then [] else besideA su nB (xf, xa, xt))) := by
        unfold Hid
        rw [HT.out, hq]
      
        unfold aloneA
        rw [List.take_succ_eq_append_getElem hkx, ← hs, List.flatMap_append, List.flatMap_singleton]
      have hlenL : len ≤ 100000 := by
        have h1 := HO.out.length
        rw [HT.out] at h1
        have h2 := HLA.out k
      
        rw [h1] at h2
        omega
      clear e0 e1 e2 hs hcell hq
      have x1 := X1.out.cell (j := 1) (u := .int .i64 xa) rfl
      go_wp2_with fail
      refine (CS.out _ (HBX.out _ B1.out).1).mono ?_
      rintro e wq ⟨rfl, rfl⟩
      clear x1 g0 g1 g2
      cases q with
      | true =>
        have HT2 : Hid (L = aloneA sh su nB (steps.take (k + 1))) := by unfold Hid; rw [HST.out]; simp
        go_wp2_with fail
        go_roundw
        case rel => exact ⟨k + 1, len, v0, L, by omega, rfl, by go_num, O1.out, HT2.out, B1.out⟩
        case measure => simp [intOf]; omega
      | false =>
        have HST2 : Hid (aloneA sh su nB (steps.take (k + 1)) = L ++ besideA su nB (xf, xa, xt)) := by unfold Hid; rw [HST.out]; simp
        have cc0 := (HBX.out _ B1.out).2.2.cell (j := 0) (u := .int .i64 su) rfl
        clear HST
        go_wp2_with fail
        clear cc0
        go_loopw [7, 27] (fun pv jv wr2 => ∃ (j len2 : Nat) (vx : Value) (L2 : List St), j ≤ nB ∧ vx = pv ∧ jv = .int .i64 (j : Int) ∧ Hid (OwnsS 42 wr2 (w.heap.size + 2) vx len2 L2) ∧ Hid (L2 = L ++ besideA su j (xf, xa, xt)) ∧ Hid (Below (w.heap.size + 2) wz wr2) ∧ Hid (VarIs wr2 wr.heap.size #[.int .i64 xf, .int .i64 xa, .int .i64 xt] 42) ∧ Hid (vx.ownBlock ≠ some wr.heap.size)) (fun _ jv _ => nB - (intOf jv).toNat)
        case atStart => exact ⟨0, len, _, L, Nat.zero_le _, rfl, rfl, O1.out, by simp [Hid, besideA], B1.out, X1.out, N1.out⟩
        case round =>
          have hlen0 := HO.out.length
          clear O1 B1 X1 N1 HO HB BWr hszr
          obtain ⟨j, len2, vx, L2, hj, rfl, rfl, HO, HT2, HB, HX, HNE⟩ := hrel
          by_cases hltj : (j : Int) < su
          · have hjn : j < nB := by have h1 := HNB.out; omega
            have hj40 : (j : Int) ≤ 40 := by omega
            have hlen2 : len2 ≤ 200000 := by
              have h1 := HO.out.length
              rw [HT2.out, List.length_append, hlen0] at h1
              have h2 : (besideA su j (xf, xa, xt)).length = j := by simp [besideA]
              omega
            have C1 : Hid (∀ W, Calls Tryz.prog 128 #[.agg #[.int .i64 su, .int .i64 iu, .slice b2 m2 d2, .slice b3 m3 d3, .slice b4 m4 d4, .slice b5 m5 d5], .agg #[.int .i64 xf, .int .i64 (j : Int)], .int .i64 xa, .agg #[.int .i64 xt, .int .i64 (j : Int)]] W fun e w' => e = .returned (.agg #[.int .i64 (xf * su + (j : Int)), .int .i64 xa, .int .i64 (xt * su + (j : Int))]) ∧ Below W.heap.size W w') := fun W => stepOfPairs_any su iu (.slice b2 m2 d2) (.slice b3 m3 d3) (.slice b4 m4 d4) (.slice b5 m5 d5) xf (j : Int) xa xt (j : Int) W (by omega) (by omega) (by omega) (by omega) (by omega)
            have HT3 : Hid (L2 ++ [(xf * su + (j : Int), xa, xt * su + (j : Int))] = L ++ besideA su (j + 1) (xf, xa, xt)) := by
              unfold Hid
              rw [HT2.out, List.append_assoc]
              unfold besideA
              rw [List.range_succ, List.map_append]
              rfl
            have xc0 := HX.out.cell (j := 0) (u := .int .i64 xf) rfl
            have xc1 := HX.out.cell (j := 1) (u := .int .i64 xa) rfl
            have xc2 := HX.out.cell (j := 2) (u := .int .i64 xt) rfl
            have cb0 := (HBX.out _ HB.out).2.2.cell (j := 0) (u := .int .i64 su) rfl
            have cb1 := (HBX.out _ HB.out).2.2.cell (j := 1) (u := .int .i64 iu) rfl
            have cb2 := (HBX.out _ HB.out).2.2.cell (j := 2) (u := .slice b2 m2 d2) rfl
            have cb3 := (HBX.out _ HB.out).2.2.cell (j := 3) (u := .slice b3 m3 d3) rfl
            have cb4 := (HBX.out _ HB.out).2.2.cell (j := 4) (u := .slice b4 m4 d4) rfl
            have cb5 := (HBX.out _ HB.out).2.2.cell (j := 5) (u := .slice b5 m5 d5) rfl
            go_wp2_with fail
            clear xc0 xc1 xc2 cb0 cb1 cb2 cb3 cb4 cb5
            refine (C1.out _).mono ?_
            rintro e w3 ⟨rfl, hb⟩
            have hszr : w.heap.size + 2 ≤ wr.heap.size := by have h1 := HB.out.size; have h2 := HSZ.out; omega
            have B3 : Hid (Below (w.heap.size + 2) wz w3) := HB.out.trans (hb.mono hszr)
            have O3 := Lib.hid (HO.out.below hb)
            have X3 := Lib.hid (HX.out.below hb)
            have hsz3 : w.heap.size + 2 ≤ w3.heap.size := Nat.le_trans hszr hb.size
            have hxl := X3.out.lt
            clear hb HB HO HX C1
            have T1 := O3.out.alloc (.cells #[.int .i64 (xf * su + (j : Int)), .int .i64 xa, .int .i64 (xt * su + (j : Int))] 42)
            have BT : Hid (Below (w.heap.size + 2) wz (w3.alloc (.cells #[.int .i64 (xf * su + (j : Int)), .int .i64 xa, .int .i64 (xt * su + (j : Int))] 42))) := B3.out.alloc hsz3 _
            have XT := Lib.hid (X3.out.alloc (.cells #[.int .i64 (xf * su + (j : Int)), .int .i64 xa, .int .i64 (xt * su + (j : Int))] 42))
            have SP : SrcS (w3.alloc (.cells #[.int .i64 (xf * su + (j : Int)), .int .i64 xa, .int .i64 (xt * su + (j : Int))] 42)) (some ⟨w3.heap.size, 0, none⟩) 1 1 [(xf * su + (j : Int), xa, xt * su + (j : Int))] := srcS_box w3 _ _ _
            go_wp2_with (at_builtin; refine wpList_appS_new rfl (.tmp 30) (.tmp 43) _ _ rfl (w.heap.size + 2) i0 Tryz.underlying27 hi0 hz0 hz1 hz2 _ len2 _ rfl T1 _ 1 _ [(xf * su + (j : Int), xa, xt * su + (j : Int))] rfl SP (by omega) (by simp; omega) ?_)
            rintro vz w4 ⟨hown, hgrow, hfr⟩
            have hne := HNE.out
            have B4 : Hid (Below (w.heap.size + 2) wz w4) := BT.out.grown hgrow (by simp; omega) (fun q hq => (T1.lt q hq).1)
            have X4 := Lib.hid (VarIs.grown XT.out hgrow (fun e => hne e.symm))
            have N4 := Lib.hid (hfr _ (by simp; omega) hne)
            have O4 := Lib.hid hown
            clear hown hgrow hfr hne T1 SP BT XT HNE O3 B3 X3
            go_wp2_with fail
            go_roundw
            case rel => exact ⟨j + 1, len2 + 1, vz, _, by omega, rfl, by go_num, O4.out, HT3.out, B4.out, X4.out, N4.out⟩
            case measure => simp [intOf]; omega
          · obtain rfl : nB = j := by have h1 := HNB.out; omega
            have HT3 : Hid (L2 = aloneA sh su nB (steps.take (k + 1))) := by unfold Hid; rw [HST2.out]; exact HT2.out
            go_wp2_with fail
            go_roundw
            case rel => exact ⟨k + 1, len2, vx, L2, by omega, rfl, by go_num, HO.out, HT3.out, HB.out⟩
            case measure => simp [intOf]; omega
    · have HFULL : Hid (L = aloneA sh su nB steps) := by
        have h1 := HT.out
        rw [List.take_of_length_le (by rw [R5.out.1]; omega)] at h1
        exact h1
      have dd5 := (HBX.out _ HB.out).2.2.cell (j := 5) (u := .slice b5 m5 d5) rfl
      go_wp2_with fail
      clear dd5
      go_loopw [7, 50] (fun pv iv wr => ∃ (k len : Nat) (v0 : Value) (L : List St), k ≤ m5 ∧ v0 = pv ∧ iv = .int .i64 (k : Int) ∧ Hid (OwnsS 42 wr (w.heap.size + 2) v0 len L) ∧ Hid (L = (aloneA sh su nB steps ++ aloneB sh su nA (jteps.take k))) ∧ Hid (Below (w.heap.size + 2) wz wr)) (fun _ iv _ => m5 - (intOf iv).toNat)
      case atStart => exact ⟨0, len, _, L, Nat.zero_le _, rfl, rfl, HO.out, by unfold Hid; rw [HFULL.out]; simp [aloneB], HB.out⟩
      case round =>
        clear HO HFULL HB HT
        obtain ⟨k, len, v0, L, hk, rfl, rfl, HO, HT, HB⟩ := hrel
        by_cases hlt : k < m5
        · obtain ⟨b, off, rfl, hbx, hcell⟩ := Q5.out.2 (by omega)
          have hkx : k < jteps.length := by rw [Q5.out.1]; exact hlt
          obtain ⟨⟨xf, xa, xt⟩, hs⟩ : ∃ t, t = jteps[k] := ⟨_, rfl⟩
          obtain ⟨e0, e1, e2⟩ := hcell k jteps[k] (List.getElem?_eq_getElem hkx)
          have hin := EB.out jteps[k] (List.getElem_mem hkx)
          rw [← hs] at e0 e1 e2 hin
          simp only at hin
          have BWr := (HBX.out _ HB.out).1
          have g0 := (BWr.cell (p := ⟨b, off + k * 3, none⟩) hbx).trans e0
          have g1 := (BWr.cell (p := ⟨b, off + k * 3 + 1, none⟩) hbx).trans e1
          have g2 := (BWr.cell (p := ⟨b, off + k * 3 + 2, none⟩) hbx).trans e2
          simp only at g0 g1 g2
          have hszr : w.heap.size + 2 ≤ wr.heap.size := by have h1 := HB.out.size; have h2 := HSZ.out; omega
          have B1 : Hid (Below (w.heap.size + 2) wz (wr.alloc (.cells #[.int .i64 xf, .int .i64 xa, .int .i64 xt] 42))) := HB.out.alloc hszr _
          have X1 := Lib.hid (VarIs.new wr #[.int .i64 xf, .int .i64 xa, .int .i64 xt] 42 rfl)
          have O1 := Lib.hid (HO.out.alloc (.cells #[.int .i64 xf, .int .i64 xa, .int .i64 xt] 42))
          have N1 : Hid (v0.ownBlock ≠ some wr.heap.size) := fun e => by have := (HO.out.lt _ e).2; omega
          obtain ⟨q, hq⟩ : ∃ q, q = hasB sh xa := ⟨_, rfl⟩
          have CS : Hid (∀ W, Below w.heap.size w W → Calls Tryz.prog 117 #[.slice sa sn sc, .int .i64 xa] W fun e w' => e = .returned (.bool q) ∧ W = w') := fun W hW => by
            rw [hq]
            exact (implSetHas_any sa sn sc xa sh W (RSH.out.below hW) (by omega)).mono fun e w' h => ⟨h.1, h.2.symm⟩
          have HST : Hid ((aloneA sh su nB steps ++ aloneB sh su nA (jteps.take (k + 1))) = L ++ (if q then [] else besideB su nA (xf, xa, xt))) := by
            unfold Hid
            rw [HT.out, hq, List.append_assoc]
            congr 1
            unfold aloneB
            rw [List.take_succ_eq_append_getElem hkx, ← hs, List.flatMap_append, List.flatMap_singleton]
          have hlenL : len ≤ 100000 := by
            have h1 := HO.out.length
            rw [HT.out] at h1
            have h2 := HLA.out n5
            have h3 := HLB.out k
            rw [List.length_append] at h1
            rw [List.take_of_length_le (by rw [R5.out.1]; omega)] at h2; omega
          clear e0 e1 e2 hs hcell hq
          have x1 := X1.out.cell (j := 1) (u := .int .i64 xa) rfl
          go_wp2_with fail
          refine (CS.out _ (HBX.out _ B1.out).1).mono ?_
          rintro e wq ⟨rfl, rfl⟩
          clear x1 g0 g1 g2
          cases q with
          | true =>
            have HT2 : Hid (L = (aloneA sh su nB steps ++ aloneB sh su nA (jteps.take (k + 1)))) := by unfold Hid; rw [HST.out]; simp
            go_wp2_with fail
            go_roundw
            case rel => exact ⟨k + 1, len, v0, L, by omega, rfl, by go_num, O1.out, HT2.out, B1.out⟩
            case measure => simp [intOf]; omega
          | false =>
            have HST2 : Hid ((aloneA sh su nB steps ++ aloneB sh su nA (jteps.take (k + 1))) = L ++ besideB su nA (xf, xa, xt)) := by unfold Hid; rw [HST.out]; simp
            have cc0 := (HBX.out _ B1.out).2.1.cell (j := 0) (u := .int .i64 st) rfl
            clear HST
            go_wp2_with fail
            clear cc0
            go_loopw [7, 60] (fun pv jv wr2 => ∃ (j len2 : Nat) (vx : Value) (L2 : List St), j ≤ nA ∧ vx = pv ∧ jv = .int .i64 (j : Int) ∧ Hid (OwnsS 42 wr2 (w.heap.size + 2) vx len2 L2) ∧ Hid (L2 = L ++ besideB su j (xf, xa, xt)) ∧ Hid (Below (w.heap.size + 2) wz wr2) ∧ Hid (VarIs wr2 wr.heap.size #[.int .i64 xf, .int .i64 xa, .int .i64 xt] 42) ∧ Hid (vx.ownBlock ≠ some wr.heap.size)) (fun _ jv _ => nA - (intOf jv).toNat)
            case atStart => exact ⟨0, len, _, L, Nat.zero_le _, rfl, rfl, O1.out, by simp [Hid, besideB], B1.out, X1.out, N1.out⟩
            case round =>
              have hlen0 := HO.out.length
              clear O1 B1 X1 N1 HO HB BWr hszr
              obtain ⟨j, len2, vx, L2, hj, rfl, rfl, HO, HT2, HB, HX, HNE⟩ := hrel
              by_cases hltj : (j : Int) < st
              · have hjn : j < nA := by have h1 := HNA.out; omega
                have hj40 : (j : Int) ≤ 40 := by omega
                have hlen2 : len2 ≤ 200000 := by
                  have h1 := HO.out.length
                  rw [HT2.out, List.length_append, hlen0] at h1
                  have h2 : (besideB su j (xf, xa, xt)).length = j := by simp [besideB]
                  omega
                have C1 : Hid (∀ W, Calls Tryz.prog 128 #[.agg #[.int .i64 su, .int .i64 iu, .slice b2 m2 d2, .slice b3 m3 d3, .slice b4 m4 d4, .slice (some ⟨b, off, none⟩) m5 d5], .agg #[.int .i64 (j : Int), .int .i64 xf], .int .i64 xa, .agg #[.int .i64 (j : Int), .int .i64 xt]] W fun e w' => e = .returned (.agg #[.int .i64 ((j : Int) * su + xf), .int .i64 xa, .int .i64 ((j : Int) * su + xt)]) ∧ Below W.heap.size W w') := fun W => stepOfPairs_any su iu (.slice b2 m2 d2) (.slice b3 m3 d3) (.slice b4 m4 d4) (.slice (some ⟨b, off, none⟩) m5 d5) (j : Int) xf xa (j : Int) xt W (by omega) (by omega) (by omega) (by omega) (by omega)
                have HT3 : Hid (L2 ++ [((j : Int) * su + xf, xa, (j : Int) * su + xt)] = L ++ besideB su (j + 1) (xf, xa, xt)) := by
                  unfold Hid
                  rw [HT2.out, List.append_assoc]
                  unfold besideB
                  rw [List.range_succ, List.map_append]
                  rfl
                have xc0 := HX.out.cell (j := 0) (u := .int .i64 xf) rfl
                have xc1 := HX.out.cell (j := 1) (u := .int .i64 xa) rfl
                have xc2 := HX.out.cell (j := 2) (u := .int .i64 xt) rfl
                have cb0 := (HBX.out _ HB.out).2.2.cell (j := 0) (u := .int .i64 su) rfl
                have cb1 := (HBX.out _ HB.out).2.2.cell (j := 1) (u := .int .i64 iu) rfl
                have cb2 := (HBX.out _ HB.out).2.2.cell (j := 2) (u := .slice b2 m2 d2) rfl
                have cb3 := (HBX.out _ HB.out).2.2.cell (j := 3) (u := .slice b3 m3 d3) rfl
                have cb4 := (HBX.out _ HB.out).2.2.cell (j := 4) (u := .slice b4 m4 d4) rfl
                have cb5 := (HBX.out _ HB.out).2.2.cell (j := 5) (u := .slice (some ⟨b, off, none⟩) m5 d5) rfl
                go_wp2_with fail
                clear xc0 xc1 xc2 cb0 cb1 cb2 cb3 cb4 cb5
                refine (C1.out _).mono ?_
                rintro e w3 ⟨rfl, hb⟩
                have hszr : w.heap.size + 2 ≤ wr.heap.size := by have h1 := HB.out.size; have h2 := HSZ.out; omega
                have B3 : Hid (Below (w.heap.size + 2) wz w3) := HB.out.trans (hb.mono hszr)
                have O3 := Lib.hid (HO.out.below hb)
                have X3 := Lib.hid (HX.out.below hb)
                have hsz3 : w.heap.size + 2 ≤ w3.heap.size := Nat.le_trans hszr hb.size
                have hxl := X3.out.lt
                clear hb HB HO HX C1
                have T1 := O3.out.alloc (.cells #[.int .i64 ((j : Int) * su + xf), .int .i64 xa, .int .i64 ((j : Int) * su + xt)] 42)
                have BT : Hid (Below (w.heap.size + 2) wz (w3.alloc (.cells #[.int .i64 ((j : Int) * su + xf), .int .i64 xa, .int .i64 ((j : Int) * su + xt)] 42))) := B3.out.alloc hsz3 _
                have XT := Lib.hid (X3.out.alloc (.cells #[.int .i64 ((j : Int) * su + xf), .int .i64 xa, .int .i64 ((j : Int) * su + xt)] 42))
                have SP : SrcS (w3.alloc (.cells #[.int .i64 ((j : Int) * su + xf), .int .i64 xa, .int .i64 ((j : Int) * su + xt)] 42)) (some ⟨w3.heap.size, 0, none⟩) 1 1 [((j : Int) * su + xf, xa, (j : Int) * su + xt)] := srcS_box w3 _ _ _
                go_wp2_with (at_builtin; refine wpList_appS_new rfl (.tmp 63) (.tmp 76) _ _ rfl (w.heap.size + 2) i0 Tryz.underlying27 hi0 hz0 hz1 hz2 _ len2 _ rfl T1 _ 1 _ [((j : Int) * su + xf, xa, (j : Int) * su + xt)] rfl SP (by omega) (by simp; omega) ?_)
                rintro vz w4 ⟨hown, hgrow, hfr⟩
                have hne := HNE.out
                have B4 : Hid (Below (w.heap.size + 2) wz w4) := BT.out.grown hgrow (by simp; omega) (fun q hq => (T1.lt q hq).1)
                have X4 := Lib.hid (VarIs.grown XT.out hgrow (fun e => hne e.symm))
                have N4 := Lib.hid (hfr _ (by simp; omega) hne)
                have O4 := Lib.hid hown
                clear hown hgrow hfr hne T1 SP BT XT HNE O3 B3 X3
                go_wp2_with fail
                go_roundw
                case rel => exact ⟨j + 1, len2 + 1, vz, _, by omega, rfl, by go_num, O4.out, HT3.out, B4.out, X4.out, N4.out⟩
                case measure => simp [intOf]; omega
              · obtain rfl : nA = j := by have h1 := HNA.out; omega
                have HT3 : Hid (L2 = (aloneA sh su nB steps ++ aloneB sh su nA (jteps.take (k + 1)))) := by unfold Hid; rw [HST2.out]; exact HT2.out
                go_wp2_with fail
                go_roundw
                case rel => exact ⟨k + 1, len2, vx, L2, by omega, rfl, by go_num, HO.out, HT3.out, HB.out⟩
                case measure => simp [intOf]; omega
        · have HFULL : Hid (L = (aloneA sh su nB steps ++ aloneB sh su nA jteps)) := by
            have h1 := HT.out
            rw [List.take_of_length_le (by rw [Q5.out.1]; omega)] at h1
            exact h1
          have e := HO.out.length
          subst e
          obtain ⟨av, cv, rfl⟩ := HO.out.form
          have HE := HFULL.out
          go_wp2_with fail
          go_ret
          rw [← HE]
          exact ⟨_, rfl, HO.out.mono (by omega), (HBX.out _ HB.out).1⟩


theorem besideT_len (su : Int) (x : St) (tt : List St) : (besideT su x tt).length ≤ tt.length := by
  unfold besideT
  rw [List.length_map]
  exact List.length_filter_le _ _

theorem togetherL_len (sh : List Int) (su : Int) (tt : List St) : ∀ ss : List St, (togetherL sh su ss tt).length ≤ ss.length * tt.length
  | [] => by simp [togetherL]
  | x :: r => by
    have h1 := togetherL_len sh su tt r
    have h2 : togetherL sh su (x :: r) tt = (if hasB sh x.2.1 then besideT su x tt else []) ++ togetherL sh su r tt := rfl
    have h3 := besideT_len su x tt
    rw [h2, List.length_append, List.length_cons, Nat.succ_mul]
    split
    · omega
    · simp; omega

set_option maxRecDepth 20000 in
set_option maxHeartbeats 6400000 in
theorem stepsTogether_any (a b : IaD) (v u : Value) (w : World) (h : IaRow w a v) (k : IaRow w b u) (fa : Small a) (fb : Small b) (oka : iaOkB a = true) (okb : iaOkB b = true) (sa : Option Addr) (sn sc : Nat) (sh : List Int) (hs : Row w sa sn sh) (hsn : sn ≤ 1048576) :
    Calls Tryz.prog 73 #[v, u, .slice sa sn sc] w fun e w' => ∃ v', e = .returned v' ∧ OwnsS 42 w' w.heap.size v' (togetherL sh b.states a.steps b.steps).length (togetherL sh b.states a.steps b.steps) ∧ Below w.heap.size w w' := by
  have sA := iaOk_states oka
  have sB := iaOk_states okb
  have eA := iaOk_ends oka
  have eB := iaOk_ends okb
  have lA := iaOk_len oka
  have lB := iaOk_len okb
  clear oka okb
  obtain ⟨a2, n2, c2, a3, n3, c3, a4, n4, c4, a5, n5, c5, rfl, r2, r3, r4, r5⟩ := h
  obtain ⟨b2, m2, d2, b3, m3, d3, b4, m4, d4, b5, m5, d5, rfl, q2, q3, q4, q5⟩ := k
  obtain ⟨st, it, ins, outs, hids, steps⟩ := a
  obtain ⟨su, iu, jns, juts, jids, jteps⟩ := b
  obtain ⟨f2, f3, f4, f5⟩ := fa
  obtain ⟨g2, g3, g4, g5⟩ := fb
  simp only at r2 r3 r4 r5 q2 q3 q4 q5 f2 f3 f4 f5 g2 g3 g4 g5
  have HA : Hid (∀ W, Below w.heap.size w W → IaRow W ⟨st, it, ins, outs, hids, steps⟩ (.agg #[.int .i64 st, .int .i64 it, .slice a2 n2 c2, .slice a3 n3 c3, .slice a4 n4 c4, .slice a5 n5 c5])) := fun W hW => IaRow.below ⟨a2, n2, c2, a3, n3, c3, a4, n4, c4, a5, n5, c5, rfl, r2, r3, r4, r5⟩ hW
  have HB : Hid (∀ W, Below w.heap.size w W → IaRow W ⟨su, iu, jns, juts, jids, jteps⟩ (.agg #[.int .i64 su, .int .i64 iu, .slice b2 m2 d2, .slice b3 m3 d3, .slice b4 m4 d4, .slice b5 m5 d5])) := fun W hW => IaRow.below ⟨b2, m2, d2, b3, m3, d3, b4, m4, d4, b5, m5, d5, rfl, q2, q3, q4, q5⟩ hW
  have S0 := Lib.hid (Box2.start w (iaC st it a2 n2 c2 a3 n3 c3 a4 n4 c4 a5 n5 c5) (iaC su iu b2 m2 d2 b3 m3 d3 b4 m4 d4 b5 m5 d5) 29)
  have e2 := r2.1
  have e3 := r3.1
  have e4 := r4.1
  have k2 := q2.1
  have k3 := q3.1
  have k4 := q4.1
  rw [e2] at f2
  rw [e3] at f3
  rw [e4] at f4
  rw [k2] at g2
  rw [k3] at g3
  rw [k4] at g4
  have R2 := Lib.hid r2
  have R3 := Lib.hid r3
  have R4 := Lib.hid r4
  have R5 := Lib.hid r5
  have Q2 := Lib.hid q2
  have Q3 := Lib.hid q3
  have Q4 := Lib.hid q4
  have Q5 := Lib.hid q5
  clear r2 r3 r4 r5 q2 q3 q4 q5
  clear HA HB R2 R3 R4 Q2 Q3 Q4
  simp only at sA sB eA eB lA lB ⊢
  have EA := Lib.hid eA
  have EB := Lib.hid eB
  have RSH := Lib.hid hs
  clear eA eB hs
  have hm400 : m5 ≤ 400 := by have h1 := Q5.out.1; omega
  have HLT : Hid (∀ k, (togetherL sh su (steps.take k) jteps).length ≤ 160000) := fun k => by
    have h1 := togetherL_len sh su jteps (steps.take k)
    have h2 : (steps.take k).length * jteps.length ≤ 400 * 400 := Nat.mul_le_mul (by rw [List.length_take]; omega) lB
    omega
  obtain ⟨wz, hwz⟩ : ∃ x, x = ((w.alloc (.cells #[.int .i64 st, .int .i64 it, .slice a2 n2 c2, .slice a3 n3 c3, .slice a4 n4 c4, .slice a5 n5 c5] 29)).alloc (.cells #[.int .i64 su, .int .i64 iu, .slice b2 m2 d2, .slice b3 m3 d3, .slice b4 m4 d4, .slice b5 m5 d5] 29)) := ⟨_, rfl⟩
  have HSZ : Hid (wz.heap.size = w.heap.size + 2) := by unfold Hid; rw [hwz]; simp
  have RB0 : Hid (Below (w.heap.size + 2) wz ((w.alloc (.cells #[.int .i64 st, .int .i64 it, .slice a2 n2 c2, .slice a3 n3 c3, .slice a4 n4 c4, .slice a5 n5 c5] 29)).alloc (.cells #[.int .i64 su, .int .i64 iu, .slice b2 m2 d2, .slice b3 m3 d3, .slice b4 m4 d4, .slice b5 m5 d5] 29))) := by unfold Hid; rw [hwz, ← HSZ.out, hwz]; exact Below.refl _ _
  have HBX : Hid (∀ W, Below (w.heap.size + 2) wz W → Box2 w W w.heap.size (w.heap.size + 1) 29 (iaC st it a2 n2 c2 a3 n3 c3 a4 n4 c4 a5 n5 c5) (iaC su iu b2 m2 d2 b3 m3 d3 b4 m4 d4 b5 m5 d5)) := fun W hW => by
    rw [← HSZ.out] at hW
    have h0 : Box2 w wz w.heap.size (w.heap.size + 1) 29 (iaC st it a2 n2 c2 a3 n3 c3 a4 n4 c4 a5 n5 c5) (iaC su iu b2 m2 d2 b3 m3 d3 b4 m4 d4 b5 m5 d5) := by rw [hwz]; exact S0.out
    exact h0.below hW
  clear hwz
  obtain ⟨i0, hi0, hz0, hz1, hz2⟩ := info_parts (show (Tryz.prog.info? 42).map (fun i => (i.zero, i.size, i.bytes)) = some (some (.agg #[.int .i64 0, .int .i64 0, .int .i64 0]), 3, 24) by kernel_rfl)
  have ca5 := S0.out.2.1.cell (j := 5) (u := .slice a5 n5 c5) rfl
  go_enter Tryz.func73, Tryz.ntmps73
  go_wp2_with fail
  clear ca5
  go_loopw [7, 15] (fun pv iv wr => ∃ (k len : Nat) (v0 : Value) (L : List St), k ≤ n5 ∧ v0 = pv ∧ iv = .int .i64 (k : Int) ∧ Hid (OwnsS 42 wr (w.heap.size + 2) v0 len L) ∧ Hid (L = togetherL sh su (steps.take k) jteps) ∧ Hid (Below (w.heap.size + 2) wz wr)) (fun _ iv _ => n5 - (intOf iv).toNat)
  case atStart => exact ⟨0, 0, _, [], Nat.zero_le _, rfl, rfl, World.ownsRow_nil _ _ _ _, rfl, RB0.out⟩
  case round =>
    clear RB0
    obtain ⟨k, len, v0, L, hk, rfl, rfl, HO, HT, HB⟩ := hrel
    by_cases hlt : k < n5
    · obtain ⟨b, off, rfl, hbx, hcell⟩ := R5.out.2 (by omega)
      have hkx : k < steps.length := by rw [R5.out.1]; exact hlt
      obtain ⟨⟨xf, xa, xt⟩, hs⟩ : ∃ t, t = steps[k] := ⟨_, rfl⟩
      obtain ⟨e0, e1, e2⟩ := hcell k steps[k] (List.getElem?_eq_getElem hkx)
      have hin := EA.out steps[k] (List.getElem_mem hkx)
      rw [← hs] at e0 e1 e2 hin
      simp only at hin
      have BWr := (HBX.out _ HB.out).1
      have g0 := (BWr.cell (p := ⟨b, off + k * 3, none⟩) hbx).trans e0
      have g1 := (BWr.cell (p := ⟨b, off + k * 3 + 1, none⟩) hbx).trans e1
      have g2 := (BWr.cell (p := ⟨b, off + k * 3 + 2, none⟩) hbx).trans e2
      simp only at g0 g1 g2
      have hszr : w.heap.size + 2 ≤ wr.heap.size := by have h1 := HB.out.size; have h2 := HSZ.out; omega
      have B1 : Hid (Below (w.heap.size + 2) wz (wr.alloc (.cells #[.int .i64 xf, .int .i64 xa, .int .i64 xt] 42))) := HB.out.alloc hszr _
      have X1 := Lib.hid (VarIs.new wr #[.int .i64 xf, .int .i64 xa, .int .i64 xt] 42 rfl)
      have O1 := Lib.hid (HO.out.alloc (.cells #[.int .i64 xf, .int .i64 xa, .int .i64 xt] 42))
      have N1 : Hid (v0.ownBlock ≠ some wr.heap.size) := fun e => by have := (HO.out.lt _ e).2; omega
      obtain ⟨q, hq⟩ : ∃ q, q = hasB sh xa := ⟨_, rfl⟩
      have CS : Hid (∀ W, Below w.heap.size w W → Calls Tryz.prog 117 #[.slice sa sn sc, .int .i64 xa] W fun e w' => e = .returned (.bool q) ∧ W = w') := fun W hW => by
        rw [hq]
        exact (implSetHas_any sa sn sc xa sh W (RSH.out.below hW) (by omega)).mono fun e w' h => ⟨h.1, h.2.symm⟩
      have HST : Hid (togetherL sh su (steps.take (k + 1)) jteps = L ++ (if q then besideT su (xf, xa, xt) jteps else [])) := by
        unfold Hid
        rw [HT.out, hq]
        unfold togetherL
        rw [List.take_succ_eq_append_getElem hkx, ← hs, List.flatMap_append, List.flatMap_singleton]
      have hlenL : len ≤ 160000 := by
        have h1 := HO.out.length
        rw [HT.out] at h1
        have h2 := HLT.out k
        omega
      clear e0 e1 e2 hs hcell hq
      have x1 := X1.out.cell (j := 1) (u := .int .i64 xa) rfl
      go_wp2_with fail
      refine (CS.out _ (HBX.out _ B1.out).1).mono ?_
      rintro e wq ⟨rfl, rfl⟩
      clear x1 g0 g1 g2
      cases q with
      | false =>
        have HT2 : Hid (L = togetherL sh su (steps.take (k + 1)) jteps) := by unfold Hid; rw [HST.out]; simp
        go_wp2_with fail
        go_roundw
        case rel => exact ⟨k + 1, len, v0, L, by omega, rfl, by go_num, O1.out, HT2.out, B1.out⟩
        case measure => simp [intOf]; omega
      | true =>
        have HST2 : Hid (togetherL sh su (steps.take (k + 1)) jteps = L ++ besideT su (xf, xa, xt) jteps) := by unfold Hid; rw [HST.out]; simp
        have cc5 := (HBX.out _ B1.out).2.2.cell (j := 5) (u := .slice b5 m5 d5) rfl
        clear HST
        go_wp2_with fail
        clear cc5
        go_loopw [7, 27] (fun pv jv wr2 => ∃ (j len2 : Nat) (vx : Value) (L2 : List St), j ≤ m5 ∧ vx = pv ∧ jv = .int .i64 (j : Int) ∧ Hid (OwnsS 42 wr2 (w.heap.size + 2) vx len2 L2) ∧ Hid (L2 = L ++ besideT su (xf, xa, xt) (jteps.take j)) ∧ Hid (Below (w.heap.size + 2) wz wr2) ∧ Hid (VarIs wr2 wr.heap.size #[.int .i64 xf, .int .i64 xa, .int .i64 xt] 42) ∧ Hid (vx.ownBlock ≠ some wr.heap.size)) (fun _ jv _ => m5 - (intOf jv).toNat)
        case atStart => exact ⟨0, len, _, L, Nat.zero_le _, rfl, rfl, O1.out, by simp [Hid, besideT], B1.out, X1.out, N1.out⟩
        case round =>
          have hlen0 := HO.out.length
          clear O1 B1 X1 N1 HO HB BWr hszr hbx
          obtain ⟨j, len2, vx, L2, hj, rfl, rfl, HO, HT2, HB, HX, HNE⟩ := hrel
          by_cases hltj : j < m5
          · obtain ⟨bb, offb, rfl, hby, hcell⟩ := Q5.out.2 (by omega)
            have hjx : j < jteps.length := by rw [Q5.out.1]; exact hltj
            obtain ⟨⟨yf, ya, yt⟩, hs⟩ : ∃ t, t = jteps[j] := ⟨_, rfl⟩
            obtain ⟨e0, e1, e2⟩ := hcell j jteps[j] (List.getElem?_eq_getElem hjx)
            have hiny := EB.out jteps[j] (List.getElem_mem hjx)
            rw [← hs] at e0 e1 e2 hiny
            simp only at hiny
            have BWr := (HBX.out _ HB.out).1
            have g0 := (BWr.cell (p := ⟨bb, offb + j * 3, none⟩) hby).trans e0
            have g1 := (BWr.cell (p := ⟨bb, offb + j * 3 + 1, none⟩) hby).trans e1
            have g2 := (BWr.cell (p := ⟨bb, offb + j * 3 + 2, none⟩) hby).trans e2
            simp only at g0 g1 g2
            have hszr : w.heap.size + 2 ≤ wr.heap.size := by have h1 := HB.out.size; have h2 := HSZ.out; omega
            have hlen2 : len2 ≤ 400000 := by
              have h1 := HO.out.length
              rw [HT2.out, List.length_append, hlen0] at h1
              have h2 := besideT_len su (xf, xa, xt) (jteps.take j)
              rw [List.length_take] at h2
              omega
            have hstep : Hid (besideT su (xf, xa, xt) (jteps.take (j + 1)) = besideT su (xf, xa, xt) (jteps.take j) ++ (if ya = xa then [(xf * su + yf, xa, xt * su + yt)] else [])) := by
              unfold Hid besideT
              rw [List.take_succ_eq_append_getElem hjx, ← hs, List.filter_append, List.map_append]
              by_cases e : ya = xa <;> simp [e]
            have B2 : Hid (Below (w.heap.size + 2) wz (wr.alloc (.cells #[.int .i64 yf, .int .i64 ya, .int .i64 yt] 42))) := HB.out.alloc hszr _
            have X2 := Lib.hid (HX.out.alloc (.cells #[.int .i64 yf, .int .i64 ya, .int .i64 yt] 42))
            have O2 := Lib.hid (HO.out.alloc (.cells #[.int .i64 yf, .int .i64 ya, .int .i64 yt] 42))
            have Y2 := VarIs.new wr #[.int .i64 yf, .int .i64 ya, .int .i64 yt] 42 rfl
            have yc0 := Y2.cell (j := 0) (u := .int .i64 yf) rfl
            have yc1 := Y2.cell (j := 1) (u := .int .i64 ya) rfl
            have yc2 := Y2.cell (j := 2) (u := .int .i64 yt) rfl
            have xc0 := X2.out.cell (j := 0) (u := .int .i64 xf) rfl
            have xc1 := X2.out.cell (j := 1) (u := .int .i64 xa) rfl
            have xc2 := X2.out.cell (j := 2) (u := .int .i64 xt) rfl
            clear e0 e1 e2 hs hcell Y2 BWr
            by_cases hya : ya = xa
            · have hyb : (ya == xa) = true := by simp [hya]
              have HT3 : Hid (L2 ++ [(xf * su + yf, xa, xt * su + yt)] = L ++ besideT su (xf, xa, xt) (jteps.take (j + 1))) := by
                unfold Hid
                rw [hstep.out, if_pos hya, HT2.out, List.append_assoc]
              have C1 : Hid (∀ W, Calls Tryz.prog 128 #[.agg #[.int .i64 su, .int .i64 iu, .slice b2 m2 d2, .slice b3 m3 d3, .slice b4 m4 d4, .slice (some ⟨bb, offb, none⟩) m5 d5], .agg #[.int .i64 xf, .int .i64 yf], .int .i64 xa, .agg #[.int .i64 xt, .int .i64 yt]] W fun e w' => e = .returned (.agg #[.int .i64 (xf * su + yf), .int .i64 xa, .int .i64 (xt * su + yt)]) ∧ Below W.heap.size W w') := fun W => stepOfPairs_any su iu (.slice b2 m2 d2) (.slice b3 m3 d3) (.slice b4 m4 d4) (.slice (some ⟨bb, offb, none⟩) m5 d5) xf yf xa xt yt W (by omega) (by omega) (by omega) (by omega) (by omega)
              clear hya
              have cb0 := (HBX.out _ B2.out).2.2.cell (j := 0) (u := .int .i64 su) rfl
              have cb1 := (HBX.out _ B2.out).2.2.cell (j := 1) (u := .int .i64 iu) rfl
              have cb2 := (HBX.out _ B2.out).2.2.cell (j := 2) (u := .slice b2 m2 d2) rfl
              have cb3 := (HBX.out _ B2.out).2.2.cell (j := 3) (u := .slice b3 m3 d3) rfl
              have cb4 := (HBX.out _ B2.out).2.2.cell (j := 4) (u := .slice b4 m4 d4) rfl
              have cb5 := (HBX.out _ B2.out).2.2.cell (j := 5) (u := .slice (some ⟨bb, offb, none⟩) m5 d5) rfl
              go_wp2_with fail
              clear xc0 xc1 xc2 yc0 yc1 yc2 cb0 cb1 cb2 cb3 cb4 cb5 g0 g1 g2
              refine (C1.out _).mono ?_
              rintro e w3 ⟨rfl, hb⟩
              have B3 : Hid (Below (w.heap.size + 2) wz w3) := B2.out.trans (hb.mono (by simp; omega))
              have O3 := Lib.hid (O2.out.below hb)
              have X3 := Lib.hid (X2.out.below hb)
              have hsz3 : w.heap.size + 2 ≤ w3.heap.size := by have h1 := hb.size; simp at h1; omega
              have hxl := X3.out.lt
              clear hb B2 O2 X2 HB HO HX C1 hszr
              have T1 := O3.out.alloc (.cells #[.int .i64 (xf * su + yf), .int .i64 xa, .int .i64 (xt * su + yt)] 42)
              have BT : Hid (Below (w.heap.size + 2) wz (w3.alloc (.cells #[.int .i64 (xf * su + yf), .int .i64 xa, .int .i64 (xt * su + yt)] 42))) := B3.out.alloc hsz3 _
              have XT := Lib.hid (X3.out.alloc (.cells #[.int .i64 (xf * su + yf), .int .i64 xa, .int .i64 (xt * su + yt)] 42))
              have SP : SrcS (w3.alloc (.cells #[.int .i64 (xf * su + yf), .int .i64 xa, .int .i64 (xt * su + yt)] 42)) (some ⟨w3.heap.size, 0, none⟩) 1 1 [(xf * su + yf, xa, xt * su + yt)] := srcS_box w3 _ _ _
              go_wp2_with (at_builtin; refine wpList_appS_new rfl (.tmp 36) (.tmp 51) _ _ rfl (w.heap.size + 2) i0 Tryz.underlying27 hi0 hz0 hz1 hz2 _ len2 _ rfl T1 _ 1 _ [(xf * su + yf, xa, xt * su + yt)] rfl SP (by omega) (by simp; omega) ?_)
              rintro vz w4 ⟨hown, hgrow, hfr⟩
              have hne := HNE.out
              have B4 : Hid (Below (w.heap.size + 2) wz w4) := BT.out.grown hgrow (by simp; omega) (fun q hq => (T1.lt q hq).1)
              have X4 := Lib.hid (VarIs.grown XT.out hgrow (fun e => hne e.symm))
              have N4 := Lib.hid (hfr _ (by simp; omega) hne)
              have O4 := Lib.hid hown
              clear hown hgrow hfr hne T1 SP BT XT HNE O3 B3 X3
              go_wp2_with fail
              go_roundw
              case rel => exact ⟨j + 1, len2 + 1, vz, _, by omega, rfl, by go_num, O4.out, HT3.out, B4.out, X4.out, N4.out⟩
              case measure => simp [intOf]; omega
            · have hyb : (ya == xa) = false := by simp [hya]
              have HT3 : Hid (L2 = L ++ besideT su (xf, xa, xt) (jteps.take (j + 1))) := by
                unfold Hid
                rw [hstep.out, if_neg hya, HT2.out, List.append_nil]
              clear hya
              go_wp2_with fail
              go_roundw
              case rel => exact ⟨j + 1, len2, vx, L2, by omega, rfl, by go_num, O2.out, HT3.out, B2.out, X2.out, HNE.out⟩
              case measure => simp [intOf]; omega
          · have HT3 : Hid (L2 = togetherL sh su (steps.take (k + 1)) jteps) := by
              have h1 := HT2.out
              rw [List.take_of_length_le (by rw [Q5.out.1]; omega)] at h1
              unfold Hid
              rw [HST2.out]
              exact h1
            go_wp2_with fail
            go_roundw
            case rel => exact ⟨k + 1, len2, vx, L2, by omega, rfl, by go_num, HO.out, HT3.out, HB.out⟩
            case measure => simp [intOf]; omega
    · have HFULL : Hid (L = togetherL sh su steps jteps) := by
        have h1 := HT.out
        rw [List.take_of_length_le (by rw [R5.out.1]; omega)] at h1
        exact h1
      have e := HO.out.length
      subst e
      obtain ⟨av, cv, rfl⟩ := HO.out.form
      have HE := HFULL.out
      go_wp2_with fail
      go_ret
      rw [← HE]
      exact ⟨_, rfl, HO.out.mono (by omega), (HBX.out _ HB.out).1⟩

end Go.Proofs.YtogjbnimohakjabGreat

/-
  The contract of the program's Product. Conditions: the lists have at most 2^20 elements.
-/
namespace Go.Proofs.YtogjbnimohakjabGreat
open Go.RowKit

theorem own_ne2 {W : World} {base base' size size' n n' : Nat} {e e' : TypeId} {v v' : Value} {xs xs' : List Value} (h : W.ownsRow base e size v n xs) (h' : W.ownsRow base' e' size' v' n' xs') (he : e ≠ e') : ∀ k, v.ownBlock = some k → v'.ownBlock ≠ some k := by
  intro k hk hk'
  rcases h.2 with ⟨rfl, _⟩ | ⟨g, cap, cur, rfl, _, hh, _⟩
  · cases hk
  rcases h'.2 with ⟨rfl, _⟩ | ⟨g', cap', cur', rfl, _, hh', _⟩
  · cases hk'
  have e1 : g = k := by simpa [Value.ownBlock] using hk
  have e2 : g' = k := by simpa [Value.ownBlock] using hk'
  rw [e1] at hh
  rw [e2, hh] at hh'
  simp only [Option.some.injEq, Obj.cells.injEq] at hh'
  exact he hh'.2.1

theorem own_none (w : World) (base : Nat) : IaOwn w base noIa (.agg #[.int .i64 0, .int .i64 0, .slice none 0 0, .slice none 0 0, .slice none 0 0, .slice none 0 0]) :=
  ⟨_, _, _, _, rfl, World.ownsRow_nil _ _ _ _, World.ownsRow_nil _ _ _ _, World.ownsRow_nil _ _ _ _, World.ownsRow_nil _ _ _ _, (fun b h => by cases h), (fun b h => by cases h), fun b h => by cases h⟩

set_option maxRecDepth 20000 in
set_option maxHeartbeats 6400000 in
theorem implProduct_any (a b : IaD) (v u : Value) (w : World) (h : IaRow w a v) (k : IaRow w b u) (fa : Small a) (fb : Small b) :
    Calls Tryz.prog 20 #[v, u] w fun e w' => ∃ v', e = .returned (.tuple #[v', .bool (prodB a b)]) ∧ IaOwn w' w.heap.size (prodIa a b) v' ∧ Below w.heap.size w w' := by
  have CF : Hid (∀ W, Below w.heap.size w W → Calls Tryz.prog 69 #[v, u] W fun e w' => e = .returned (.bool (fitB a b)) ∧ Below W.heap.size W w') := fun W hW => implFit_any a b v u W (h.below hW) (k.below hW) fa fb
  have CSH : Hid (∀ W, Below w.heap.size w W → Calls Tryz.prog 70 #[v, u] W (RowRes W W.heap.size (shOf a b))) := fun W hW => sharedActs_any a b v u W (h.below hW) (k.below hW) fa fb
  have CA0 : Hid (iaOkB a = true → iaOkB b = true → ∀ W sa sn sc, Below w.heap.size w W → Row W sa sn (shOf a b) → sn ≤ 1048576 → Calls Tryz.prog 72 #[v, u, .slice sa sn sc] W fun e w' => ∃ v', e = .returned v' ∧ OwnsS 42 w' W.heap.size v' (aloneA (shOf a b) b.states b.states.toNat a.steps ++ aloneB (shOf a b) b.states a.states.toNat b.steps).length (aloneA (shOf a b) b.states b.states.toNat a.steps ++ aloneB (shOf a b) b.states a.states.toNat b.steps) ∧ Below W.heap.size W w') := fun h1 h2 W sa sn sc hW hr hn => stepsApart_any a b v u W (h.below hW) (k.below hW) fa fb h1 h2 sa sn sc _ hr hn
  have CT0 : Hid (iaOkB a = true → iaOkB b = true → ∀ W sa sn sc, Below w.heap.size w W → Row W sa sn (shOf a b) → sn ≤ 1048576 → Calls Tryz.prog 73 #[v, u, .slice sa sn sc] W fun e w' => ∃ v', e = .returned v' ∧ OwnsS 42 w' W.heap.size v' (togetherL (shOf a b) b.states a.steps b.steps).length (togetherL (shOf a b) b.states a.steps b.steps) ∧ Below W.heap.size W w') := fun h1 h2 W sa sn sc hW hr hn => stepsTogether_any a b v u W (h.below hW) (k.below hW) fa fb h1 h2 sa sn sc _ hr hn
  obtain ⟨q, hq⟩ : ∃ q, q = fitB a b := ⟨_, rfl⟩
  have HOK : Hid (q = true → iaOkB a = true ∧ iaOkB b = true ∧ a.states * b.states ≤ 40) := fun e => fitB_ok (by rw [← hq]; exact e)
  have HSL : Hid (q = true → (shOf a b).length ≤ 12) := fun e => sh_low (fitB_ok (by rw [← hq]; exact e)).1
  obtain ⟨LA1, hLA1⟩ : ∃ l, l = aloneA (shOf a b) b.states b.states.toNat a.steps ++ aloneB (shOf a b) b.states a.states.toNat b.steps := ⟨_, rfl⟩
  obtain ⟨LT1, hLT1⟩ : ∃ l, l = togetherL (shOf a b) b.states a.steps b.steps := ⟨_, rfl⟩
  obtain ⟨ok, hok⟩ : ∃ r, r = prodB a b := ⟨_, rfl⟩
  obtain ⟨I, hI⟩ : ∃ I, I = prodIa a b := ⟨_, rfl⟩
  have HI : Hid (I = if ok then ⟨a.states * b.states, stOf b.states (a.init, b.init), lessOf (joinOf a.ins b.ins) (shOf a b), lessOf (joinOf a.outs b.outs) (shOf a b), joinOf (joinOf a.hids b.hids) (shOf a b), sortS (LA1 ++ LT1)⟩ else noIa) := by unfold Hid; rw [hI, hok, hLA1, hLT1]; rfl
  have HB_ : Hid (ok = (q && decide ((LA1 ++ LT1).length ≤ 400))) := by unfold Hid; rw [hok, hq, hLA1, hLT1]; rfl
  have HNL : Hid (q = true → LA1.length ≤ 32000 ∧ LT1.length ≤ 160000) := fun e => by
    obtain ⟨h1, h2, _⟩ := HOK.out e
    have s1 := iaOk_states h1
    have s2 := iaOk_states h2
    have l1 := iaOk_len h1
    have l2 := iaOk_len h2
    have m1 := aloneA_len (shOf a b) b.states b.states.toNat a.steps
    have m2 := aloneB_len (shOf a b) b.states a.states.toNat b.steps
    have m3 := togetherL_len (shOf a b) b.states b.steps a.steps
    have p1 : a.steps.length * b.states.toNat ≤ 400 * 40 := Nat.mul_le_mul l1 (by omega)
    have p2 : b.steps.length * a.states.toNat ≤ 400 * 40 := Nat.mul_le_mul l2 (by omega)
    have p3 : a.steps.length * b.steps.length ≤ 400 * 400 := Nat.mul_le_mul l1 l2
    rw [hLA1, hLT1, List.length_append]
    omega
  rw [← hok, ← hI]
  rw [← hq] at CF
  rw [← hLA1] at CA0
  rw [← hLT1] at CT0
  clear hq hok hI hLA1 hLT1
  obtain ⟨a2, n2, c2, a3, n3, c3, a4, n4, c4, a5, n5, c5, rfl, r2, r3, r4, r5⟩ := h
  obtain ⟨b2, m2, d2, b3, m3, d3, b4, m4, d4, b5, m5, d5, rfl, q2, q3, q4, q5⟩ := k
  obtain ⟨st, it, ins, outs, hids, steps⟩ := a
  obtain ⟨su, iu, jns, juts, jids, jteps⟩ := b
  obtain ⟨f2, f3, f4, f5⟩ := fa
  obtain ⟨g2, g3, g4, g5⟩ := fb
  simp only at r2 r3 r4 r5 q2 q3 q4 q5 f2 f3 f4 f5 g2 g3 g4 g5
  have HA : Hid (∀ W, Below w.heap.size w W → IaRow W ⟨st, it, ins, outs, hids, steps⟩ (.agg #[.int .i64 st, .int .i64 it, .slice a2 n2 c2, .slice a3 n3 c3, .slice a4 n4 c4, .slice a5 n5 c5])) := fun W hW => IaRow.below ⟨a2, n2, c2, a3, n3, c3, a4, n4, c4, a5, n5, c5, rfl, r2, r3, r4, r5⟩ hW
  have HB : Hid (∀ W, Below w.heap.size w W → IaRow W ⟨su, iu, jns, juts, jids, jteps⟩ (.agg #[.int .i64 su, .int .i64 iu, .slice b2 m2 d2, .slice b3 m3 d3, .slice b4 m4 d4, .slice b5 m5 d5])) := fun W hW => IaRow.below ⟨b2, m2, d2, b3, m3, d3, b4, m4, d4, b5, m5, d5, rfl, q2, q3, q4, q5⟩ hW
  have S0 := Lib.hid (Box2.start w (iaC st it a2 n2 c2 a3 n3 c3 a4 n4 c4 a5 n5 c5) (iaC su iu b2 m2 d2 b3 m3 d3 b4 m4 d4 b5 m5 d5) 29)
  have e2 := r2.1
  have e3 := r3.1
  have e4 := r4.1
  have k2 := q2.1
  have k3 := q3.1
  have k4 := q4.1
  rw [e2] at f2
  rw [e3] at f3
  rw [e4] at f4
  rw [k2] at g2
  rw [k3] at g3
  rw [k4] at g4
  have R2 := Lib.hid r2
  have R3 := Lib.hid r3
  have R4 := Lib.hid r4
  have R5 := Lib.hid r5
  have Q2 := Lib.hid q2
  have Q3 := Lib.hid q3
  have Q4 := Lib.hid q4
  have Q5 := Lib.hid q5
  clear r2 r3 r4 r5 q2 q3 q4 q5
  clear HA HB R5 Q5
  simp only at HOK HSL HI CA0 CT0 CSH
  obtain ⟨sh, hsh⟩ : ∃ l, l = shOf ⟨st, it, ins, outs, hids, steps⟩ ⟨su, iu, jns, juts, jids, jteps⟩ := ⟨_, rfl⟩
  rw [← hsh] at CSH HSL HI CA0 CT0
  clear hsh
  have S0x := S0.out.alloc (.cells #[.int .i64 0, .int .i64 0, .slice none 0 0, .slice none 0 0, .slice none 0 0, .slice none 0 0] 29)
  have S0 := Lib.hid S0x
  have TZ : Hid (VarIs (((w.alloc (.cells #[.int .i64 st, .int .i64 it, .slice a2 n2 c2, .slice a3 n3 c3, .slice a4 n4 c4, .slice a5 n5 c5] 29)).alloc (.cells #[.int .i64 su, .int .i64 iu, .slice b2 m2 d2, .slice b3 m3 d3, .slice b4 m4 d4, .slice b5 m5 d5] 29)).alloc (.cells #[.int .i64 0, .int .i64 0, .slice none 0 0, .slice none 0 0, .slice none 0 0, .slice none 0 0] 29)) (w.heap.size + 2) #[.int .i64 0, .int .i64 0, .slice none 0 0, .slice none 0 0, .slice none 0 0, .slice none 0 0] 29) := VarIs.new ((w.alloc (.cells #[.int .i64 st, .int .i64 it, .slice a2 n2 c2, .slice a3 n3 c3, .slice a4 n4 c4, .slice a5 n5 c5] 29)).alloc (.cells #[.int .i64 su, .int .i64 iu, .slice b2 m2 d2, .slice b3 m3 d3, .slice b4 m4 d4, .slice b5 m5 d5] 29)) #[.int .i64 0, .int .i64 0, .slice none 0 0, .slice none 0 0, .slice none 0 0, .slice none 0 0] 29 (by simp)
  clear S0x
  have ca0 := S0.out.2.1.cell (j := 0) (u := .int .i64 st) rfl
  have ca1 := S0.out.2.1.cell (j := 1) (u := .int .i64 it) rfl
  have ca2 := S0.out.2.1.cell (j := 2) (u := .slice a2 n2 c2) rfl
  have ca3 := S0.out.2.1.cell (j := 3) (u := .slice a3 n3 c3) rfl
  have ca4 := S0.out.2.1.cell (j := 4) (u := .slice a4 n4 c4) rfl
  have ca5 := S0.out.2.1.cell (j := 5) (u := .slice a5 n5 c5) rfl
  have cb0 := S0.out.2.2.cell (j := 0) (u := .int .i64 su) rfl
  have cb1 := S0.out.2.2.cell (j := 1) (u := .int .i64 iu) rfl
  have cb2 := S0.out.2.2.cell (j := 2) (u := .slice b2 m2 d2) rfl
  have cb3 := S0.out.2.2.cell (j := 3) (u := .slice b3 m3 d3) rfl
  have cb4 := S0.out.2.2.cell (j := 4) (u := .slice b4 m4 d4) rfl
  have cb5 := S0.out.2.2.cell (j := 5) (u := .slice b5 m5 d5) rfl
  go_enter Tryz.func20, Tryz.ntmps20
  go_wp2_with fail
  clear ca0 ca1 ca2 ca3 ca4 ca5 cb0 cb1 cb2 cb3 cb4 cb5
  refine (CF.out _ S0.out.1).mono ?_
  rintro e w1 ⟨rfl, hb⟩
  have S1 := Lib.hid (S0.out.below hb)
  have T1 := Lib.hid (TZ.out.below hb)
  clear hb S0 TZ CF
  cases q with
  | false =>
    have HOF : ok = false := by rw [HB_.out]; rfl
    subst HOF
    have THX : Hid (w1.there (w.heap.size + 2) 0 6) := T1.out.there rfl
    have RGX : Hid ((w1.setCells (w.heap.size + 2) 0 [.int .i64 0, .int .i64 0, .slice none 0 0, .slice none 0 0, .slice none 0 0, .slice none 0 0]).rangeAt (w.heap.size + 2) 0 [.int .i64 0, .int .i64 0, .slice none 0 0, .slice none 0 0, .slice none 0 0, .slice none 0 0]) := World.rangeAt_setCells_same w1 (w.heap.size + 2) 0 [.int .i64 0, .int .i64 0, .slice none 0 0, .slice none 0 0, .slice none 0 0, .slice none 0 0] (by simpa using THX.out)
    have GX := Lib.hid (grown_setCells (w.heap.size + 2) [.int .i64 0, .int .i64 0, .slice none 0 0, .slice none 0 0, .slice none 0 0, .slice none 0 0] 0 w1)
    have BX : Hid (Below w.heap.size w (w1.setCells (w.heap.size + 2) 0 [.int .i64 0, .int .i64 0, .slice none 0 0, .slice none 0 0, .slice none 0 0, .slice none 0 0])) := S1.out.1.grown GX.out S1.out.1.size (fun q hq => by have h1 := Option.some.inj hq; omega)
    have HIN : Hid (I = noIa) := HI.out
    go_wp2_with (refine wpList_store_mid rfl _ _ _ rfl (w.heap.size + 2) 0 #[.int .i64 0, .int .i64 0, .slice none 0 0, .slice none 0 0, .slice none 0 0, .slice none 0 0] rfl rfl THX.out (by kernel_rfl) (ia_one _ _ _ _ _ _ _ _ _ _ _ _ _ _) ?_)
    refine bodyPost_ret (v := .tuple #[.agg #[.int .i64 0, .int .i64 0, .slice none 0 0, .slice none 0 0, .slice none 0 0, .slice none 0 0], .bool false]) ?_ rfl ⟨.agg #[.int .i64 0, .int .i64 0, .slice none 0 0, .slice none 0 0, .slice none 0 0, .slice none 0 0], rfl, by rw [HIN.out]; exact own_none _ _, BX.out⟩
    have HC0 := RGX.out 0 _ rfl
    have HC1 := RGX.out 1 _ rfl
    have HC2 := RGX.out 2 _ rfl
    have HC3 := RGX.out 3 _ rfl
    have HC4 := RGX.out 4 _ rfl
    have HC5 := RGX.out 5 _ rfl
    simp only [Nat.zero_add] at HC0 HC1 HC2 HC3 HC4 HC5
    simp [results, Tryz.results20, go_sem, HC0, HC1, HC2, HC3, HC4, HC5]
  | true =>
    have hok := HOK.out (by simp)
    have hsl := HSL.out (by simp)
    have hnl := HNL.out (by simp)
    have hsA := iaOk_states hok.1
    have hsB := iaOk_states hok.2.1
    have hiA := iaOk_init hok.1
    have hiB := iaOk_init hok.2.1
    simp only at hsA hsB hiA hiB
    have HMUL : 0 ≤ st * su ∧ st * su ≤ 1600 := mul_low40 (by omega) (by omega)
    have CA1 := Lib.hid (CA0.out hok.1 hok.2.1)
    have CT1 := Lib.hid (CT0.out hok.1 hok.2.1)
    clear CA0 CT0 HOK HSL HNL hok
    have ca0 := S1.out.2.1.cell (j := 0) (u := .int .i64 st) rfl
    have ca1 := S1.out.2.1.cell (j := 1) (u := .int .i64 it) rfl
    have ca2 := S1.out.2.1.cell (j := 2) (u := .slice a2 n2 c2) rfl
    have ca3 := S1.out.2.1.cell (j := 3) (u := .slice a3 n3 c3) rfl
    have ca4 := S1.out.2.1.cell (j := 4) (u := .slice a4 n4 c4) rfl
    have ca5 := S1.out.2.1.cell (j := 5) (u := .slice a5 n5 c5) rfl
    have cb0 := S1.out.2.2.cell (j := 0) (u := .int .i64 su) rfl
    have cb1 := S1.out.2.2.cell (j := 1) (u := .int .i64 iu) rfl
    have cb2 := S1.out.2.2.cell (j := 2) (u := .slice b2 m2 d2) rfl
    have cb3 := S1.out.2.2.cell (j := 3) (u := .slice b3 m3 d3) rfl
    have cb4 := S1.out.2.2.cell (j := 4) (u := .slice b4 m4 d4) rfl
    have cb5 := S1.out.2.2.cell (j := 5) (u := .slice b5 m5 d5) rfl
    go_wp2_with fail
    clear ca0 ca1 ca2 ca3 ca4 ca5 cb0 cb1 cb2 cb3 cb4 cb5
    refine (CSH.out _ S1.out.1).mono ?_
    rintro e w2 ⟨vsh, rfl, ho, hb⟩
    obtain ⟨sn, hsn⟩ : ∃ n, n = sh.length := ⟨_, rfl⟩
    rw [← hsn] at ho hsl
    obtain ⟨sa, sc, rfl⟩ := ho.form
    have S2 := Lib.hid (S1.out.below hb)
    have T2 := Lib.hid (T1.out.below hb)
    have P2 := Lib.hid (ho.mono (base := w.heap.size) S1.out.1.size)
    clear hb ho hsn S1 T1 CSH
    have CA : Hid (∀ W, Box2 w W w.heap.size (w.heap.size + 1) 29 (iaC st it a2 n2 c2 a3 n3 c3 a4 n4 c4 a5 n5 c5) (iaC su iu b2 m2 d2 b3 m3 d3 b4 m4 d4 b5 m5 d5) → Row W sa sn sh → Calls Tryz.prog 72 #[.agg #[.int .i64 st, .int .i64 it, .slice a2 n2 c2, .slice a3 n3 c3, .slice a4 n4 c4, .slice a5 n5 c5], .agg #[.int .i64 su, .int .i64 iu, .slice b2 m2 d2, .slice b3 m3 d3, .slice b4 m4 d4, .slice b5 m5 d5], .slice sa sn sc] W fun e w' => ∃ ad n cc, e = .returned (.slice ad n cc) ∧ (OwnsS 42 w' W.heap.size (.slice ad n cc) LA1.length LA1) ∧ Below W.heap.size W w') := fun W hW hr => (CA1.out W sa sn sc hW.1 hr (by omega)).mono fun e w' h => by
      obtain ⟨v', he, ho, hb⟩ := h
      obtain ⟨ad, cc, rfl⟩ := ho.form
      exact ⟨ad, _, cc, he, ho, hb⟩
    have CT : Hid (∀ W, Box2 w W w.heap.size (w.heap.size + 1) 29 (iaC st it a2 n2 c2 a3 n3 c3 a4 n4 c4 a5 n5 c5) (iaC su iu b2 m2 d2 b3 m3 d3 b4 m4 d4 b5 m5 d5) → Row W sa sn sh → Calls Tryz.prog 73 #[.agg #[.int .i64 st, .int .i64 it, .slice a2 n2 c2, .slice a3 n3 c3, .slice a4 n4 c4, .slice a5 n5 c5], .agg #[.int .i64 su, .int .i64 iu, .slice b2 m2 d2, .slice b3 m3 d3, .slice b4 m4 d4, .slice b5 m5 d5], .slice sa sn sc] W fun e w' => ∃ ad n cc, e = .returned (.slice ad n cc) ∧ (OwnsS 42 w' W.heap.size (.slice ad n cc) LT1.length LT1) ∧ Below W.heap.size W w') := fun W hW hr => (CT1.out W sa sn sc hW.1 hr (by omega)).mono fun e w' h => by
      obtain ⟨v', he, ho, hb⟩ := h
      obtain ⟨ad, cc, rfl⟩ := ho.form
      exact ⟨ad, _, cc, he, ho, hb⟩
    have CCC : Hid (∀ W a1 l1 c1 a2 l2 c2 , OwnsS 42 W w.heap.size (.slice a1 l1 c1) LA1.length LA1 → OwnsS 42 W w.heap.size (.slice a2 l2 c2) LT1.length LT1 → Calls Tryz.prog 71 #[.slice (some ⟨W.heap.size, 0, none⟩) 2 2] (W.alloc (.cells #[.slice a1 l1 c1, .slice a2 l2 c2] 27)) fun e w' => ∃ v, e = .returned v ∧ OwnsS 42 w' (W.alloc (.cells #[.slice a1 l1 c1, .slice a2 l2 c2] 27)).heap.size v (LA1 ++ LT1).length (LA1 ++ LT1) ∧ Below (W.alloc (.cells #[.slice a1 l1 c1, .slice a2 l2 c2] 27)).heap.size (W.alloc (.cells #[.slice a1 l1 c1, .slice a2 l2 c2] 27)) w') := fun W a1 l1 c1 a2 l2 c2 h1 h2 => by
      obtain rfl := h1.row.1
      obtain rfl := h2.row.1
      have X := VarIs.new W #[.slice a1 LA1.length c1, .slice a2 LT1.length c2] 27 rfl
      exact concatS_any W.heap.size a1 a2 LA1.length c1 LT1.length c2 LA1 LT1 _ X.lt (X.cell (j := 0) rfl) (X.cell (j := 1) rfl) (h1.alloc _).src (h2.alloc _).src (by omega) (by omega)
    clear CA1 CT1
    go_wp2_with fail
    have SD := S2.out.drew
    have TD : Hid (VarIs w2.drew (w.heap.size + 2) #[.int .i64 0, .int .i64 0, .slice none 0 0, .slice none 0 0, .slice none 0 0, .slice none 0 0] 29) := T2.out
    have PD : Hid (Owns w2.drew w.heap.size (.slice sa sn sc) sn sh) := P2.out
    clear S2 T2 P2
    refine wp_region_held_drew (S := fun w' => Box2 w w' w.heap.size (w.heap.size + 1) 29 (iaC st it a2 n2 c2 a3 n3 c3 a4 n4 c4 a5 n5 c5) (iaC su iu b2 m2 d2 b3 m3 d3 b4 m4 d4 b5 m5 d5)) (by kernel_rfl) SD (fun hHeld => ?_)
    change wpAnyH _ _ _ _ _ 11 (Array.replicate 11 false) _ _
    refine take_yields 0 16 (.agg #[.int .i64 st, .int .i64 it, .slice a2 n2 c2, .slice a3 n3 c3, .slice a4 n4 c4, .slice a5 n5 c5]) (fuel := 10) rfl rfl (by kernel_rfl) (by kernel_rfl) (by kernel_rfl) (fun _ _ _ h => h) (yieldsIf_load_mid (by rfl) _ _ rfl (w.heap.size) 0 rfl (iaC st it a2 n2 c2 a3 n3 c3 a4 n4 c4 a5 n5 c5).toList _ (fun w hw => hw.2.1.range) Tryz.underlying29 rfl (by kernel_rfl)) hHeld ?_
    simp only [Act.put, List.setIfInBounds_toArray, List.set_cons_zero, List.set_cons_succ]
    refine take_yields 1 17 (.agg #[.int .i64 su, .int .i64 iu, .slice b2 m2 d2, .slice b3 m3 d3, .slice b4 m4 d4, .slice b5 m5 d5]) (fuel := 9) rfl rfl (by kernel_rfl) (by kernel_rfl) (by kernel_rfl) (fun _ _ _ h => h) (yieldsIf_load_mid (by rfl) _ _ rfl (w.heap.size + 1) 0 rfl (iaC su iu b2 m2 d2 b3 m3 d3 b4 m4 d4 b5 m5 d5).toList _ (fun w hw => hw.2.2.range) Tryz.underlying29 rfl (by kernel_rfl)) hHeld ?_
    simp only [Act.put, List.setIfInBounds_toArray, List.set_cons_zero, List.set_cons_succ]
    refine take_op 2 18 (.slice sa sn sc) (fuel := 8) rfl rfl (by kernel_rfl) (by kernel_rfl) (by kernel_rfl) (fun _ _ _ h => h) (by rfl) (fun w hSw => by go_simp) hHeld ?_
    simp only [Act.put, List.setIfInBounds_toArray, List.set_cons_zero, List.set_cons_succ]
    refine take_yields 4 20 (.agg #[.int .i64 st, .int .i64 it, .slice a2 n2 c2, .slice a3 n3 c3, .slice a4 n4 c4, .slice a5 n5 c5]) (fuel := 7) rfl rfl (by kernel_rfl) (by kernel_rfl) (by kernel_rfl) (fun _ _ _ h => h) (yieldsIf_load_mid (by rfl) _ _ rfl (w.heap.size) 0 rfl (iaC st it a2 n2 c2 a3 n3 c3 a4 n4 c4 a5 n5 c5).toList _ (fun w hw => hw.2.1.range) Tryz.underlying29 rfl (by kernel_rfl)) hHeld ?_
    simp only [Act.put, List.setIfInBounds_toArray, List.set_cons_zero, List.set_cons_succ]
    refine take_yields 5 21 (.agg #[.int .i64 su, .int .i64 iu, .slice b2 m2 d2, .slice b3 m3 d3, .slice b4 m4 d4, .slice b5 m5 d5]) (fuel := 6) rfl rfl (by kernel_rfl) (by kernel_rfl) (by kernel_rfl) (fun _ _ _ h => h) (yieldsIf_load_mid (by rfl) _ _ rfl (w.heap.size + 1) 0 rfl (iaC su iu b2 m2 d2 b3 m3 d3 b4 m4 d4 b5 m5 d5).toList _ (fun w hw => hw.2.2.range) Tryz.underlying29 rfl (by kernel_rfl)) hHeld ?_
    simp only [Act.put, List.setIfInBounds_toArray, List.set_cons_zero, List.set_cons_succ]
    refine take_op 6 22 (.slice sa sn sc) (fuel := 5) rfl rfl (by kernel_rfl) (by kernel_rfl) (by kernel_rfl) (fun _ _ _ h => h) (by rfl) (fun w hSw => by go_simp) hHeld ?_
    simp only [Act.put, List.setIfInBounds_toArray, List.set_cons_zero, List.set_cons_succ]
    refine wpAnyH_ready (rs := [3]) (fuel := 4) (by kernel_rfl) (by simp) ?_
    refine AllReadyH.cons rfl (fun K hK => ?_) AllReadyH.nil
    go_simp
    refine (CA.out _ hHeld PD.out.row.2.2.2).mono ?_
    rintro e w3 ⟨a3v, l3, c3v, rfl, ho, hb⟩
    have T3 := Lib.hid (TD.out.below hb)
    have O3 := Lib.hid (ho.mono (base := w.heap.size) hHeld.1.size)
    have P3 := Lib.hid (PD.out.below hb)
    have hS3 := hHeld.below hb
    clear hb ho
    go_wp2_with fail
    refine hK.out _ _ hS3 (fun hHeld => ?_)
    clear hK K
    refine wpAnyH_ready (rs := [7]) (fuel := 3) (by kernel_rfl) (by simp) ?_
    refine AllReadyH.cons rfl (fun K hK => ?_) AllReadyH.nil
    go_simp
    refine (CT.out _ hHeld P3.out.row.2.2.2).mono ?_
    rintro e w4 ⟨a4v, l4, c4v, rfl, ho, hb⟩
    have T4 := Lib.hid (T3.out.below hb)
    have O4 := Lib.hid (O3.out.below hb)
    have Q4x := Lib.hid (ho.mono (base := w.heap.size) hHeld.1.size)
    have P4 := Lib.hid (P3.out.below hb)
    have hS4 := hHeld.below hb
    clear hb ho O3 T3 P3
    have CC := Lib.hid (CCC.out w4 a3v l3 c3v a4v l4 c4v O4.out Q4x.out)
    go_wp2_with fail
    refine hK.out _ _ hS4 (fun hHeld => ?_)
    clear hK K
    refine wpAnyH_ready (rs := [8]) (fuel := 2) (by kernel_rfl) (by simp) ?_
    refine AllReadyH.cons rfl (fun K hK => ?_) AllReadyH.nil
    go_simp
    refine hK.out _ _ (hHeld.alloc _) (fun hHeld => ?_)
    clear hK K
    try simp only [Act.put, List.setIfInBounds_toArray, List.set_cons_zero, List.set_cons_succ]
    refine wpAnyH_ready (rs := [9]) (fuel := 1) (by kernel_rfl) (by simp) ?_
    refine AllReadyH.cons rfl (fun K hK => ?_) AllReadyH.nil
    go_simp
    refine (CC.out).mono ?_
    rintro e w5 ⟨v5, rfl, ho, hb⟩
    have T5 := Lib.hid ((T4.out.alloc (.cells #[.slice a3v l3 c3v, .slice a4v l4 c4v] 27)).below hb)
    have O5 := Lib.hid (ho.mono (base := w.heap.size + 3) (by have h1 := T4.out.lt; simp; omega))
    have P5 := Lib.hid ((P4.out.alloc (.cells #[.slice a3v l3 c3v, .slice a4v l4 c4v] 27)).below hb)
    have hS5 := hHeld.below hb
    clear hb ho O4 Q4x T4 P4
    go_wp2_with fail
    refine hK.out _ _ hS5 (fun hHeld => ?_)
    clear hK K
    refine take_op 10 7 (v5) (fuel := 0) rfl rfl (by kernel_rfl) (by kernel_rfl) (by kernel_rfl) (fun _ _ _ h => h) (by rfl) (fun w hSw => by go_simp) hHeld ?_
    simp only [Act.put, List.setIfInBounds_toArray, List.set_cons_zero, List.set_cons_succ]
    refine wpAnyH_done (by kernel_rfl) ?_ _
    obtain ⟨LL, hLL⟩ : ∃ l, l = LA1 ++ LT1 := ⟨_, rfl⟩
    rw [← hLL] at O5 HI HB_
    obtain ⟨l5, hl5⟩ : ∃ n, n = LL.length := ⟨_, rfl⟩
    rw [← hl5] at O5 HB_
    have hl5b : l5 ≤ 192000 := by rw [hl5, hLL, List.length_append]; omega
    obtain ⟨a5v, c5v, rfl⟩ := O5.out.form
    have SE := Lib.hid hHeld
    clear hHeld hLL hl5 CA CT CCC CC
    by_cases hlen : l5 ≤ 400
    · have hd : decide ((l5 : Int) > 400) = false := by simp; omega
      have HOT : ok = true := by rw [HB_.out]; simp [hlen]
      subst HOT
      have HIT : Hid (I = ⟨st * su, stOf su (it, iu), lessOf (joinOf ins jns) sh, lessOf (joinOf outs juts) sh, joinOf (joinOf hids jids) sh, sortS LL⟩) := HI.out
      go_wp2_with fail
      refine (sortFunc_any _ l5 LL (w.heap.size + 3) _ O5.out (by omega)).mono ?_
      rintro e w6 ⟨rfl, ho, hg⟩
      have hrow := fun q hq => (O5.out.lt q hq).1
      have S6 : Hid (Box2 w w6 w.heap.size (w.heap.size + 1) 29 (iaC st it a2 n2 c2 a3 n3 c3 a4 n4 c4 a5 n5 c5) (iaC su iu b2 m2 d2 b3 m3 d3 b4 m4 d4 b5 m5 d5)) := ⟨SE.out.1.grown hg SE.out.1.size (fun q hq => by have := hrow q hq; omega), SE.out.2.1.grown hg (fun e => by have := hrow _ e.symm; omega), SE.out.2.2.grown hg (fun e => by have := hrow _ e.symm; omega)⟩
      have T6 := Lib.hid (T5.out.grown hg (fun e => by have := hrow _ e.symm; omega))
      have O6 := Lib.hid ho
      have P6 : Hid (Owns w6 w.heap.size (.slice sa sn sc) sn sh) := P5.out.keep hg (fun k hk he => own_ne2 P5.out O5.out (by decide) k hk he.symm)
      have bO := Lib.hid ho.lt
      obtain ⟨ini, hini⟩ : ∃ x, x = stOf su (it, iu) := ⟨_, rfl⟩
      rw [← hini] at HIT
      have CST : Hid (∀ W, Calls Tryz.prog 76 #[.agg #[.int .i64 su, .int .i64 iu, .slice b2 m2 d2, .slice b3 m3 d3, .slice b4 m4 d4, .slice b5 m5 d5], .agg #[.int .i64 it, .int .i64 iu]] W fun e w' => e = .returned (.int .i64 ini) ∧ Below W.heap.size W w') := fun W => by
        rw [hini]
        exact stateOf_any su iu (.slice b2 m2 d2) (.slice b3 m3 d3) (.slice b4 m4 d4) (.slice b5 m5 d5) it iu W (by omega) (by omega) (by omega)
      have CJ1 : Hid (∀ W, Box2 w W w.heap.size (w.heap.size + 1) 29 (iaC st it a2 n2 c2 a3 n3 c3 a4 n4 c4 a5 n5 c5) (iaC su iu b2 m2 d2 b3 m3 d3 b4 m4 d4 b5 m5 d5) → Calls Tryz.prog 78 #[.slice a2 n2 c2, .slice b2 m2 d2] W fun e w' => ∃ ad n cc, e = .returned (.slice ad n cc) ∧ (n ≤ 2097152 ∧ Row w' ad n (joinOf ins jns)) ∧ Below W.heap.size W w') := fun W hW =>
        (implSetJoin_any a2 b2 n2 c2 m2 d2 ins jns W (R2.out.below hW.1) (Q2.out.below hW.1) (by omega) (by omega)).mono fun e w' h => by
          obtain ⟨v, he, ho, hb⟩ := h
          obtain ⟨ad, cc, rfl⟩ := ho.form
          exact ⟨ad, _, cc, he, ⟨by have := join_len ins jns; omega, ho.row.2.2.2⟩, hb⟩
      have CJ2 : Hid (∀ W, Box2 w W w.heap.size (w.heap.size + 1) 29 (iaC st it a2 n2 c2 a3 n3 c3 a4 n4 c4 a5 n5 c5) (iaC su iu b2 m2 d2 b3 m3 d3 b4 m4 d4 b5 m5 d5) → Calls Tryz.prog 78 #[.slice a3 n3 c3, .slice b3 m3 d3] W fun e w' => ∃ ad n cc, e = .returned (.slice ad n cc) ∧ (n ≤ 2097152 ∧ Row w' ad n (joinOf outs juts)) ∧ Below W.heap.size W w') := fun W hW =>
        (implSetJoin_any a3 b3 n3 c3 m3 d3 outs juts W (R3.out.below hW.1) (Q3.out.below hW.1) (by omega) (by omega)).mono fun e w' h => by
          obtain ⟨v, he, ho, hb⟩ := h
          obtain ⟨ad, cc, rfl⟩ := ho.form
          exact ⟨ad, _, cc, he, ⟨by have := join_len outs juts; omega, ho.row.2.2.2⟩, hb⟩
      have CJ3 : Hid (∀ W, Box2 w W w.heap.size (w.heap.size + 1) 29 (iaC st it a2 n2 c2 a3 n3 c3 a4 n4 c4 a5 n5 c5) (iaC su iu b2 m2 d2 b3 m3 d3 b4 m4 d4 b5 m5 d5) → Calls Tryz.prog 78 #[.slice a4 n4 c4, .slice b4 m4 d4] W fun e w' => ∃ ad n cc, e = .returned (.slice ad n cc) ∧ (n ≤ 2097152 ∧ Row w' ad n (joinOf hids jids)) ∧ Below W.heap.size W w') := fun W hW =>
        (implSetJoin_any a4 b4 n4 c4 m4 d4 hids jids W (R4.out.below hW.1) (Q4.out.below hW.1) (by omega) (by omega)).mono fun e w' h => by
          obtain ⟨v, he, ho, hb⟩ := h
          obtain ⟨ad, cc, rfl⟩ := ho.form
          exact ⟨ad, _, cc, he, ⟨by have := join_len hids jids; omega, ho.row.2.2.2⟩, hb⟩
      have CL1 : Hid (∀ W ad n cc, (n ≤ 2097152 ∧ Row W ad n (joinOf ins jns)) → Row W sa sn sh → Calls Tryz.prog 77 #[.slice ad n cc, .slice sa sn sc] W fun e w' => ∃ xa xn xc, e = .returned (.slice xa xn xc) ∧ Owns w' W.heap.size (.slice xa xn xc) (lessOf (joinOf ins jns) sh).length (lessOf (joinOf ins jns) sh) ∧ Below W.heap.size W w') := fun W ad n cc h1 h2 => (implSetLess_any ad sa n cc sn sc (joinOf ins jns) sh W h1.2 h2 (by omega) (by omega)).mono fun e w' h => by
          obtain ⟨v, he, ho, hb⟩ := h
          obtain ⟨xa, xc, rfl⟩ := ho.form
          exact ⟨xa, _, xc, he, ho, hb⟩
      have CL2 : Hid (∀ W ad n cc, (n ≤ 2097152 ∧ Row W ad n (joinOf outs juts)) → Row W sa sn sh → Calls Tryz.prog 77 #[.slice ad n cc, .slice sa sn sc] W fun e w' => ∃ xa xn xc, e = .returned (.slice xa xn xc) ∧ Owns w' W.heap.size (.slice xa xn xc) (lessOf (joinOf outs juts) sh).length (lessOf (joinOf outs juts) sh) ∧ Below W.heap.size W w') := fun W ad n cc h1 h2 => (implSetLess_any ad sa n cc sn sc (joinOf outs juts) sh W h1.2 h2 (by omega) (by omega)).mono fun e w' h => by
          obtain ⟨v, he, ho, hb⟩ := h
          obtain ⟨xa, xc, rfl⟩ := ho.form
          exact ⟨xa, _, xc, he, ho, hb⟩
      have CL3 : Hid (∀ W ad n cc, (n ≤ 2097152 ∧ Row W ad n (joinOf hids jids)) → Row W sa sn sh → Calls Tryz.prog 78 #[.slice ad n cc, .slice sa sn sc] W fun e w' => ∃ xa xn xc, e = .returned (.slice xa xn xc) ∧ Owns w' W.heap.size (.slice xa xn xc) (joinOf (joinOf hids jids) sh).length (joinOf (joinOf hids jids) sh) ∧ Below W.heap.size W w') := fun W ad n cc h1 h2 => (implSetJoin_any ad sa n cc sn sc (joinOf hids jids) sh W h1.2 h2 (by omega) (by omega)).mono fun e w' h => by
          obtain ⟨v, he, ho, hb⟩ := h
          obtain ⟨xa, xc, rfl⟩ := ho.form
          exact ⟨xa, _, xc, he, ho, hb⟩
      have T8 := Lib.hid T6.out.drew
      have P8 : Hid (Owns w6.drew w.heap.size (.slice sa sn sc) sn sh) := P6.out
      have O8 : Hid (OwnsS 42 w6.drew (w.heap.size + 3) (.slice a5v l5 c5v) l5 (sortS LL)) := O6.out
      have SD8 := S6.out.drew
      clear ho hg hrow SE T5 O5 P5 S6 T6 O6 P6 hini
      go_wp2_with fail
      refine wp_region_held_drew (S := fun w' => Box2 w w' w.heap.size (w.heap.size + 1) 29 (iaC st it a2 n2 c2 a3 n3 c3 a4 n4 c4 a5 n5 c5) (iaC su iu b2 m2 d2 b3 m3 d3 b4 m4 d4 b5 m5 d5)) (by kernel_rfl) SD8 (fun hHeld => ?_)
      change wpAnyH _ _ _ _ _ 37 (Array.replicate 37 false) _ _
      refine take_op 0 32 (.pointer (some ⟨w.heap.size, 0, none⟩)) (fuel := 36) rfl rfl (by kernel_rfl) (by kernel_rfl) (by kernel_rfl) (fun _ _ _ h => h) (by rfl) (fun w hSw => by go_simp) hHeld ?_
      simp only [Act.put, List.setIfInBounds_toArray, List.set_cons_zero, List.set_cons_succ]
      refine take_op 1 33 (.int .i64 st) (fuel := 35) rfl rfl (by kernel_rfl) (by kernel_rfl) (by kernel_rfl) (fun _ _ _ h => h) (by rfl) (fun w hSw => by have m := hSw.2.1.cell (j := 0) (u := .int .i64 st) rfl; go_simp) hHeld ?_
      simp only [Act.put, List.setIfInBounds_toArray, List.set_cons_zero, List.set_cons_succ]
      refine take_op 2 34 (.pointer (some ⟨w.heap.size + 1, 0, none⟩)) (fuel := 34) rfl rfl (by kernel_rfl) (by kernel_rfl) (by kernel_rfl) (fun _ _ _ h => h) (by rfl) (fun w hSw => by go_simp) hHeld ?_
      simp only [Act.put, List.setIfInBounds_toArray, List.set_cons_zero, List.set_cons_succ]
      refine take_op 3 35 (.int .i64 su) (fuel := 33) rfl rfl (by kernel_rfl) (by kernel_rfl) (by kernel_rfl) (fun _ _ _ h => h) (by rfl) (fun w hSw => by have m := hSw.2.2.cell (j := 0) (u := .int .i64 su) rfl; go_simp) hHeld ?_
      simp only [Act.put, List.setIfInBounds_toArray, List.set_cons_zero, List.set_cons_succ]
      refine take_op 4 36 (.int .i64 (st * su)) (fuel := 32) rfl rfl (by kernel_rfl) (by kernel_rfl) (by kernel_rfl) (fun _ _ _ h => h) (by rfl) (fun w hSw => by go_simp; exact Go.IntWalk.i64_in _ (by have h1 := HMUL; omega)) hHeld ?_
      simp only [Act.put, List.setIfInBounds_toArray, List.set_cons_zero, List.set_cons_succ]
      refine take_yields 5 37 (.agg #[.int .i64 su, .int .i64 iu, .slice b2 m2 d2, .slice b3 m3 d3, .slice b4 m4 d4, .slice b5 m5 d5]) (fuel := 31) rfl rfl (by kernel_rfl) (by kernel_rfl) (by kernel_rfl) (fun _ _ _ h => h) (yieldsIf_load_mid (by rfl) _ _ rfl (w.heap.size + 1) 0 rfl (iaC su iu b2 m2 d2 b3 m3 d3 b4 m4 d4 b5 m5 d5).toList _ (fun w hw => hw.2.2.range) Tryz.underlying29 rfl (by kernel_rfl)) hHeld ?_
      simp only [Act.put, List.setIfInBounds_toArray, List.set_cons_zero, List.set_cons_succ]
      refine take_op 6 38 (.pointer (some ⟨w.heap.size, 1, none⟩)) (fuel := 30) rfl rfl (by kernel_rfl) (by kernel_rfl) (by kernel_rfl) (fun _ _ _ h => h) (by rfl) (fun w hSw => by go_simp) hHeld ?_
      simp only [Act.put, List.setIfInBounds_toArray, List.set_cons_zero, List.set_cons_succ]
      refine take_op 7 39 (.int .i64 it) (fuel := 29) rfl rfl (by kernel_rfl) (by kernel_rfl) (by kernel_rfl) (fun _ _ _ h => h) (by rfl) (fun w hSw => by have m := hSw.2.1.cell (j := 1) (u := .int .i64 it) rfl; go_simp) hHeld ?_
      simp only [Act.put, List.setIfInBounds_toArray, List.set_cons_zero, List.set_cons_succ]
      refine take_op 8 40 (.pointer (some ⟨w.heap.size + 1, 1, none⟩)) (fuel := 28) rfl rfl (by kernel_rfl) (by kernel_rfl) (by kernel_rfl) (fun _ _ _ h => h) (by rfl) (fun w hSw => by go_simp) hHeld ?_
      simp only [Act.put, List.setIfInBounds_toArray, List.set_cons_zero, List.set_cons_succ]
      refine take_op 9 41 (.int .i64 iu) (fuel := 27) rfl rfl (by kernel_rfl) (by kernel_rfl) (by kernel_rfl) (fun _ _ _ h => h) (by rfl) (fun w hSw => by have m := hSw.2.2.cell (j := 1) (u := .int .i64 iu) rfl; go_simp) hHeld ?_
      simp only [Act.put, List.setIfInBounds_toArray, List.set_cons_zero, List.set_cons_succ]
      refine take_op 10 42 (.agg #[.int .i64 it, .int .i64 iu]) (fuel := 26) rfl rfl (by kernel_rfl) (by kernel_rfl) (by kernel_rfl) (fun _ _ _ h => h) (by rfl) (fun w hSw => by go_simp) hHeld ?_
      simp only [Act.put, List.setIfInBounds_toArray, List.set_cons_zero, List.set_cons_succ]
      refine take_op 12 44 (.pointer (some ⟨w.heap.size, 2, none⟩)) (fuel := 25) rfl rfl (by kernel_rfl) (by kernel_rfl) (by kernel_rfl) (fun _ _ _ h => h) (by rfl) (fun w hSw => by go_simp) hHeld ?_
      simp only [Act.put, List.setIfInBounds_toArray, List.set_cons_zero, List.set_cons_succ]
      refine take_op 13 45 (.slice a2 n2 c2) (fuel := 24) rfl rfl (by kernel_rfl) (by kernel_rfl) (by kernel_rfl) (fun _ _ _ h => h) (by rfl) (fun w hSw => by have m := hSw.2.1.cell (j := 2) (u := .slice a2 n2 c2) rfl; go_simp) hHeld ?_
      simp only [Act.put, List.setIfInBounds_toArray, List.set_cons_zero, List.set_cons_succ]
      refine take_op 14 46 (.pointer (some ⟨w.heap.size + 1, 2, none⟩)) (fuel := 23) rfl rfl (by kernel_rfl) (by kernel_rfl) (by kernel_rfl) (fun _ _ _ h => h) (by rfl) (fun w hSw => by go_simp) hHeld ?_
      simp only [Act.put, List.setIfInBounds_toArray, List.set_cons_zero, List.set_cons_succ]
      refine take_op 15 47 (.slice b2 m2 d2) (fuel := 22) rfl rfl (by kernel_rfl) (by kernel_rfl) (by kernel_rfl) (fun _ _ _ h => h) (by rfl) (fun w hSw => by have m := hSw.2.2.cell (j := 2) (u := .slice b2 m2 d2) rfl; go_simp) hHeld ?_
      simp only [Act.put, List.setIfInBounds_toArray, List.set_cons_zero, List.set_cons_succ]
      refine take_op 17 49 (.slice sa sn sc) (fuel := 21) rfl rfl (by kernel_rfl) (by kernel_rfl) (by kernel_rfl) (fun _ _ _ h => h) (by rfl) (fun w hSw => by go_simp) hHeld ?_
      simp only [Act.put, List.setIfInBounds_toArray, List.set_cons_zero, List.set_cons_succ]
      refine take_op 19 51 (.pointer (some ⟨w.heap.size, 3, none⟩)) (fuel := 20) rfl rfl (by kernel_rfl) (by kernel_rfl) (by kernel_rfl) (fun _ _ _ h => h) (by rfl) (fun w hSw => by go_simp) hHeld ?_
      simp only [Act.put, List.setIfInBounds_toArray, List.set_cons_zero, List.set_cons_succ]
      refine take_op 20 52 (.slice a3 n3 c3) (fuel := 19) rfl rfl (by kernel_rfl) (by kernel_rfl) (by kernel_rfl) (fun _ _ _ h => h) (by rfl) (fun w hSw => by have m := hSw.2.1.cell (j := 3) (u := .slice a3 n3 c3) rfl; go_simp) hHeld ?_
      simp only [Act.put, List.setIfInBounds_toArray, List.set_cons_zero, List.set_cons_succ]
      refine take_op 21 53 (.pointer (some ⟨w.heap.size + 1, 3, none⟩)) (fuel := 18) rfl rfl (by kernel_rfl) (by kernel_rfl) (by kernel_rfl) (fun _ _ _ h => h) (by rfl) (fun w hSw => by go_simp) hHeld ?_
      simp only [Act.put, List.setIfInBounds_toArray, List.set_cons_zero, List.set_cons_succ]
      refine take_op 22 54 (.slice b3 m3 d3) (fuel := 17) rfl rfl (by kernel_rfl) (by kernel_rfl) (by kernel_rfl) (fun _ _ _ h => h) (by rfl) (fun w hSw => by have m := hSw.2.2.cell (j := 3) (u := .slice b3 m3 d3) rfl; go_simp) hHeld ?_
      simp only [Act.put, List.setIfInBounds_toArray, List.set_cons_zero, List.set_cons_succ]
      refine take_op 24 56 (.slice sa sn sc) (fuel := 16) rfl rfl (by kernel_rfl) (by kernel_rfl) (by kernel_rfl) (fun _ _ _ h => h) (by rfl) (fun w hSw => by go_simp) hHeld ?_
      simp only [Act.put, List.setIfInBounds_toArray, List.set_cons_zero, List.set_cons_succ]
      refine take_op 26 58 (.pointer (some ⟨w.heap.size, 4, none⟩)) (fuel := 15) rfl rfl (by kernel_rfl) (by kernel_rfl) (by kernel_rfl) (fun _ _ _ h => h) (by rfl) (fun w hSw => by go_simp) hHeld ?_
      simp only [Act.put, List.setIfInBounds_toArray, List.set_cons_zero, List.set_cons_succ]
      refine take_op 27 59 (.slice a4 n4 c4) (fuel := 14) rfl rfl (by kernel_rfl) (by kernel_rfl) (by kernel_rfl) (fun _ _ _ h => h) (by rfl) (fun w hSw => by have m := hSw.2.1.cell (j := 4) (u := .slice a4 n4 c4) rfl; go_simp) hHeld ?_
      simp only [Act.put, List.setIfInBounds_toArray, List.set_cons_zero, List.set_cons_succ]
      refine take_op 28 60 (.pointer (some ⟨w.heap.size + 1, 4, none⟩)) (fuel := 13) rfl rfl (by kernel_rfl) (by kernel_rfl) (by kernel_rfl) (fun _ _ _ h => h) (by rfl) (fun w hSw => by go_simp) hHeld ?_
      simp only [Act.put, List.setIfInBounds_toArray, List.set_cons_zero, List.set_cons_succ]
      refine take_op 29 61 (.slice b4 m4 d4) (fuel := 12) rfl rfl (by kernel_rfl) (by kernel_rfl) (by kernel_rfl) (fun _ _ _ h => h) (by rfl) (fun w hSw => by have m := hSw.2.2.cell (j := 4) (u := .slice b4 m4 d4) rfl; go_simp) hHeld ?_
      simp only [Act.put, List.setIfInBounds_toArray, List.set_cons_zero, List.set_cons_succ]
      refine take_op 31 63 (.slice sa sn sc) (fuel := 11) rfl rfl (by kernel_rfl) (by kernel_rfl) (by kernel_rfl) (fun _ _ _ h => h) (by rfl) (fun w hSw => by go_simp) hHeld ?_
      simp only [Act.put, List.setIfInBounds_toArray, List.set_cons_zero, List.set_cons_succ]
      refine take_op 33 65 (.slice a5v l5 c5v) (fuel := 10) rfl rfl (by kernel_rfl) (by kernel_rfl) (by kernel_rfl) (fun _ _ _ h => h) (by rfl) (fun w hSw => by go_simp) hHeld ?_
      simp only [Act.put, List.setIfInBounds_toArray, List.set_cons_zero, List.set_cons_succ]
      refine wpAnyH_ready (rs := [11]) (fuel := 9) (by kernel_rfl) (by simp) ?_
      refine AllReadyH.cons rfl (fun K hK => ?_) AllReadyH.nil
      go_simp
      refine (CST.out _).mono ?_
      rintro e w9 ⟨rfl, hb⟩
      have hz9 : w6.heap.size ≤ w9.heap.size := hb.size
      have T9 := Lib.hid (T8.out.below hb)
      have P9 := Lib.hid (P8.out.below hb)
      have O9 := Lib.hid (O8.out.below hb)
      have hS9 := hHeld.below hb
      clear hb  T8 P8 O8
      go_wp2_with fail
      refine hK.out _ _ hS9 (fun hHeld => ?_)
      clear hK K
      refine wpAnyH_ready (rs := [16]) (fuel := 8) (by kernel_rfl) (by simp) ?_
      refine AllReadyH.cons rfl (fun K hK => ?_) AllReadyH.nil
      go_simp
      refine (CJ1.out _ hHeld).mono ?_
      rintro e w10 ⟨j1a, j1n, j1c, rfl, ho, hb⟩
      have hz10 := hb.size
      have T10 := Lib.hid (T9.out.below hb)
      have P10 := Lib.hid (P9.out.below hb)
      have O10 := Lib.hid (O9.out.below hb)
      have hlow := T10.out.lt
      have J10 := Lib.hid ho
      have hS10 := hHeld.below hb
      clear hb ho T9 P9 O9
      go_wp2_with fail
      refine hK.out _ _ hS10 (fun hHeld => ?_)
      clear hK K
      refine wpAnyH_ready (rs := [18]) (fuel := 7) (by kernel_rfl) (by simp) ?_
      refine AllReadyH.cons rfl (fun K hK => ?_) AllReadyH.nil
      go_simp
      refine (CL1.out _ _ _ _ J10.out P10.out.row.2.2.2).mono ?_
      rintro e w11 ⟨x2a, x2n, x2c, rfl, ho, hb⟩
      have hz11 := hb.size
      have T11 := Lib.hid (T10.out.below hb)
      have P11 := Lib.hid (P10.out.below hb)
      have O11 := Lib.hid (O10.out.below hb)
      have X211 := Lib.hid ho
      have bdX2 := Lib.hid ho.lt
      have hS11 := hHeld.below hb
      clear hb ho T10 P10 O10
      go_wp2_with fail
      refine hK.out _ _ hS11 (fun hHeld => ?_)
      clear hK K
      refine wpAnyH_ready (rs := [23]) (fuel := 6) (by kernel_rfl) (by simp) ?_
      refine AllReadyH.cons rfl (fun K hK => ?_) AllReadyH.nil
      go_simp
      refine (CJ2.out _ hHeld).mono ?_
      rintro e w12 ⟨j2a, j2n, j2c, rfl, ho, hb⟩
      have hz12 := hb.size
      have T12 := Lib.hid (T11.out.below hb)
      have P12 := Lib.hid (P11.out.below hb)
      have O12 := Lib.hid (O11.out.below hb)
      have X212 := Lib.hid (X211.out.below hb)
      have J12 := Lib.hid ho
      have hS12 := hHeld.below hb
      clear hb ho T11 P11 O11 X211
      go_wp2_with fail
      refine hK.out _ _ hS12 (fun hHeld => ?_)
      clear hK K
      refine wpAnyH_ready (rs := [25]) (fuel := 5) (by kernel_rfl) (by simp) ?_
      refine AllReadyH.cons rfl (fun K hK => ?_) AllReadyH.nil
      go_simp
      refine (CL2.out _ _ _ _ J12.out P12.out.row.2.2.2).mono ?_
      rintro e w13 ⟨x3a, x3n, x3c, rfl, ho, hb⟩
      have hz13 := hb.size
      have T13 := Lib.hid (T12.out.below hb)
      have P13 := Lib.hid (P12.out.below hb)
      have O13 := Lib.hid (O12.out.below hb)
      have X213 := Lib.hid (X212.out.below hb)
      have X313 := Lib.hid ho
      have bdX3 := Lib.hid ho.lt
      have hS13 := hHeld.below hb
      clear hb ho T12 P12 O12 X212
      go_wp2_with fail
      refine hK.out _ _ hS13 (fun hHeld => ?_)
      clear hK K
      refine wpAnyH_ready (rs := [30]) (fuel := 4) (by kernel_rfl) (by simp) ?_
      refine AllReadyH.cons rfl (fun K hK => ?_) AllReadyH.nil
      go_simp
      refine (CJ3.out _ hHeld).mono ?_
      rintro e w14 ⟨j3a, j3n, j3c, rfl, ho, hb⟩
      have hz14 := hb.size
      have T14 := Lib.hid (T13.out.below hb)
      have P14 := Lib.hid (P13.out.below hb)
      have O14 := Lib.hid (O13.out.below hb)
      have X214 := Lib.hid (X213.out.below hb)
      have X314 := Lib.hid (X313.out.below hb)
      have J14 := Lib.hid ho
      have hS14 := hHeld.below hb
      clear hb ho T13 P13 O13 X213 X313
      go_wp2_with fail
      refine hK.out _ _ hS14 (fun hHeld => ?_)
      clear hK K
      refine wpAnyH_ready (rs := [32]) (fuel := 3) (by kernel_rfl) (by simp) ?_
      refine AllReadyH.cons rfl (fun K hK => ?_) AllReadyH.nil
      go_simp
      refine (CL3.out _ _ _ _ J14.out P14.out.row.2.2.2).mono ?_
      rintro e w15 ⟨x4a, x4n, x4c, rfl, ho, hb⟩
      have hz15 := hb.size
      have T15 := Lib.hid (T14.out.below hb)
      have P15 := Lib.hid (P14.out.below hb)
      have O15 := Lib.hid (O14.out.below hb)
      have X215 := Lib.hid (X214.out.below hb)
      have X315 := Lib.hid (X314.out.below hb)
      have X415 := Lib.hid ho
      have bdX4 := Lib.hid ho.lt
      have hS15 := hHeld.below hb
      clear hb ho T14 P14 O14 X214 X314
      have hone : (#[.int .i64 (st * su), .int .i64 ini, .slice x2a x2n x2c, .slice x3a x3n x3c, .slice x4a x4n x4c, .slice a5v l5 c5v] : Array Value).all (·.oneCell') = true := by
        exact ia_one _ _ _ _ _ _ _ _ _ _ _ _ _ _
      have t9 : Hid (w15.there (w.heap.size + 2) 0 6) := T15.out.there rfl
      have g9 := Lib.hid (grown_setCells (w.heap.size + 2) [.int .i64 (st * su), .int .i64 ini, .slice x2a x2n x2c, .slice x3a x3n x3c, .slice x4a x4n x4c, .slice a5v l5 c5v] 0 w15)
      have rg9 : Hid ((w15.setCells (w.heap.size + 2) 0 [.int .i64 (st * su), .int .i64 ini, .slice x2a x2n x2c, .slice x3a x3n x3c, .slice x4a x4n x4c, .slice a5v l5 c5v]).rangeAt (w.heap.size + 2) 0 [.int .i64 (st * su), .int .i64 ini, .slice x2a x2n x2c, .slice x3a x3n x3c, .slice x4a x4n x4c, .slice a5v l5 c5v]) := World.rangeAt_setCells_same w15 (w.heap.size + 2) 0 [.int .i64 (st * su), .int .i64 ini, .slice x2a x2n x2c, .slice x3a x3n x3c, .slice x4a x4n x4c, .slice a5v l5 c5v] (by simpa using t9.out)
      go_wp2_with fail
      refine hK.out _ _ hS15 (fun hHeld => ?_)
      clear hK K
      refine take_op 34 66 (.agg #[.int .i64 (st * su), .int .i64 ini, .slice x2a x2n x2c, .slice x3a x3n x3c, .slice x4a x4n x4c, .slice a5v l5 c5v]) (fuel := 2) rfl rfl (by kernel_rfl) (by kernel_rfl) (by kernel_rfl) (fun _ _ _ h => h) (by rfl) (fun w hSw => by go_simp) hHeld ?_
      simp only [Act.put, List.setIfInBounds_toArray, List.set_cons_zero, List.set_cons_succ]
      refine wpAnyH_ready (rs := [35]) (fuel := 1) (by kernel_rfl) (by simp) ?_
      refine AllReadyH.cons rfl (fun K hK => ?_) AllReadyH.nil
      rw [if_pos (by rfl)]
      refine wp_store_mid _ _ _ rfl (w.heap.size + 2) 0 #[.int .i64 (st * su), .int .i64 ini, .slice x2a x2n x2c, .slice x3a x3n x3c, .slice x4a x4n x4c, .slice a5v l5 c5v] rfl rfl t9.out (by kernel_rfl) hone ?_
      refine hK.out _ _ ⟨hHeld.1.grown g9.out hHeld.1.size (fun q hq => by have h1 := Option.some.inj hq; omega), hHeld.2.1.grown g9.out (fun e => by have h1 := Option.some.inj e; omega), hHeld.2.2.grown g9.out (fun e => by have h1 := Option.some.inj e; omega)⟩ (fun hHeld => ?_)
      clear hK K
      refine take_op 36 5 (.bool true) (fuel := 0) rfl rfl (by kernel_rfl) (by kernel_rfl) (by kernel_rfl) (fun _ _ _ h => h) (by rfl) (fun w hSw => by go_simp) hHeld ?_
      simp only [Act.put, List.setIfInBounds_toArray]
      refine wpAnyH_done (by kernel_rfl) ?_ _
      have rg := rg9.out
      have HC0 := rg 0 _ rfl
      have HC1 := rg 1 _ rfl
      have HC2 := rg 2 _ rfl
      have HC3 := rg 3 _ rfl
      have HC4 := rg 4 _ rfl
      have HC5 := rg 5 _ rfl
      simp only [Nat.zero_add] at HC0 HC1 HC2 HC3 HC4 HC5
      have y2 := X215.out.keep g9.out (fun k hk e => by have h1 := (bdX2.out k hk).1; have h2 := Option.some.inj e; have h3 := hlow; omega)
      have y3 := X315.out.keep g9.out (fun k hk e => by have h1 := (bdX3.out k hk).1; have h2 := Option.some.inj e; have h3 := hlow; omega)
      have y4 := X415.out.keep g9.out (fun k hk e => by have h1 := (bdX4.out k hk).1; have h2 := Option.some.inj e; have h3 := hlow; omega)
      have y5 := O15.out.keep g9.out (fun k hk e => by have h1 := (bO.out k hk).1; have h2 := Option.some.inj e; omega)
      go_wp2_with fail
      refine bodyPost_ret (v := .tuple #[.agg #[.int .i64 (st * su), .int .i64 ini, .slice x2a x2n x2c, .slice x3a x3n x3c, .slice x4a x4n x4c, .slice a5v l5 c5v], .bool true]) ?_ rfl ⟨.agg #[.int .i64 (st * su), .int .i64 ini, .slice x2a x2n x2c, .slice x3a x3n x3c, .slice x4a x4n x4c, .slice a5v l5 c5v], rfl, ?_, hHeld.1⟩
      · simp [results, Tryz.results20, go_sem, HC0, HC1, HC2, HC3, HC4, HC5]
      · rw [HIT.out]
        refine ⟨_, _, _, _, rfl, y2.mono (by omega), y3.mono (by omega), y4.mono (by omega), ?_, ?_, ?_, ?_⟩
        · have e := y5.length
          rw [e]
          exact y5.mono (by omega)
        · intro b hb
          have h2 := bdX2.out b hb
          exact ⟨fun h => by have := bdX3.out b h; omega, fun h => by have := bdX4.out b h; omega, fun h => by have := bO.out b h; omega⟩
        · intro b hb
          have h2 := bdX3.out b hb
          exact ⟨fun h => by have := bdX4.out b h; omega, fun h => by have := bO.out b h; omega⟩
        · intro b hb h
          have h2 := bdX4.out b hb
          have := bO.out b h
          omega
    · have hd : decide ((l5 : Int) > 400) = true := by simp; omega
      have HOF : ok = false := by rw [HB_.out]; simp [hlen]
      subst HOF
      have THX : Hid (w5.there (w.heap.size + 2) 0 6) := T5.out.there rfl
      have RGX : Hid ((w5.setCells (w.heap.size + 2) 0 [.int .i64 0, .int .i64 0, .slice none 0 0, .slice none 0 0, .slice none 0 0, .slice none 0 0]).rangeAt (w.heap.size + 2) 0 [.int .i64 0, .int .i64 0, .slice none 0 0, .slice none 0 0, .slice none 0 0, .slice none 0 0]) := World.rangeAt_setCells_same w5 (w.heap.size + 2) 0 [.int .i64 0, .int .i64 0, .slice none 0 0, .slice none 0 0, .slice none 0 0, .slice none 0 0] (by simpa using THX.out)
      have GX := Lib.hid (grown_setCells (w.heap.size + 2) [.int .i64 0, .int .i64 0, .slice none 0 0, .slice none 0 0, .slice none 0 0, .slice none 0 0] 0 w5)
      have BX : Hid (Below w.heap.size w (w5.setCells (w.heap.size + 2) 0 [.int .i64 0, .int .i64 0, .slice none 0 0, .slice none 0 0, .slice none 0 0, .slice none 0 0])) := SE.out.1.grown GX.out SE.out.1.size (fun q hq => by have h1 := Option.some.inj hq; omega)
      have HIN : Hid (I = noIa) := HI.out
      go_wp2_with (refine wpList_store_mid rfl _ _ _ rfl (w.heap.size + 2) 0 #[.int .i64 0, .int .i64 0, .slice none 0 0, .slice none 0 0, .slice none 0 0, .slice none 0 0] rfl rfl THX.out (by kernel_rfl) (ia_one _ _ _ _ _ _ _ _ _ _ _ _ _ _) ?_)
      refine bodyPost_ret (v := .tuple #[.agg #[.int .i64 0, .int .i64 0, .slice none 0 0, .slice none 0 0, .slice none 0 0, .slice none 0 0], .bool false]) ?_ rfl ⟨.agg #[.int .i64 0, .int .i64 0, .slice none 0 0, .slice none 0 0, .slice none 0 0, .slice none 0 0], rfl, by rw [HIN.out]; exact own_none _ _, BX.out⟩
      have HC0 := RGX.out 0 _ rfl
      have HC1 := RGX.out 1 _ rfl
      have HC2 := RGX.out 2 _ rfl
      have HC3 := RGX.out 3 _ rfl
      have HC4 := RGX.out 4 _ rfl
      have HC5 := RGX.out 5 _ rfl
      simp only [Nat.zero_add] at HC0 HC1 HC2 HC3 HC4 HC5
      simp [results, Tryz.results20, go_sem, HC0, HC1, HC2, HC3, HC4, HC5]

end Go.Proofs.YtogjbnimohakjabGreat
