/-
  Contracts of the program's stepsApart, stepsTogether. Conditions: both automata are right, their lists have at most 2^20 elements.
-/
import Derived.Test.YtdbgjgeglgipiaaGreatStepOf
namespace Go.Proofs.YtdbgjgeglgipiaaGreat
open Go.RowKit

theorem besideA_len (su : Int) (m : Nat) (x : St) : (besideA su m x).length = m := by simp [besideA]
theorem besideB_len (su : Int) (m : Nat) (x : St) : (besideB su m x).length = m := by simp [besideB]

theorem aloneA_len (sh : List Int) (su : Int) (m : Nat) : ∀ ss : List St, (aloneA sh su m ss).length ≤ ss.length * m
  | [] => by simp [aloneA]
  | x :: r => by
    have h1 := aloneA_len sh su m r
    have h2 : aloneA sh su m (x :: r) = (if hasB sh x.2.1 then [] else besideA su m x) ++ aloneA sh su m r := rfl
    rw [h2, List.length_append, List.length_cons, Nat.succ_mul]
    split
    · simp; omega
    · rw [besideA_len]; omega

theorem aloneB_len (sh : List Int) (su : Int) (m : Nat) : ∀ ss : List St, (aloneB sh su m ss).length ≤ ss.length * m
  | [] => by simp [aloneB]
  | x :: r => by
    have h1 := aloneB_len sh su m r
    have h2 : aloneB sh su m (x :: r) = (if hasB sh x.2.1 then [] else besideB su m x) ++ aloneB sh su m r := rfl
    rw [h2, List.length_append, List.length_cons, Nat.succ_mul]
    split
    · simp; omega
    · rw [besideB_len]; omega

set_option maxRecDepth 20000 in
set_option maxHeartbeats 6400000 in
theorem stepsApart_any (a b : IaD) (v u : Value) (w : World) (h : IaRow w a v) (k : IaRow w b u) (fa : Small a) (fb : Small b) (oka : iaOkB a = true) (okb : iaOkB b = true) (sa : Option Addr) (sn sc : Nat) (sh : List Int) (hs : Row w sa sn sh) (hsn : sn ≤ 1048576) :
    Calls Tryz.prog 52 #[v, u, .slice sa sn sc] w fun e w' => ∃ v', e = .returned v' ∧ OwnsS 48 w' w.heap.size v' (aloneA sh b.states b.states.toNat a.steps ++ aloneB sh b.states a.states.toNat b.steps).length (aloneA sh b.states b.states.toNat a.steps ++ aloneB sh b.states a.states.toNat b.steps) ∧ Below w.heap.size w w' := by
  have sA := iaOk_states oka
  have sB := iaOk_states okb
  have eA := iaOk_ends oka
  have eB := iaOk_ends okb
  have lA := iaOk_len oka
  have lB := iaOk_len okb
  clear oka okb
  obtain ⟨a2, n2, c2, a3, n3, c3, a4, n4, c4, a5, n5, c5, rfl, r2, r3, r4, r5⟩ := h
  obtain ⟨b2, m2, d2, b3, m3, d3, b4, m4, d4, b5, m5, d5, rfl, q2, q3, q4, q5⟩ := k
  obtain ⟨st, it, ins, outs, hids, steps⟩ := a
  obtain ⟨su, iu, jns, juts, jids, jteps⟩ := b
  obtain ⟨f2, f3, f4, f5⟩ := fa
  obtain ⟨g2, g3, g4, g5⟩ := fb
  simp only at r2 r3 r4 r5 q2 q3 q4 q5 f2 f3 f4 f5 g2 g3 g4 g5
  have HA : Hid (∀ W, Below w.heap.size w W → IaRow W ⟨st, it, ins, outs, hids, steps⟩ (.agg #[.int .i64 st, .int .i64 it, .slice a2 n2 c2, .slice a3 n3 c3, .slice a4 n4 c4, .slice a5 n5 c5])) := fun W hW => IaRow.below ⟨a2, n2, c2, a3, n3, c3, a4, n4, c4, a5, n5, c5, rfl, r2, r3, r4, r5⟩ hW
  have HB : Hid (∀ W, Below w.heap.size w W → IaRow W ⟨su, iu, jns, juts, jids, jteps⟩ (.agg #[.int .i64 su, .int .i64 iu, .slice b2 m2 d2, .slice b3 m3 d3, .slice b4 m4 d4, .slice b5 m5 d5])) := fun W hW => IaRow.below ⟨b2, m2, d2, b3, m3, d3, b4, m4, d4, b5, m5, d5, rfl, q2, q3, q4, q5⟩ hW
  have S0 := Lib.hid (Box2.start w (iaC st it a2 n2 c2 a3 n3 c3 a4 n4 c4 a5 n5 c5) (iaC su iu b2 m2 d2 b3 m3 d3 b4 m4 d4 b5 m5 d5) 31)
  have e2 := r2.1
  have e3 := r3.1
  have e4 := r4.1
  have k2 := q2.1
  have k3 := q3.1
  have k4 := q4.1
  rw [e2] at f2
  rw [e3] at f3
  rw [e4] at f4
  rw [k2] at g2
  rw [k3] at g3
  rw [k4] at g4
  have R2 := Lib.hid r2
  have R3 := Lib.hid r3
  have R4 := Lib.hid r4
  have R5 := Lib.hid r5
  have Q2 := Lib.hid q2
  have Q3 := Lib.hid q3
  have Q4 := Lib.hid q4
  have Q5 := Lib.hid q5
  clear r2 r3 r4 r5 q2 q3 q4 q5
  clear HA HB R2 R3 R4 Q2 Q3 Q4
  simp only at sA sB eA eB lA lB ⊢
  have EA := Lib.hid eA
  have EB := Lib.hid eB
  have RSH := Lib.hid hs
  clear eA eB hs
  obtain ⟨nA, hnA⟩ : ∃ n, n = st.toNat := ⟨_, rfl⟩
  obtain ⟨nB, hnB⟩ : ∃ n, n = su.toNat := ⟨_, rfl⟩
  rw [← hnA, ← hnB]
  have hA40 : nA ≤ 40 := by omega
  have hB40 : nB ≤ 40 := by omega
  have HNA := Lib.hid hnA
  have HNB := Lib.hid hnB
  clear hnA hnB
  have HLA : Hid (∀ k, (aloneA sh su nB (steps.take k)).length ≤ 16000) := fun k => by
    have h1 := aloneA_len sh su nB (steps.take k)
    have h2 : (steps.take k).length * nB ≤ 400 * 40 := Nat.mul_le_mul (by rw [List.length_take]; omega) hB40
    omega
  have HLB : Hid (∀ k, (aloneB sh su nA (jteps.take k)).length ≤ 16000) := fun k => by
    have h1 := aloneB_len sh su nA (jteps.take k)
    have h2 : (jteps.take k).length * nA ≤ 400 * 40 := Nat.mul_le_mul (by rw [List.length_take]; omega) hA40
    omega
  obtain ⟨wz, hwz⟩ : ∃ x, x = ((w.alloc (.cells #[.int .i64 st, .int .i64 it, .slice a2 n2 c2, .slice a3 n3 c3, .slice a4 n4 c4, .slice a5 n5 c5] 31)).alloc (.cells #[.int .i64 su, .int .i64 iu, .slice b2 m2 d2, .slice b3 m3 d3, .slice b4 m4 d4, .slice b5 m5 d5] 31)) := ⟨_, rfl⟩
  have HSZ : Hid (wz.heap.size = w.heap.size + 2) := by unfold Hid; rw [hwz]; simp
  have RB0 : Hid (Below (w.heap.size + 2) wz ((w.alloc (.cells #[.int .i64 st, .int .i64 it, .slice a2 n2 c2, .slice a3 n3 c3, .slice a4 n4 c4, .slice a5 n5 c5] 31)).alloc (.cells #[.int .i64 su, .int .i64 iu, .slice b2 m2 d2, .slice b3 m3 d3, .slice b4 m4 d4, .slice b5 m5 d5] 31))) := by unfold Hid; rw [hwz, ← HSZ.out, hwz]; exact Below.refl _ _
  have HBX : Hid (∀ W, Below (w.heap.size + 2) wz W → Box2 w W w.heap.size (w.heap.size + 1) 31 (iaC st it a2 n2 c2 a3 n3 c3 a4 n4 c4 a5 n5 c5) (iaC su iu b2 m2 d2 b3 m3 d3 b4 m4 d4 b5 m5 d5)) := fun W hW => by
    rw [← HSZ.out] at hW
    have h0 : Box2 w wz w.heap.size (w.heap.size + 1) 31 (iaC st it a2 n2 c2 a3 n3 c3 a4 n4 c4 a5 n5 c5) (iaC su iu b2 m2 d2 b3 m3 d3 b4 m4 d4 b5 m5 d5) := by rw [hwz]; exact S0.out
    exact h0.below hW
  clear hwz
  obtain ⟨i0, hi0, hz0, hz1, hz2⟩ := info_parts (show (Tryz.prog.info? 48).map (fun i => (i.zero, i.size, i.bytes)) = some (some (.agg #[.int .i64 0, .int .i64 0, .int .i64 0]), 3, 24) by kernel_rfl)
  have ca5 := S0.out.2.1.cell (j := 5) (u := .slice a5 n5 c5) rfl
  go_enter Tryz.func52, Tryz.ntmps52
  go_wp2_with fail
  clear ca5
  go_loopw [7, 17] (fun pv iv wr => ∃ (k len : Nat) (v0 : Value) (L : List St), k ≤ n5 ∧ v0 = pv ∧ iv = .int .i64 (k : Int) ∧ Hid (OwnsS 48 wr (w.heap.size + 2) v0 len L) ∧ Hid (L = aloneA sh su nB (steps.take k)) ∧ Hid (Below (w.heap.size + 2) wz wr)) (fun _ iv _ => n5 - (intOf iv).toNat)
  case atStart => exact ⟨0, 0, _, [], Nat.zero_le _, rfl, rfl, World.ownsRow_nil _ _ _ _, rfl, RB0.out⟩
  case round =>
    clear RB0
    obtain ⟨k, len, v0, L, hk, rfl, rfl, HO, HT, HB⟩ := hrel
    by_cases hlt : k < n5
    · obtain ⟨b, off, rfl, hbx, hcell⟩ := R5.out.2 (by omega)
      have hkx : k < steps.length := by rw [R5.out.1]; exact hlt
      obtain ⟨⟨xf, xa, xt⟩, hs⟩ : ∃ t, t = steps[k] := ⟨_, rfl⟩
      obtain ⟨e0, e1, e2⟩ := hcell k steps[k] (List.getElem?_eq_getElem hkx)
      have hin := EA.out steps[k] (List.getElem_mem hkx)
      rw [← hs] at e0 e1 e2 hin
      simp only at hin
      have BWr := (HBX.out _ HB.out).1
      have g0 := (BWr.cell (p := ⟨b, off + k * 3, none⟩) hbx).trans e0
      have g1 := (BWr.cell (p := ⟨b, off + k * 3 + 1, none⟩) hbx).trans e1
      have g2 := (BWr.cell (p := ⟨b, off + k * 3 + 2, none⟩) hbx).trans e2
      simp only at g0 g1 g2
      have hszr : w.heap.size + 2 ≤ wr.heap.size := by have h1 := HB.out.size; have h2 := HSZ.out; omega
      have B1 : Hid (Below (w.heap.size + 2) wz (wr.alloc (.cells #[.int .i64 xf, .int .i64 xa, .int .i64 xt] 48))) := HB.out.alloc hszr _
      have X1 := Lib.hid (VarIs.new wr #[.int .i64 xf, .int .i64 xa, .int .i64 xt] 48 rfl)
      have O1 := Lib.hid (HO.out.alloc (.cells #[.int .i64 xf, .int .i64 xa, .int .i64 xt] 48))
      have N1 : Hid (v0.ownBlock ≠ some wr.heap.size) := fun e => by have := (HO.out.lt _ e).2; omega
      obtain ⟨q, hq⟩ : ∃ q, q = hasB sh xa := ⟨_, rfl⟩
      have CS : Hid (∀ W, Below w.heap.size w W → Calls Tryz.prog 26 #[.slice sa sn sc, .int .i64 xa] W fun e w' => e = .returned (.bool q) ∧ W = w') := fun W hW => by
        rw [hq]
        exact (implSetHas_any sa sn sc xa sh W (RSH.out.below hW) (by omega)).mono fun e w' h => ⟨h.1, h.2.symm⟩
      have HST : Hid (aloneA sh su nB (steps.take (k + 1)) = L ++ (if q then [] else besideA su nB (xf, xa, xt))) := by
        unfold Hid
        rw [HT.out, hq]
      
        unfold aloneA
        rw [List.take_succ_eq_append_getElem hkx, ← hs, List.flatMap_append, List.flatMap_singleton]
      have hlenL : len ≤ 100000 := by
        have h1 := HO.out.length
        rw [HT.out] at h1
        have h2 := HLA.out k
      
        rw [h1] at h2
        omega
      clear e0 e1 e2 hs hcell hq
      have x1 := X1.out.cell (j := 1) (u := .int .i64 xa) rfl
      go_wp2_with fail
      refine (CS.out _ (HBX.out _ B1.out).1).mono ?_
      rintro e wq ⟨rfl, rfl⟩
      clear x1 g0 g1 g2
      cases q with
      | true =>
        have HT2 : Hid (L = aloneA sh su nB (steps.take (k + 1))) := by unfold Hid; rw [HST.out]; simp
        go_wp2_with fail
        go_roundw
        case rel => exact ⟨k + 1, len, v0, L, by omega, rfl, by go_num, O1.out, HT2.out, B1.out⟩
        case measure => simp [intOf]; omega
      | false =>
        have HST2 : Hid (aloneA sh su nB (steps.take (k + 1)) = L ++ besideA su nB (xf, xa, xt)) := by unfold Hid; rw [HST.out]; simp
        have cc0 := (HBX.out _ B1.out).2.2.cell (j := 0) (u := .int .i64 su) rfl
        clear HST
        go_wp2_with fail
        clear cc0
        go_loopw [7, 27] (fun pv jv wr2 => ∃ (j len2 : Nat) (vx : Value) (L2 : List St), j ≤ nB ∧ vx = pv ∧ jv = .int .i64 (j : Int) ∧ Hid (OwnsS 48 wr2 (w.heap.size + 2) vx len2 L2) ∧ Hid (L2 = L ++ besideA su j (xf, xa, xt)) ∧ Hid (Below (w.heap.size + 2) wz wr2) ∧ Hid (VarIs wr2 wr.heap.size #[.int .i64 xf, .int .i64 xa, .int .i64 xt] 48) ∧ Hid (vx.ownBlock ≠ some wr.heap.size)) (fun _ jv _ => nB - (intOf jv).toNat)
        case atStart => exact ⟨0, len, _, L, Nat.zero_le _, rfl, rfl, O1.out, by simp [Hid, besideA], B1.out, X1.out, N1.out⟩
        case round =>
          have hlen0 := HO.out.length
          clear O1 B1 X1 N1 HO HB BWr hszr
          obtain ⟨j, len2, vx, L2, hj, rfl, rfl, HO, HT2, HB, HX, HNE⟩ := hrel
          by_cases hltj : (j : Int) < su
          · have hjn : j < nB := by have h1 := HNB.out; omega
            have hj40 : (j : Int) ≤ 40 := by omega
            have hlen2 : len2 ≤ 200000 := by
              have h1 := HO.out.length
              rw [HT2.out, List.length_append, hlen0] at h1
              have h2 : (besideA su j (xf, xa, xt)).length = j := by simp [besideA]
              omega
            have C1 : Hid (∀ W, Calls Tryz.prog 83 #[.agg #[.int .i64 su, .int .i64 iu, .slice b2 m2 d2, .slice b3 m3 d3, .slice b4 m4 d4, .slice b5 m5 d5], .agg #[.int .i64 xf, .int .i64 (j : Int)], .int .i64 xa, .agg #[.int .i64 xt, .int .i64 (j : Int)]] W fun e w' => e = .returned (.agg #[.int .i64 (xf * su + (j : Int)), .int .i64 xa, .int .i64 (xt * su + (j : Int))]) ∧ Below W.heap.size W w') := fun W => stepOfPairs_any su iu (.slice b2 m2 d2) (.slice b3 m3 d3) (.slice b4 m4 d4) (.slice b5 m5 d5) xf (j : Int) xa xt (j : Int) W (by omega) (by omega) (by omega) (by omega) (by omega)
            have HT3 : Hid (L2 ++ [(xf * su + (j : Int), xa, xt * su + (j : Int))] = L ++ besideA su (j + 1) (xf, xa, xt)) := by
              unfold Hid
              rw [HT2.out, List.append_assoc]
              unfold besideA
              rw [List.range_succ, List.map_append]
              rfl
            have xc0 := HX.out.cell (j := 0) (u := .int .i64 xf) rfl
            have xc1 := HX.out.cell (j := 1) (u := .int .i64 xa) rfl
            have xc2 := HX.out.cell (j := 2) (u := .int .i64 xt) rfl
            have cb0 := (HBX.out _ HB.out).2.2.cell (j := 0) (u := .int .i64 su) rfl
            have cb1 := (HBX.out _ HB.out).2.2.cell (j := 1) (u := .int .i64 iu) rfl
            have cb2 := (HBX.out _ HB.out).2.2.cell (j := 2) (u := .slice b2 m2 d2) rfl
            have cb3 := (HBX.out _ HB.out).2.2.cell (j := 3) (u := .slice b3 m3 d3) rfl
            have cb4 := (HBX.out _ HB.out).2.2.cell (j := 4) (u := .slice b4 m4 d4) rfl
            have cb5 := (HBX.out _ HB.out).2.2.cell (j := 5) (u := .slice b5 m5 d5) rfl
            go_wp2_with fail
            clear xc0 xc1 xc2 cb0 cb1 cb2 cb3 cb4 cb5
            refine (C1.out _).mono ?_
            rintro e w3 ⟨rfl, hb⟩
            have hszr : w.heap.size + 2 ≤ wr.heap.size := by have h1 := HB.out.size; have h2 := HSZ.out; omega
            have B3 : Hid (Below (w.heap.size + 2) wz w3) := HB.out.trans (hb.mono hszr)
            have O3 := Lib.hid (HO.out.below hb)
            have X3 := Lib.hid (HX.out.below hb)
            have hsz3 : w.heap.size + 2 ≤ w3.heap.size := Nat.le_trans hszr hb.size
            have hxl := X3.out.lt
            clear hb HB HO HX C1
            have T1 := O3.out.alloc (.cells #[.int .i64 (xf * su + (j : Int)), .int .i64 xa, .int .i64 (xt * su + (j : Int))] 48)
            have BT : Hid (Below (w.heap.size + 2) wz (w3.alloc (.cells #[.int .i64 (xf * su + (j : Int)), .int .i64 xa, .int .i64 (xt * su + (j : Int))] 48))) := B3.out.alloc hsz3 _
            have XT := Lib.hid (X3.out.alloc (.cells #[.int .i64 (xf * su + (j : Int)), .int .i64 xa, .int .i64 (xt * su + (j : Int))] 48))
            have SP : SrcS (w3.alloc (.cells #[.int .i64 (xf * su + (j : Int)), .int .i64 xa, .int .i64 (xt * su + (j : Int))] 48)) (some ⟨w3.heap.size, 0, none⟩) 1 1 [(xf * su + (j : Int), xa, xt * su + (j : Int))] := srcS_box w3 _ _ _
            go_wp2_with (at_builtin; refine wpList_appS_new rfl (.tmp 30) (.tmp 43) _ _ rfl (w.heap.size + 2) i0 Tryz.underlying29 hi0 hz0 hz1 hz2 _ len2 _ rfl T1 _ 1 _ [(xf * su + (j : Int), xa, xt * su + (j : Int))] rfl SP (by omega) (by simp; omega) ?_)
            rintro vz w4 ⟨hown, hgrow, hfr⟩
            have hne := HNE.out
            have B4 : Hid (Below (w.heap.size + 2) wz w4) := BT.out.grown hgrow (by simp; omega) (fun q hq => (T1.lt q hq).1)
            have X4 := Lib.hid (VarIs.grown XT.out hgrow (fun e => hne e.symm))
            have N4 := Lib.hid (hfr _ (by simp; omega) hne)
            have O4 := Lib.hid hown
            clear hown hgrow hfr hne T1 SP BT XT HNE O3 B3 X3
            go_wp2_with fail
            go_roundw
            case rel => exact ⟨j + 1, len2 + 1, vz, _, by omega, rfl, by go_num, O4.out, HT3.out, B4.out, X4.out, N4.out⟩
            case measure => simp [intOf]; omega
          · obtain rfl : nB = j := by have h1 := HNB.out; omega
            have HT3 : Hid (L2 = aloneA sh su nB (steps.take (k + 1))) := by unfold Hid; rw [HST2.out]; exact HT2.out
            go_wp2_with fail
            go_roundw
            case rel => exact ⟨k + 1, len2, vx, L2, by omega, rfl, by go_num, HO.out, HT3.out, HB.out⟩
            case measure => simp [intOf]; omega
    · have HFULL : Hid (L = aloneA sh su nB steps) := by
        have h1 := HT.out
        rw [List.take_of_length_le (by rw [R5.out.1]; omega)] at h1
        exact h1
      have dd5 := (HBX.out _ HB.out).2.2.cell (j := 5) (u := .slice b5 m5 d5) rfl
      go_wp2_with fail
      clear dd5
      go_loopw [7, 50] (fun pv iv wr => ∃ (k len : Nat) (v0 : Value) (L : List St), k ≤ m5 ∧ v0 = pv ∧ iv = .int .i64 (k : Int) ∧ Hid (OwnsS 48 wr (w.heap.size + 2) v0 len L) ∧ Hid (L = (aloneA sh su nB steps ++ aloneB sh su nA (jteps.take k))) ∧ Hid (Below (w.heap.size + 2) wz wr)) (fun _ iv _ => m5 - (intOf iv).toNat)
      case atStart => exact ⟨0, len, _, L, Nat.zero_le _, rfl, rfl, HO.out, by unfold Hid; rw [HFULL.out]; simp [aloneB], HB.out⟩
      case round =>
        clear HO HFULL HB HT
        obtain ⟨k, len, v0, L, hk, rfl, rfl, HO, HT, HB⟩ := hrel
        by_cases hlt : k < m5
        · obtain ⟨b, off, rfl, hbx, hcell⟩ := Q5.out.2 (by omega)
          have hkx : k < jteps.length := by rw [Q5.out.1]; exact hlt
          obtain ⟨⟨xf, xa, xt⟩, hs⟩ : ∃ t, t = jteps[k] := ⟨_, rfl⟩
          obtain ⟨e0, e1, e2⟩ := hcell k jteps[k] (List.getElem?_eq_getElem hkx)
          have hin := EB.out jteps[k] (List.getElem_mem hkx)
          rw [← hs] at e0 e1 e2 hin
          simp only at hin
          have BWr := (HBX.out _ HB.out).1
          have g0 := (BWr.cell (p := ⟨b, off + k * 3, none⟩) hbx).trans e0
          have g1 := (BWr.cell (p := ⟨b, off + k * 3 + 1, none⟩) hbx).trans e1
          have g2 := (BWr.cell (p := ⟨b, off + k * 3 + 2, none⟩) hbx).trans e2
          simp only at g0 g1 g2
          have hszr : w.heap.size + 2 ≤ wr.heap.size := by have h1 := HB.out.size; have h2 := HSZ.out; omega
          have B1 : Hid (Below (w.heap.size + 2) wz (wr.alloc (.cells #[.int .i64 xf, .int .i64 xa, .int .i64 xt] 48))) := HB.out.alloc hszr _
          have X1 := Lib.hid (VarIs.new wr #[.int .i64 xf, .int .i64 xa, .int .i64 xt] 48 rfl)
          have O1 := Lib.hid (HO.out.alloc (.cells #[.int .i64 xf, .int .i64 xa, .int .i64 xt] 48))
          have N1 : Hid (v0.ownBlock ≠ some wr.heap.size) := fun e => by have := (HO.out.lt _ e).2; omega
          obtain ⟨q, hq⟩ : ∃ q, q = hasB sh xa := ⟨_, rfl⟩
          have CS : Hid (∀ W, Below w.heap.size w W → Calls Tryz.prog 26 #[.slice sa sn sc, .int .i64 xa] W fun e w' => e = .returned (.bool q) ∧ W = w') := fun W hW => by
            rw [hq]
            exact (implSetHas_any sa sn sc xa sh W (RSH.out.below hW) (by omega)).mono fun e w' h => ⟨h.1, h.2.symm⟩
          have HST : Hid ((aloneA sh su nB steps ++ aloneB sh su nA (jteps.take (k + 1))) = L ++ (if q then [] else besideB su nA (xf, xa, xt))) := by
            unfold Hid
            rw [HT.out, hq, List.append_assoc]
            congr 1
            unfold aloneB
            rw [List.take_succ_eq_append_getElem hkx, ← hs, List.flatMap_append, List.flatMap_singleton]
          have hlenL : len ≤ 100000 := by
            have h1 := HO.out.length
            rw [HT.out] at h1
            have h2 := HLA.out n5
            have h3 := HLB.out k
            rw [List.length_append] at h1
            rw [List.take_of_length_le (by rw [R5.out.1]; omega)] at h2; omega
          clear e0 e1 e2 hs hcell hq
          have x1 := X1.out.cell (j := 1) (u := .int .i64 xa) rfl
          go_wp2_with fail
          refine (CS.out _ (HBX.out _ B1.out).1).mono ?_
          rintro e wq ⟨rfl, rfl⟩
          clear x1 g0 g1 g2
          cases q with
          | true =>
            have HT2 : Hid (L = (aloneA sh su nB steps ++ aloneB sh su nA (jteps.take (k + 1)))) := by unfold Hid; rw [HST.out]; simp
            go_wp2_with fail
            go_roundw
            case rel => exact ⟨k + 1, len, v0, L, by omega, rfl, by go_num, O1.out, HT2.out, B1.out⟩
            case measure => simp [intOf]; omega
          | false =>
            have HST2 : Hid ((aloneA sh su nB steps ++ aloneB sh su nA (jteps.take (k + 1))) = L ++ besideB su nA (xf, xa, xt)) := by unfold Hid; rw [HST.out]; simp
            have cc0 := (HBX.out _ B1.out).2.1.cell (j := 0) (u := .int .i64 st) rfl
            clear HST
            go_wp2_with fail
            clear cc0
            go_loopw [7, 60] (fun pv jv wr2 => ∃ (j len2 : Nat) (vx : Value) (L2 : List St), j ≤ nA ∧ vx = pv ∧ jv = .int .i64 (j : Int) ∧ Hid (OwnsS 48 wr2 (w.heap.size + 2) vx len2 L2) ∧ Hid (L2 = L ++ besideB su j (xf, xa, xt)) ∧ Hid (Below (w.heap.size + 2) wz wr2) ∧ Hid (VarIs wr2 wr.heap.size #[.int .i64 xf, .int .i64 xa, .int .i64 xt] 48) ∧ Hid (vx.ownBlock ≠ some wr.heap.size)) (fun _ jv _ => nA - (intOf jv).toNat)
            case atStart => exact ⟨0, len, _, L, Nat.zero_le _, rfl, rfl, O1.out, by simp [Hid, besideB], B1.out, X1.out, N1.out⟩
            case round =>
              have hlen0 := HO.out.length
              clear O1 B1 X1 N1 HO HB BWr hszr
              obtain ⟨j, len2, vx, L2, hj, rfl, rfl, HO, HT2, HB, HX, HNE⟩ := hrel
              by_cases hltj : (j : Int) < st
              · have hjn : j < nA := by have h1 := HNA.out; omega
                have hj40 : (j : Int) ≤ 40 := by omega
                have hlen2 : len2 ≤ 200000 := by
                  have h1 := HO.out.length
                  rw [HT2.out, List.length_append, hlen0] at h1
                  have h2 : (besideB su j (xf, xa, xt)).length = j := by simp [besideB]
                  omega
                have C1 : Hid (∀ W, Calls Tryz.prog 83 #[.agg #[.int .i64 su, .int .i64 iu, .slice b2 m2 d2, .slice b3 m3 d3, .slice b4 m4 d4, .slice (some ⟨b, off, none⟩) m5 d5], .agg #[.int .i64 (j : Int), .int .i64 xf], .int .i64 xa, .agg #[.int .i64 (j : Int), .int .i64 xt]] W fun e w' => e = .returned (.agg #[.int .i64 ((j : Int) * su + xf), .int .i64 xa, .int .i64 ((j : Int) * su + xt)]) ∧ Below W.heap.size W w') := fun W => stepOfPairs_any su iu (.slice b2 m2 d2) (.slice b3 m3 d3) (.slice b4 m4 d4) (.slice (some ⟨b, off, none⟩) m5 d5) (j : Int) xf xa (j : Int) xt W (by omega) (by omega) (by omega) (by omega) (by omega)
                have HT3 : Hid (L2 ++ [((j : Int) * su + xf, xa, (j : Int) * su + xt)] = L ++ besideB su (j + 1) (xf, xa, xt)) := by
                  unfold Hid
                  rw [HT2.out, List.append_assoc]
                  unfold besideB
                  rw [List.range_succ, List.map_append]
                  rfl
                have xc0 := HX.out.cell (j := 0) (u := .int .i64 xf) rfl
                have xc1 := HX.out.cell (j := 1) (u := .int .i64 xa) rfl
                have xc2 := HX.out.cell (j := 2) (u := .int .i64 xt) rfl
                have cb0 := (HBX.out _ HB.out).2.2.cell (j := 0) (u := .int .i64 su) rfl
                have cb1 := (HBX.out _ HB.out).2.2.cell (j := 1) (u := .int .i64 iu) rfl
                have cb2 := (HBX.out _ HB.out).2.2.cell (j := 2) (u := .slice b2 m2 d2) rfl
                have cb3 := (HBX.out _ HB.out).2.2.cell (j := 3) (u := .slice b3 m3 d3) rfl
                have cb4 := (HBX.out _ HB.out).2.2.cell (j := 4) (u := .slice b4 m4 d4) rfl
                have cb5 := (HBX.out _ HB.out).2.2.cell (j := 5) (u := .slice (some ⟨b, off, none⟩) m5 d5) rfl
                go_wp2_with fail
                clear xc0 xc1 xc2 cb0 cb1 cb2 cb3 cb4 cb5
                refine (C1.out _).mono ?_
                rintro e w3 ⟨rfl, hb⟩
                have hszr : w.heap.size + 2 ≤ wr.heap.size := by have h1 := HB.out.size; have h2 := HSZ.out; omega
                have B3 : Hid (Below (w.heap.size + 2) wz w3) := HB.out.trans (hb.mono hszr)
                have O3 := Lib.hid (HO.out.below hb)
                have X3 := Lib.hid (HX.out.below hb)
                have hsz3 : w.heap.size + 2 ≤ w3.heap.size := Nat.le_trans hszr hb.size
                have hxl := X3.out.lt
                clear hb HB HO HX C1
                have T1 := O3.out.alloc (.cells #[.int .i64 ((j : Int) * su + xf), .int .i64 xa, .int .i64 ((j : Int) * su + xt)] 48)
                have BT : Hid (Below (w.heap.size + 2) wz (w3.alloc (.cells #[.int .i64 ((j : Int) * su + xf), .int .i64 xa, .int .i64 ((j : Int) * su + xt)] 48))) := B3.out.alloc hsz3 _
                have XT := Lib.hid (X3.out.alloc (.cells #[.int .i64 ((j : Int) * su + xf), .int .i64 xa, .int .i64 ((j : Int) * su + xt)] 48))
                have SP : SrcS (w3.alloc (.cells #[.int .i64 ((j : Int) * su + xf), .int .i64 xa, .int .i64 ((j : Int) * su + xt)] 48)) (some ⟨w3.heap.size, 0, none⟩) 1 1 [((j : Int) * su + xf, xa, (j : Int) * su + xt)] := srcS_box w3 _ _ _
                go_wp2_with (at_builtin; refine wpList_appS_new rfl (.tmp 63) (.tmp 76) _ _ rfl (w.heap.size + 2) i0 Tryz.underlying29 hi0 hz0 hz1 hz2 _ len2 _ rfl T1 _ 1 _ [((j : Int) * su + xf, xa, (j : Int) * su + xt)] rfl SP (by omega) (by simp; omega) ?_)
                rintro vz w4 ⟨hown, hgrow, hfr⟩
                have hne := HNE.out
                have B4 : Hid (Below (w.heap.size + 2) wz w4) := BT.out.grown hgrow (by simp; omega) (fun q hq => (T1.lt q hq).1)
                have X4 := Lib.hid (VarIs.grown XT.out hgrow (fun e => hne e.symm))
                have N4 := Lib.hid (hfr _ (by simp; omega) hne)
                have O4 := Lib.hid hown
                clear hown hgrow hfr hne T1 SP BT XT HNE O3 B3 X3
                go_wp2_with fail
                go_roundw
                case rel => exact ⟨j + 1, len2 + 1, vz, _, by omega, rfl, by go_num, O4.out, HT3.out, B4.out, X4.out, N4.out⟩
                case measure => simp [intOf]; omega
              · obtain rfl : nA = j := by have h1 := HNA.out; omega
                have HT3 : Hid (L2 = (aloneA sh su nB steps ++ aloneB sh su nA (jteps.take (k + 1)))) := by unfold Hid; rw [HST2.out]; exact HT2.out
                go_wp2_with fail
                go_roundw
                case rel => exact ⟨k + 1, len2, vx, L2, by omega, rfl, by go_num, HO.out, HT3.out, HB.out⟩
                case measure => simp [intOf]; omega
        · have HFULL : Hid (L = (aloneA sh su nB steps ++ aloneB sh su nA jteps)) := by
            have h1 := HT.out
            rw [List.take_of_length_le (by rw [Q5.out.1]; omega)] at h1
            exact h1
          have e := HO.out.length
          subst e
          obtain ⟨av, cv, rfl⟩ := HO.out.form
          have HE := HFULL.out
          go_wp2_with fail
          go_ret
          rw [← HE]
          exact ⟨_, rfl, HO.out.mono (by omega), (HBX.out _ HB.out).1⟩


theorem besideT_len (su : Int) (x : St) (tt : List St) : (besideT su x tt).length ≤ tt.length := by
  unfold besideT
  rw [List.length_map]
  exact List.length_filter_le _ _

theorem togetherL_len (sh : List Int) (su : Int) (tt : List St) : ∀ ss : List St, (togetherL sh su ss tt).length ≤ ss.length * tt.length
  | [] => by simp [togetherL]
  | x :: r => by
    have h1 := togetherL_len sh su tt r
    have h2 : togetherL sh su (x :: r) tt = (if hasB sh x.2.1 then besideT su x tt else []) ++ togetherL sh su r tt := rfl
    have h3 := besideT_len su x tt
    rw [h2, List.length_append, List.length_cons, Nat.succ_mul]
    split
    · omega
    · simp; omega

set_option maxRecDepth 20000 in
set_option maxHeartbeats 6400000 in
theorem stepsTogether_any (a b : IaD) (v u : Value) (w : World) (h : IaRow w a v) (k : IaRow w b u) (fa : Small a) (fb : Small b) (oka : iaOkB a = true) (okb : iaOkB b = true) (sa : Option Addr) (sn sc : Nat) (sh : List Int) (hs : Row w sa sn sh) (hsn : sn ≤ 1048576) :
    Calls Tryz.prog 53 #[v, u, .slice sa sn sc] w fun e w' => ∃ v', e = .returned v' ∧ OwnsS 48 w' w.heap.size v' (togetherL sh b.states a.steps b.steps).length (togetherL sh b.states a.steps b.steps) ∧ Below w.heap.size w w' := by
  have sA := iaOk_states oka
  have sB := iaOk_states okb
  have eA := iaOk_ends oka
  have eB := iaOk_ends okb
  have lA := iaOk_len oka
  have lB := iaOk_len okb
  clear oka okb
  obtain ⟨a2, n2, c2, a3, n3, c3, a4, n4, c4, a5, n5, c5, rfl, r2, r3, r4, r5⟩ := h
  obtain ⟨b2, m2, d2, b3, m3, d3, b4, m4, d4, b5, m5, d5, rfl, q2, q3, q4, q5⟩ := k
  obtain ⟨st, it, ins, outs, hids, steps⟩ := a
  obtain ⟨su, iu, jns, juts, jids, jteps⟩ := b
  obtain ⟨f2, f3, f4, f5⟩ := fa
  obtain ⟨g2, g3, g4, g5⟩ := fb
  simp only at r2 r3 r4 r5 q2 q3 q4 q5 f2 f3 f4 f5 g2 g3 g4 g5
  have HA : Hid (∀ W, Below w.heap.size w W → IaRow W ⟨st, it, ins, outs, hids, steps⟩ (.agg #[.int .i64 st, .int .i64 it, .slice a2 n2 c2, .slice a3 n3 c3, .slice a4 n4 c4, .slice a5 n5 c5])) := fun W hW => IaRow.below ⟨a2, n2, c2, a3, n3, c3, a4, n4, c4, a5, n5, c5, rfl, r2, r3, r4, r5⟩ hW
  have HB : Hid (∀ W, Below w.heap.size w W → IaRow W ⟨su, iu, jns, juts, jids, jteps⟩ (.agg #[.int .i64 su, .int .i64 iu, .slice b2 m2 d2, .slice b3 m3 d3, .slice b4 m4 d4, .slice b5 m5 d5])) := fun W hW => IaRow.below ⟨b2, m2, d2, b3, m3, d3, b4, m4, d4, b5, m5, d5, rfl, q2, q3, q4, q5⟩ hW
  have S0 := Lib.hid (Box2.start w (iaC st it a2 n2 c2 a3 n3 c3 a4 n4 c4 a5 n5 c5) (iaC su iu b2 m2 d2 b3 m3 d3 b4 m4 d4 b5 m5 d5) 31)
  have e2 := r2.1
  have e3 := r3.1
  have e4 := r4.1
  have k2 := q2.1
  have k3 := q3.1
  have k4 := q4.1
  rw [e2] at f2
  rw [e3] at f3
  rw [e4] at f4
  rw [k2] at g2
  rw [k3] at g3
  rw [k4] at g4
  have R2 := Lib.hid r2
  have R3 := Lib.hid r3
  have R4 := Lib.hid r4
  have R5 := Lib.hid r5
  have Q2 := Lib.hid q2
  have Q3 := Lib.hid q3
  have Q4 := Lib.hid q4
  have Q5 := Lib.hid q5
  clear r2 r3 r4 r5 q2 q3 q4 q5
  clear HA HB R2 R3 R4 Q2 Q3 Q4
  simp only at sA sB eA eB lA lB ⊢
  have EA := Lib.hid eA
  have EB := Lib.hid eB
  have RSH := Lib.hid hs
  clear eA eB hs
  have hm400 : m5 ≤ 400 := by have h1 := Q5.out.1; omega
  have HLT : Hid (∀ k, (togetherL sh su (steps.take k) jteps).length ≤ 160000) := fun k => by
    have h1 := togetherL_len sh su jteps (steps.take k)
    have h2 : (steps.take k).length * jteps.length ≤ 400 * 400 := Nat.mul_le_mul (by rw [List.length_take]; omega) lB
    omega
  obtain ⟨wz, hwz⟩ : ∃ x, x = ((w.alloc (.cells #[.int .i64 st, .int .i64 it, .slice a2 n2 c2, .slice a3 n3 c3, .slice a4 n4 c4, .slice a5 n5 c5] 31)).alloc (.cells #[.int .i64 su, .int .i64 iu, .slice b2 m2 d2, .slice b3 m3 d3, .slice b4 m4 d4, .slice b5 m5 d5] 31)) := ⟨_, rfl⟩
  have HSZ : Hid (wz.heap.size = w.heap.size + 2) := by unfold Hid; rw [hwz]; simp
  have RB0 : Hid (Below (w.heap.size + 2) wz ((w.alloc (.cells #[.int .i64 st, .int .i64 it, .slice a2 n2 c2, .slice a3 n3 c3, .slice a4 n4 c4, .slice a5 n5 c5] 31)).alloc (.cells #[.int .i64 su, .int .i64 iu, .slice b2 m2 d2, .slice b3 m3 d3, .slice b4 m4 d4, .slice b5 m5 d5] 31))) := by unfold Hid; rw [hwz, ← HSZ.out, hwz]; exact Below.refl _ _
  have HBX : Hid (∀ W, Below (w.heap.size + 2) wz W → Box2 w W w.heap.size (w.heap.size + 1) 31 (iaC st it a2 n2 c2 a3 n3 c3 a4 n4 c4 a5 n5 c5) (iaC su iu b2 m2 d2 b3 m3 d3 b4 m4 d4 b5 m5 d5)) := fun W hW => by
    rw [← HSZ.out] at hW
    have h0 : Box2 w wz w.heap.size (w.heap.size + 1) 31 (iaC st it a2 n2 c2 a3 n3 c3 a4 n4 c4 a5 n5 c5) (iaC su iu b2 m2 d2 b3 m3 d3 b4 m4 d4 b5 m5 d5) := by rw [hwz]; exact S0.out
    exact h0.below hW
  clear hwz
  obtain ⟨i0, hi0, hz0, hz1, hz2⟩ := info_parts (show (Tryz.prog.info? 48).map (fun i => (i.zero, i.size, i.bytes)) = some (some (.agg #[.int .i64 0, .int .i64 0, .int .i64 0]), 3, 24) by kernel_rfl)
  have ca5 := S0.out.2.1.cell (j := 5) (u := .slice a5 n5 c5) rfl
  go_enter Tryz.func53, Tryz.ntmps53
  go_wp2_with fail
  clear ca5
  go_loopw [7, 15] (fun pv iv wr => ∃ (k len : Nat) (v0 : Value) (L : List St), k ≤ n5 ∧ v0 = pv ∧ iv = .int .i64 (k : Int) ∧ Hid (OwnsS 48 wr (w.heap.size + 2) v0 len L) ∧ Hid (L = togetherL sh su (steps.take k) jteps) ∧ Hid (Below (w.heap.size + 2) wz wr)) (fun _ iv _ => n5 - (intOf iv).toNat)
  case atStart => exact ⟨0, 0, _, [], Nat.zero_le _, rfl, rfl, World.ownsRow_nil _ _ _ _, rfl, RB0.out⟩
  case round =>
    clear RB0
    obtain ⟨k, len, v0, L, hk, rfl, rfl, HO, HT, HB⟩ := hrel
    by_cases hlt : k < n5
    · obtain ⟨b, off, rfl, hbx, hcell⟩ := R5.out.2 (by omega)
      have hkx : k < steps.length := by rw [R5.out.1]; exact hlt
      obtain ⟨⟨xf, xa, xt⟩, hs⟩ : ∃ t, t = steps[k] := ⟨_, rfl⟩
      obtain ⟨e0, e1, e2⟩ := hcell k steps[k] (List.getElem?_eq_getElem hkx)
      have hin := EA.out steps[k] (List.getElem_mem hkx)
      rw [← hs] at e0 e1 e2 hin
      simp only at hin
      have BWr := (HBX.out _ HB.out).1
      have g0 := (BWr.cell (p := ⟨b, off + k * 3, none⟩) hbx).trans e0
      have g1 := (BWr.cell (p := ⟨b, off + k * 3 + 1, none⟩) hbx).trans e1
      have g2 := (BWr.cell (p := ⟨b, off + k * 3 + 2, none⟩) hbx).trans e2
      simp only at g0 g1 g2
      have hszr : w.heap.size + 2 ≤ wr.heap.size := by have h1 := HB.out.size; have h2 := HSZ.out; omega
      have B1 : Hid (Below (w.heap.size + 2) wz (wr.alloc (.cells #[.int .i64 xf, .int .i64 xa, .int .i64 xt] 48))) := HB.out.alloc hszr _
      have X1 := Lib.hid (VarIs.new wr #[.int .i64 xf, .int .i64 xa, .int .i64 xt] 48 rfl)
      have O1 := Lib.hid (HO.out.alloc (.cells #[.int .i64 xf, .int .i64 xa, .int .i64 xt] 48))
      have N1 : Hid (v0.ownBlock ≠ some wr.heap.size) := fun e => by have := (HO.out.lt _ e).2; omega
      obtain ⟨q, hq⟩ : ∃ q, q = hasB sh xa := ⟨_, rfl⟩
      have CS : Hid (∀ W, Below w.heap.size w W → Calls Tryz.prog 26 #[.slice sa sn sc, .int .i64 xa] W fun e w' => e = .returned (.bool q) ∧ W = w') := fun W hW => by
        rw [hq]
        exact (implSetHas_any sa sn sc xa sh W (RSH.out.below hW) (by omega)).mono fun e w' h => ⟨h.1, h.2.symm⟩
      have HST : Hid (togetherL sh su (steps.take (k + 1)) jteps = L ++ (if q then besideT su (xf, xa, xt) jteps else [])) := by
        unfold Hid
        rw [HT.out, hq]
        unfold togetherL
        rw [List.take_succ_eq_append_getElem hkx, ← hs, List.flatMap_append, List.flatMap_singleton]
      have hlenL : len ≤ 160000 := by
        have h1 := HO.out.length
        rw [HT.out] at h1
        have h2 := HLT.out k
        omega
      clear e0 e1 e2 hs hcell hq
      have x1 := X1.out.cell (j := 1) (u := .int .i64 xa) rfl
      go_wp2_with fail
      refine (CS.out _ (HBX.out _ B1.out).1).mono ?_
      rintro e wq ⟨rfl, rfl⟩
      clear x1 g0 g1 g2
      cases q with
      | false =>
        have HT2 : Hid (L = togetherL sh su (steps.take (k + 1)) jteps) := by unfold Hid; rw [HST.out]; simp
        go_wp2_with fail
        go_roundw
        case rel => exact ⟨k + 1, len, v0, L, by omega, rfl, by go_num, O1.out, HT2.out, B1.out⟩
        case measure => simp [intOf]; omega
      | true =>
        have HST2 : Hid (togetherL sh su (steps.take (k + 1)) jteps = L ++ besideT su (xf, xa, xt) jteps) := by unfold Hid; rw [HST.out]; simp
        have cc5 := (HBX.out _ B1.out).2.2.cell (j := 5) (u := .slice b5 m5 d5) rfl
        clear HST
        go_wp2_with fail
        clear cc5
        go_loopw [7, 27] (fun pv jv wr2 => ∃ (j len2 : Nat) (vx : Value) (L2 : List St), j ≤ m5 ∧ vx = pv ∧ jv = .int .i64 (j : Int) ∧ Hid (OwnsS 48 wr2 (w.heap.size + 2) vx len2 L2) ∧ Hid (L2 = L ++ besideT su (xf, xa, xt) (jteps.take j)) ∧ Hid (Below (w.heap.size + 2) wz wr2) ∧ Hid (VarIs wr2 wr.heap.size #[.int .i64 xf, .int .i64 xa, .int .i64 xt] 48) ∧ Hid (vx.ownBlock ≠ some wr.heap.size)) (fun _ jv _ => m5 - (intOf jv).toNat)
        case atStart => exact ⟨0, len, _, L, Nat.zero_le _, rfl, rfl, O1.out, by simp [Hid, besideT], B1.out, X1.out, N1.out⟩
        case round =>
          have hlen0 := HO.out.length
          clear O1 B1 X1 N1 HO HB BWr hszr hbx
          obtain ⟨j, len2, vx, L2, hj, rfl, rfl, HO, HT2, HB, HX, HNE⟩ := hrel
          by_cases hltj : j < m5
          · obtain ⟨bb, offb, rfl, hby, hcell⟩ := Q5.out.2 (by omega)
            have hjx : j < jteps.length := by rw [Q5.out.1]; exact hltj
            obtain ⟨⟨yf, ya, yt⟩, hs⟩ : ∃ t, t = jteps[j] := ⟨_, rfl⟩
            obtain ⟨e0, e1, e2⟩ := hcell j jteps[j] (List.getElem?_eq_getElem hjx)
            have hiny := EB.out jteps[j] (List.getElem_mem hjx)
            rw [← hs] at e0 e1 e2 hiny
            simp only at hiny
            have BWr := (HBX.out _ HB.out).1
            have g0 := (BWr.cell (p := ⟨bb, offb + j * 3, none⟩) hby).trans e0
            have g1 := (BWr.cell (p := ⟨bb, offb + j * 3 + 1, none⟩) hby).trans e1
            have g2 := (BWr.cell (p := ⟨bb, offb + j * 3 + 2, none⟩) hby).trans e2
            simp only at g0 g1 g2
            have hszr : w.heap.size + 2 ≤ wr.heap.size := by have h1 := HB.out.size; have h2 := HSZ.out; omega
            have hlen2 : len2 ≤ 400000 := by
              have h1 := HO.out.length
              rw [HT2.out, List.length_append, hlen0] at h1
              have h2 := besideT_len su (xf, xa, xt) (jteps.take j)
              rw [List.length_take] at h2
              omega
            have hstep : Hid (besideT su (xf, xa, xt) (jteps.take (j + 1)) = besideT su (xf, xa, xt) (jteps.take j) ++ (if ya = xa then [(xf * su + yf, xa, xt * su + yt)] else [])) := by
              unfold Hid besideT
              rw [List.take_succ_eq_append_getElem hjx, ← hs, List.filter_append, List.map_append]
              by_cases e : ya = xa <;> simp [e]
            have B2 : Hid (Below (w.heap.size + 2) wz (wr.alloc (.cells #[.int .i64 yf, .int .i64 ya, .int .i64 yt] 48))) := HB.out.alloc hszr _
            have X2 := Lib.hid (HX.out.alloc (.cells #[.int .i64 yf, .int .i64 ya, .int .i64 yt] 48))
            have O2 := Lib.hid (HO.out.alloc (.cells #[.int .i64 yf, .int .i64 ya, .int .i64 yt] 48))
            have Y2 := VarIs.new wr #[.int .i64 yf, .int .i64 ya, .int .i64 yt] 48 rfl
            have yc0 := Y2.cell (j := 0) (u := .int .i64 yf) rfl
            have yc1 := Y2.cell (j := 1) (u := .int .i64 ya) rfl
            have yc2 := Y2.cell (j := 2) (u := .int .i64 yt) rfl
            have xc0 := X2.out.cell (j := 0) (u := .int .i64 xf) rfl
            have xc1 := X2.out.cell (j := 1) (u := .int .i64 xa) rfl
            have xc2 := X2.out.cell (j := 2) (u := .int .i64 xt) rfl
            clear e0 e1 e2 hs hcell Y2 BWr
            by_cases hya : ya = xa
            · have hyb : (ya == xa) = true := by simp [hya]
              have HT3 : Hid (L2 ++ [(xf * su + yf, xa, xt * su + yt)] = L ++ besideT su (xf, xa, xt) (jteps.take (j + 1))) := by
                unfold Hid
                rw [hstep.out, if_pos hya, HT2.out, List.append_assoc]
              have C1 : Hid (∀ W, Calls Tryz.prog 83 #[.agg #[.int .i64 su, .int .i64 iu, .slice b2 m2 d2, .slice b3 m3 d3, .slice b4 m4 d4, .slice (some ⟨bb, offb, none⟩) m5 d5], .agg #[.int .i64 xf, .int .i64 yf], .int .i64 xa, .agg #[.int .i64 xt, .int .i64 yt]] W fun e w' => e = .returned (.agg #[.int .i64 (xf * su + yf), .int .i64 xa, .int .i64 (xt * su + yt)]) ∧ Below W.heap.size W w') := fun W => stepOfPairs_any su iu (.slice b2 m2 d2) (.slice b3 m3 d3) (.slice b4 m4 d4) (.slice (some ⟨bb, offb, none⟩) m5 d5) xf yf xa xt yt W (by omega) (by omega) (by omega) (by omega) (by omega)
              clear hya
              have cb0 := (HBX.out _ B2.out).2.2.cell (j := 0) (u := .int .i64 su) rfl
              have cb1 := (HBX.out _ B2.out).2.2.cell (j := 1) (u := .int .i64 iu) rfl
              have cb2 := (HBX.out _ B2.out).2.2.cell (j := 2) (u := .slice b2 m2 d2) rfl
              have cb3 := (HBX.out _ B2.out).2.2.cell (j := 3) (u := .slice b3 m3 d3) rfl
              have cb4 := (HBX.out _ B2.out).2.2.cell (j := 4) (u := .slice b4 m4 d4) rfl
              have cb5 := (HBX.out _ B2.out).2.2.cell (j := 5) (u := .slice (some ⟨bb, offb, none⟩) m5 d5) rfl
              go_wp2_with fail
              clear xc0 xc1 xc2 yc0 yc1 yc2 cb0 cb1 cb2 cb3 cb4 cb5 g0 g1 g2
              refine (C1.out _).mono ?_
              rintro e w3 ⟨rfl, hb⟩
              have B3 : Hid (Below (w.heap.size + 2) wz w3) := B2.out.trans (hb.mono (by simp; omega))
              have O3 := Lib.hid (O2.out.below hb)
              have X3 := Lib.hid (X2.out.below hb)
              have hsz3 : w.heap.size + 2 ≤ w3.heap.size := by have h1 := hb.size; simp at h1; omega
              have hxl := X3.out.lt
              clear hb B2 O2 X2 HB HO HX C1 hszr
              have T1 := O3.out.alloc (.cells #[.int .i64 (xf * su + yf), .int .i64 xa, .int .i64 (xt * su + yt)] 48)
              have BT : Hid (Below (w.heap.size + 2) wz (w3.alloc (.cells #[.int .i64 (xf * su + yf), .int .i64 xa, .int .i64 (xt * su + yt)] 48))) := B3.out.alloc hsz3 _
              have XT := Lib.hid (X3.out.alloc (.cells #[.int .i64 (xf * su + yf), .int .i64 xa, .int .i64 (xt * su + yt)] 48))
              have SP : SrcS (w3.alloc (.cells #[.int .i64 (xf * su + yf), .int .i64 xa, .int .i64 (xt * su + yt)] 48)) (some ⟨w3.heap.size, 0, none⟩) 1 1 [(xf * su + yf, xa, xt * su + yt)] := srcS_box w3 _ _ _
              go_wp2_with (at_builtin; refine wpList_appS_new rfl (.tmp 36) (.tmp 51) _ _ rfl (w.heap.size + 2) i0 Tryz.underlying29 hi0 hz0 hz1 hz2 _ len2 _ rfl T1 _ 1 _ [(xf * su + yf, xa, xt * su + yt)] rfl SP (by omega) (by simp; omega) ?_)
              rintro vz w4 ⟨hown, hgrow, hfr⟩
              have hne := HNE.out
              have B4 : Hid (Below (w.heap.size + 2) wz w4) := BT.out.grown hgrow (by simp; omega) (fun q hq => (T1.lt q hq).1)
              have X4 := Lib.hid (VarIs.grown XT.out hgrow (fun e => hne e.symm))
              have N4 := Lib.hid (hfr _ (by simp; omega) hne)
              have O4 := Lib.hid hown
              clear hown hgrow hfr hne T1 SP BT XT HNE O3 B3 X3
              go_wp2_with fail
              go_roundw
              case rel => exact ⟨j + 1, len2 + 1, vz, _, by omega, rfl, by go_num, O4.out, HT3.out, B4.out, X4.out, N4.out⟩
              case measure => simp [intOf]; omega
            · have hyb : (ya == xa) = false := by simp [hya]
              have HT3 : Hid (L2 = L ++ besideT su (xf, xa, xt) (jteps.take (j + 1))) := by
                unfold Hid
                rw [hstep.out, if_neg hya, HT2.out, List.append_nil]
              clear hya
              go_wp2_with fail
              go_roundw
              case rel => exact ⟨j + 1, len2, vx, L2, by omega, rfl, by go_num, O2.out, HT3.out, B2.out, X2.out, HNE.out⟩
              case measure => simp [intOf]; omega
          · have HT3 : Hid (L2 = togetherL sh su (steps.take (k + 1)) jteps) := by
              have h1 := HT2.out
              rw [List.take_of_length_le (by rw [Q5.out.1]; omega)] at h1
              unfold Hid
              rw [HST2.out]
              exact h1
            go_wp2_with fail
            go_roundw
            case rel => exact ⟨k + 1, len2, vx, L2, by omega, rfl, by go_num, HO.out, HT3.out, HB.out⟩
            case measure => simp [intOf]; omega
    · have HFULL : Hid (L = togetherL sh su steps jteps) := by
        have h1 := HT.out
        rw [List.take_of_length_le (by rw [R5.out.1]; omega)] at h1
        exact h1
      have e := HO.out.length
      subst e
      obtain ⟨av, cv, rfl⟩ := HO.out.form
      have HE := HFULL.out
      go_wp2_with fail
      go_ret
      rw [← HE]
      exact ⟨_, rfl, HO.out.mono (by omega), (HBX.out _ HB.out).1⟩

end Go.Proofs.YtdbgjgeglgipiaaGreat
