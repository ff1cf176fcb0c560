/-
  Contracts of the program's stateOf, pairsInOrder, inOrder: the states of the pairs that a map tells. Conditions: both have 0 to 40 states.
-/
import Derived.Test.YtdbgjgeglgipiaaGreatClashMath
import Derived.Test.YtdbgjgeglgipiaaGreatPairMap
import Derived.Test.YtdbgjgeglgipiaaGreatShared
namespace Go.Proofs.YtdbgjgeglgipiaaGreat
open Go.RowKit

theorem wf_low {x : Int} (h0 : 0 ≤ x) (h1 : x ≤ 1600) : (Lit.int .i64 x).wf = true := WalkArith.wf_i64 (by omega)

theorem mul_low40 {p st : Int} (hp : 0 ≤ p ∧ p ≤ 40) (h0 : 0 ≤ st ∧ st ≤ 40) : 0 ≤ p * st ∧ p * st ≤ 1600 := by
  have h1 : p * st ≤ 40 * 40 := Int.mul_le_mul (by omega) (by omega) (by omega) (by omega)
  have h2 : 0 ≤ p * st := Int.mul_nonneg (by omega) (by omega)
  omega

set_option maxRecDepth 20000 in
set_option maxHeartbeats 3200000 in
theorem stateOf_any (su iu : Int) (u2 u3 u4 u5 : Value) (p q : Int) (w : World) (h0 : 0 ≤ su ∧ su ≤ 40) (hp : 0 ≤ p ∧ p ≤ 40) (hq : 0 ≤ q ∧ q ≤ 40) :
    Calls Tryz.prog 56 #[.agg #[.int .i64 su, .int .i64 iu, u2, u3, u4, u5], .agg #[.int .i64 p, .int .i64 q]] w fun e w' => e = .returned (.int .i64 (stOf su (p, q))) ∧ Below w.heap.size w w' := by
  have B0 : Hid (∀ o p, Below w.heap.size w ((w.alloc o).alloc p)) := fun o p => ((Below.refl _ _).alloc (Nat.le_refl _) _).alloc (by simp) _
  have hm := mul_low40 hp h0
  go_enter Tryz.func56, Tryz.ntmps56
  go_wp2_with fail
  go_ret
  exact ⟨rfl, B0.out _ _⟩

set_option maxRecDepth 20000 in
set_option maxHeartbeats 6400000 in
theorem pairsInOrder_any (st it : Int) (v2 v3 v4 v5 : Value) (su iu : Int) (u2 u3 u4 u5 : Value) (M n : Nat) (S : Int → Int → Bool) (w : World) (hM : MapB w M n S) (h0 : 0 ≤ st ∧ st ≤ 40) (h1 : 0 ≤ su ∧ su ≤ 40) :
    Calls Tryz.prog 90 #[.agg #[.int .i64 st, .int .i64 it, v2, v3, v4, v5], .agg #[.int .i64 su, .int .i64 iu, u2, u3, u4, u5], .map (some M)] w fun e w' => ∃ v', e = .returned v' ∧ OwnsP w' w.heap.size v' (allP S su.toNat st.toNat).length (allP S su.toNat st.toNat) ∧ Below w.heap.size w w' := by
  have HM := Lib.hid hM
  clear hM
  obtain ⟨nA, hnA⟩ : ∃ n, n = st.toNat := ⟨_, rfl⟩
  obtain ⟨nB, hnB⟩ : ∃ n, n = su.toNat := ⟨_, rfl⟩
  rw [← hnA, ← hnB]
  have hA40 : nA ≤ 40 := by omega
  have hB40 : nB ≤ 40 := by omega
  have HNA := Lib.hid hnA
  have HNB := Lib.hid hnB
  clear hnA hnB
  have S0 := Lib.hid (Box2.start w #[.int .i64 st, .int .i64 it, v2, v3, v4, v5] #[.int .i64 su, .int .i64 iu, u2, u3, u4, u5] 31)
  have hsz0 : ((w.alloc (.cells #[.int .i64 st, .int .i64 it, v2, v3, v4, v5] 31)).alloc (.cells #[.int .i64 su, .int .i64 iu, u2, u3, u4, u5] 31)).heap.size = w.heap.size + 2 := by simp
  have HSZ := Lib.hid hsz0
  have RB0 : Hid (Below (w.heap.size + 2) ((w.alloc (.cells #[.int .i64 st, .int .i64 it, v2, v3, v4, v5] 31)).alloc (.cells #[.int .i64 su, .int .i64 iu, u2, u3, u4, u5] 31)) ((w.alloc (.cells #[.int .i64 st, .int .i64 it, v2, v3, v4, v5] 31)).alloc (.cells #[.int .i64 su, .int .i64 iu, u2, u3, u4, u5] 31))) := by unfold Hid; rw [← HSZ.out]; exact Below.refl _ _
  have HBX : Hid (∀ W, Below (w.heap.size + 2) ((w.alloc (.cells #[.int .i64 st, .int .i64 it, v2, v3, v4, v5] 31)).alloc (.cells #[.int .i64 su, .int .i64 iu, u2, u3, u4, u5] 31)) W → Below w.heap.size w W ∧ VarIs W w.heap.size #[.int .i64 st, .int .i64 it, v2, v3, v4, v5] 31 ∧ VarIs W (w.heap.size + 1) #[.int .i64 su, .int .i64 iu, u2, u3, u4, u5] 31) := fun W hW => by
    rw [← HSZ.out] at hW
    exact S0.out.below hW
  clear hsz0
  have ca0 := S0.out.2.1.cell (j := 0) (u := .int .i64 st) rfl
  go_enter Tryz.func90, Tryz.ntmps90
  go_wp2_with fail
  clear ca0
  go_loopw [7, 13] (fun pv iv wr => ∃ (k len : Nat) (v0 : Value), k ≤ nA ∧ v0 = pv ∧ iv = .int .i64 (k : Int) ∧ Hid (OwnsP wr (w.heap.size + 2) v0 len (allP S nB k)) ∧ Hid (Below (w.heap.size + 2) ((w.alloc (.cells #[.int .i64 st, .int .i64 it, v2, v3, v4, v5] 31)).alloc (.cells #[.int .i64 su, .int .i64 iu, u2, u3, u4, u5] 31)) wr)) (fun _ iv _ => nA - (intOf iv).toNat)
  case atStart => exact ⟨0, 0, _, Nat.zero_le _, rfl, rfl, World.ownsRow_nil _ _ _ _, RB0.out⟩
  case round =>
    clear RB0
    obtain ⟨k, len, v0, hk, rfl, rfl, HO, HB⟩ := hrel
    by_cases hlt : (k : Int) < st
    · have hkn : k < nA := by have h1 := HNA.out; omega
      have cb0 := (HBX.out _ HB.out).2.2.cell (j := 0) (u := .int .i64 su) rfl
      go_wp2_with fail
      clear cb0
      go_loopw [7, 18] (fun pv jv wr => ∃ (j len : Nat) (v0 : Value), j ≤ nB ∧ v0 = pv ∧ jv = .int .i64 (j : Int) ∧ Hid (OwnsP wr (w.heap.size + 2) v0 len (allP S nB k ++ rowP S k j)) ∧ Hid (Below (w.heap.size + 2) ((w.alloc (.cells #[.int .i64 st, .int .i64 it, v2, v3, v4, v5] 31)).alloc (.cells #[.int .i64 su, .int .i64 iu, u2, u3, u4, u5] 31)) wr)) (fun _ jv _ => nB - (intOf jv).toNat)
      case atStart => exact ⟨0, len, _, Nat.zero_le _, rfl, rfl, by unfold Hid; simp only [rowP, List.append_nil]; exact HO.out, HB.out⟩
      case round =>
        clear HO HB
        obtain ⟨j, len, v0, hj, rfl, rfl, HO, HB⟩ := hrel
        by_cases hltj : (j : Int) < su
        · have hjn : j < nB := by have h1 := HNB.out; omega
          have hk40 : (k : Int) ≤ 1600 := by omega
          have hj40 : (j : Int) ≤ 1600 := by omega
          have wfk := wf_low (x := (k : Int)) (by omega) hk40
          have wfj := wf_low (x := (j : Int)) (by omega) hj40
          have hsw : w.heap.size + 2 ≤ wr.heap.size := by have h1 := HB.out.size; have h2 := HSZ.out; omega
          have B1 : Hid (Below (w.heap.size + 2) ((w.alloc (.cells #[.int .i64 st, .int .i64 it, v2, v3, v4, v5] 31)).alloc (.cells #[.int .i64 su, .int .i64 iu, u2, u3, u4, u5] 31)) (wr.alloc (.cells #[.int .i64 (k : Int), .int .i64 (j : Int)] 59))) := HB.out.alloc hsw _
          have hlk := ((HM.out.below (HBX.out _ HB.out).1).alloc (.cells #[.int .i64 (k : Int), .int .i64 (j : Int)] 59)).look (p := (k : Int)) (q := (j : Int)) wfk wfj
          have X1 := VarIs.new wr #[.int .i64 (k : Int), .int .i64 (j : Int)] 59 rfl
          have x0 := X1.cell (j := 0) (u := .int .i64 (k : Int)) rfl
          have x1 := X1.cell (j := 1) (u := .int .i64 (j : Int)) rfl
          clear X1 wfk wfj
          obtain ⟨q, hq⟩ : ∃ q, q = S (k : Int) (j : Int) := ⟨_, rfl⟩
          rw [← hq] at hlk
          have HQ := Lib.hid hq
          clear hq
          cases q with
          | true =>
            have HR : Hid (allP S nB k ++ rowP S k (j + 1) = (allP S nB k ++ rowP S k j) ++ [((k : Int), (j : Int))]) := by
              unfold Hid
              show _ ++ (rowP S k j ++ _) = _
              rw [← HQ.out, List.append_assoc]
              rfl
            have hlen : len ≤ 1000000 := by
              have h1 := HO.out.length
              have h2 := allP_len S nB k
              have h3 := rowP_len S k j
              have h4 : k * nB ≤ 40 * 40 := Nat.mul_le_mul (by omega) (by omega)
              rw [List.length_append] at h1
              omega
            have T1 := (HO.out.alloc (.cells #[.int .i64 (k : Int), .int .i64 (j : Int)] 59)).alloc (.cells #[.int .i64 (k : Int), .int .i64 (j : Int)] 59)
            have BT : Hid (Below (w.heap.size + 2) ((w.alloc (.cells #[.int .i64 st, .int .i64 it, v2, v3, v4, v5] 31)).alloc (.cells #[.int .i64 su, .int .i64 iu, u2, u3, u4, u5] 31)) ((wr.alloc (.cells #[.int .i64 (k : Int), .int .i64 (j : Int)] 59)).alloc (.cells #[.int .i64 (k : Int), .int .i64 (j : Int)] 59))) := B1.out.alloc (by simp; omega) _
            have SP : SrcP ((wr.alloc (.cells #[.int .i64 (k : Int), .int .i64 (j : Int)] 59)).alloc (.cells #[.int .i64 (k : Int), .int .i64 (j : Int)] 59)) ⟨wr.heap.size + 1, 0, none⟩ ((k : Int), (j : Int)) := by simpa using srcP_new (w := wr.alloc (.cells #[.int .i64 (k : Int), .int .i64 (j : Int)] 59)) (t := 59) (p := (k : Int)) (q := (j : Int))
            go_wp2_with (at_builtin; refine wpList_appP rfl (.tmp 27) (.tmp 29) rfl (w.heap.size + 2) _ len _ rfl T1 _ 1 ((k : Int), (j : Int)) rfl SP (by omega) (by simp; omega) ?_)
            intro vz w2 hown hgrow
            have B2 : Hid (Below (w.heap.size + 2) ((w.alloc (.cells #[.int .i64 st, .int .i64 it, v2, v3, v4, v5] 31)).alloc (.cells #[.int .i64 su, .int .i64 iu, u2, u3, u4, u5] 31)) w2) := BT.out.grown hgrow (by simp; omega) (fun q hq => (T1.lt q hq).1)
            have O2 : Hid (OwnsP w2 (w.heap.size + 2) vz (len + 1) (allP S nB k ++ rowP S k (j + 1))) := by unfold Hid; rw [HR.out, List.append_assoc]; exact hown
            clear hown hgrow T1 SP BT B1 hlk x0 x1
            go_wp2_with fail
            go_roundw
            case rel => exact ⟨j + 1, len + 1, vz, by omega, rfl, by go_num, O2.out, B2.out⟩
            case measure => simp [intOf]; omega
          | false =>
            have HR : Hid (allP S nB k ++ rowP S k (j + 1) = (allP S nB k ++ rowP S k j)) := by
              unfold Hid
              show _ ++ (rowP S k j ++ _) = _
              rw [← HQ.out]
              simp
            have O2 : Hid (OwnsP (wr.alloc (.cells #[.int .i64 (k : Int), .int .i64 (j : Int)] 59)) (w.heap.size + 2) v0 len (allP S nB k ++ rowP S k (j + 1))) := by rw [HR.out]; exact HO.out.alloc _
            go_wp2_with fail
            go_roundw
            case rel => exact ⟨j + 1, len, v0, by omega, rfl, by go_num, O2.out, B1.out⟩
            case measure => simp [intOf]; omega
        · obtain rfl : j = nB := by have h1 := HNB.out; omega
          go_wp2_with fail
          go_roundw
          case rel => exact ⟨k + 1, len, v0, by omega, rfl, by go_num, HO.out, HB.out⟩
          case measure => simp [intOf]; omega
    · obtain rfl : k = nA := by have h1 := HNA.out; omega
      have e := HO.out.length
      subst e
      obtain ⟨av, cv, rfl⟩ := HO.out.form
      go_wp2_with fail
      go_ret
      exact ⟨_, rfl, HO.out.mono (by omega), (HBX.out _ HB.out).1⟩

set_option maxRecDepth 20000 in
set_option maxHeartbeats 6400000 in
theorem inOrder_any (st it : Int) (v2 v3 v4 v5 : Value) (su iu : Int) (u2 u3 u4 u5 : Value) (M n : Nat) (S : Int → Int → Bool) (w : World) (hM : MapB w M n S) (h0 : 0 ≤ st ∧ st ≤ 40) (h1 : 0 ≤ su ∧ su ≤ 40) :
    Calls Tryz.prog 61 #[.agg #[.int .i64 st, .int .i64 it, v2, v3, v4, v5], .agg #[.int .i64 su, .int .i64 iu, u2, u3, u4, u5], .map (some M)] w (RowRes w w.heap.size ((allP S su.toNat st.toNat).map (stOf su))) := by
  have CP : Hid (∀ W, Below w.heap.size w W → Calls Tryz.prog 90 #[.agg #[.int .i64 st, .int .i64 it, v2, v3, v4, v5], .agg #[.int .i64 su, .int .i64 iu, u2, u3, u4, u5], .map (some M)] W fun e w' => ∃ v', e = .returned v' ∧ OwnsP w' W.heap.size v' (allP S su.toNat st.toNat).length (allP S su.toNat st.toNat) ∧ Below W.heap.size W w') := fun W hW => pairsInOrder_any st it v2 v3 v4 v5 su iu u2 u3 u4 u5 M n S W (hM.below hW) h0 h1
  clear hM
  obtain ⟨L, hL⟩ : ∃ L, L = allP S su.toNat st.toNat := ⟨_, rfl⟩
  have hlow : ∀ x ∈ L, (0 ≤ x.1 ∧ x.1 ≤ 40) ∧ (0 ≤ x.2 ∧ x.2 ≤ 40) := by
    intro x hx
    rw [hL, allP_mem] at hx
    omega
  have hLen : L.length ≤ 1600 := by
    rw [hL]
    have h2 := allP_len S su.toNat st.toNat
    have h3 : st.toNat * su.toNat ≤ 40 * 40 := Nat.mul_le_mul (by omega) (by omega)
    omega
  rw [← hL] at CP ⊢
  have HLOW := Lib.hid hlow
  clear hlow hL
  obtain ⟨m, hm⟩ : ∃ m, m = L.length := ⟨_, rfl⟩
  rw [← hm] at CP hLen
  have HML := Lib.hid hm
  clear hm
  have S0 := Lib.hid (Box2.start w #[.int .i64 st, .int .i64 it, v2, v3, v4, v5] #[.int .i64 su, .int .i64 iu, u2, u3, u4, u5] 31)
  obtain ⟨i0, hi, hz0, hz1, hz2⟩ := info_parts info_int
  obtain ⟨R, hR⟩ : ∃ R, R = L.map (stOf su) := ⟨_, rfl⟩
  rw [← hR]
  have HR := Lib.hid hR
  clear hR
  have ca0 := S0.out.2.1.cell (j := 0) (u := .int .i64 st) rfl
  have ca1 := S0.out.2.1.cell (j := 1) (u := .int .i64 it) rfl
  have ca2 := S0.out.2.1.cell (j := 2) (u := v2) rfl
  have ca3 := S0.out.2.1.cell (j := 3) (u := v3) rfl
  have ca4 := S0.out.2.1.cell (j := 4) (u := v4) rfl
  have ca5 := S0.out.2.1.cell (j := 5) (u := v5) rfl
  have cb0 := S0.out.2.2.cell (j := 0) (u := .int .i64 su) rfl
  have cb1 := S0.out.2.2.cell (j := 1) (u := .int .i64 iu) rfl
  have cb2 := S0.out.2.2.cell (j := 2) (u := u2) rfl
  have cb3 := S0.out.2.2.cell (j := 3) (u := u3) rfl
  have cb4 := S0.out.2.2.cell (j := 4) (u := u4) rfl
  have cb5 := S0.out.2.2.cell (j := 5) (u := u5) rfl
  go_enter Tryz.func61, Tryz.ntmps61
  go_wp2_with fail
  clear ca0 cb0 ca1 cb1 ca2 cb2 ca3 cb3 ca4 cb4 ca5 cb5
  refine (CP.out _ S0.out.1).mono ?_
  rintro e w1 ⟨v', rfl, ho, hb⟩
  obtain ⟨ad, cd, rfl⟩ := ho.form
  have S1 := Lib.hid (S0.out.below hb)
  have HP := Lib.hid ho.row.2.2.2
  have hs1 := S1.out.1.size
  clear ho hb S0 CP
  go_wp2_with fail
  go_loopw [7, 15] (fun pv iv wr => ∃ (k len : Nat) (v0 : Value) (T : List Int), k ≤ m ∧ v0 = pv ∧ iv = .int .i64 (k : Int) ∧ Hid (Owns wr w1.heap.size v0 len T) ∧ Hid (T = (L.take k).map (stOf su)) ∧ len ≤ k ∧ Hid (Below w1.heap.size w1 wr)) (fun _ iv _ => m - (intOf iv).toNat)
  case atStart => exact ⟨0, 0, _, [], Nat.zero_le _, rfl, rfl, World.ownsRow_nil _ _ _ _, rfl, Nat.le_refl _, Below.refl _ _⟩
  case round =>
    obtain ⟨k, len, v0, T, hk, rfl, rfl, HO, HT, hlen, HB⟩ := hrel
    by_cases hlt : k < m
    · obtain ⟨b, off, rfl, hb, hcell⟩ := HP.out.2 (by omega)
      have hkx : k < L.length := by rw [HP.out.1]; exact hlt
      obtain ⟨⟨p, q⟩, hs⟩ : ∃ t, t = L[k] := ⟨_, rfl⟩
      obtain ⟨d0, d1⟩ := hcell k L[k] (List.getElem?_eq_getElem hkx)
      have hpq := HLOW.out L[k] (List.getElem_mem hkx)
      rw [← hs] at d0 d1 hpq
      have g0 := (HB.out.cell (p := ⟨b, off + k * 2, none⟩) hb).trans d0
      have g1 := (HB.out.cell (p := ⟨b, off + k * 2 + 1, none⟩) hb).trans d1
      simp only at g0 g1 hpq
      have BX := Lib.hid (HB.out.alloc HB.out.size (.cells #[.int .i64 p, .int .i64 q] 59))
      have SX := S1.out.below BX.out
      have X1 := VarIs.new wr #[.int .i64 p, .int .i64 q] 59 rfl
      have x0 := X1.cell (j := 0) (u := .int .i64 p) rfl
      have x1 := X1.cell (j := 1) (u := .int .i64 q) rfl
      have HST : Hid (T ++ [stOf su (p, q)] = (L.take (k + 1)).map (stOf su)) := by
        unfold Hid
        rw [List.take_succ_eq_append_getElem hkx, ← hs, List.map_append, HT.out]
        rfl
      have OX := Lib.hid (HO.out.alloc (.cells #[.int .i64 p, .int .i64 q] 59))
      have CS : Hid (∀ W, Calls Tryz.prog 56 #[.agg #[.int .i64 su, .int .i64 iu, u2, u3, u4, u5], .agg #[.int .i64 p, .int .i64 q]] W fun e w' => e = .returned (.int .i64 (stOf su (p, q))) ∧ Below W.heap.size W w') := fun W => stateOf_any su iu u2 u3 u4 u5 p q W h1 hpq.1 hpq.2
      obtain ⟨s, hsv⟩ : ∃ s, s = stOf su (p, q) := ⟨_, rfl⟩
      rw [← hsv] at HST CS
      clear d0 d1 hs hcell hpq X1 hsv
      have cb0 := SX.2.2.cell (j := 0) (u := .int .i64 su) rfl
      have cb1 := SX.2.2.cell (j := 1) (u := .int .i64 iu) rfl
      have cb2 := SX.2.2.cell (j := 2) (u := u2) rfl
      have cb3 := SX.2.2.cell (j := 3) (u := u3) rfl
      have cb4 := SX.2.2.cell (j := 4) (u := u4) rfl
      have cb5 := SX.2.2.cell (j := 5) (u := u5) rfl
      clear SX
      go_wp2_with fail
      refine (CS.out _).mono ?_
      rintro e w2 ⟨rfl, hb2⟩
      have O2 := Lib.hid (OX.out.below hb2)
      have B2 := Lib.hid (BX.out.trans (hb2.mono BX.out.size))
      have b2 := B2.out.size
      clear hb2 OX BX CS g0 g1 x0 x1 cb0 cb1 cb2 cb3 cb4 cb5
      have T1 := O2.out.alloc (.cells #[.int .i64 s] 3)
      have S1x : Src (w2.alloc (.cells #[.int .i64 s] 3)) (some ⟨w2.heap.size, 0, none⟩) 1 1 [s] := src_one (by simp)
      go_wp2_with (at_builtin; refine wpList_app rfl (.tmp 19) (.tmp 23) rfl w1.heap.size i0 Tryz.underlying22 hi hz0 hz1 hz2 _ len _ rfl T1 _ 1 _ [s] rfl S1x (by omega) (by simp; omega) ?_)
      rintro vz w3 ⟨hown, hgrow, _⟩
      have B3 : Hid (Below w1.heap.size w1 w3) := T1.grown (B2.out.alloc b2 _) hgrow (Nat.le_refl _) (by simp; omega)
      have O3 := Lib.hid hown
      clear hown hgrow T1 S1x O2 B2 b2
      go_wp2_with fail
      go_roundw
      case rel => exact ⟨k + 1, len + 1, vz, T ++ [s], by omega, rfl, by go_num, O3.out, HST.out, by omega, B3.out⟩
      case measure => simp [intOf]; omega
    · have HE : Hid (T = R) := by
        unfold Hid
        rw [HT.out, HR.out, List.take_of_length_le (by rw [HP.out.1]; omega)]
      obtain ⟨av, cv, rfl⟩ := HO.out.form
      go_wp2_with fail
      go_ret
      have e := HO.out.length
      rw [← HE.out]
      subst e
      exact ⟨_, rfl, HO.out.mono hs1, S1.out.1.trans (HB.out.mono hs1)⟩

end Go.Proofs.YtdbgjgeglgipiaaGreat
