/-
  The contract of the program's AllFit. Conditions: at most 2^20 automata, of lists of at most 2^20.
-/
import Derived.Test.YtdbgjgeglgipiaaHolders
import Derived.Test.YtdbgjgeglgipiaaImplStep
import Derived.Test.YtdbgjgeglgipiaaRowsOf
import Derived.WalkMore
namespace Go.Proofs.Ytdbgjgeglgipiaa
open Go.RowKit

theorem Held3.start (w : World) (t : TypeId) : Held3 (w.alloc (.cells (Array.replicate 36 (.int .i64 0)) t)) w.heap.size (fun _ _ => 0) := by
  have hv : VarIs (w.alloc (.cells (Array.replicate 36 (.int .i64 0)) t)) w.heap.size (Array.replicate 36 (.int .i64 0)) t := VarIs.new w _ t rfl
  exact ⟨hv.lt, fun x j hx hj => hv.cell (j := x * 3 + j) (u := .int .i64 0) (by rw [Array.getElem?_replicate, if_pos (by omega)]), fun i => hv.frozen i⟩

theorem anyD_fit (L : List IaD) : anyD (fun x => countOf (isTaker (x : Int)) L) (fun x => countOf (isSayer (x : Int)) L) (fun x => countOf (isHider (x : Int)) L) 12 = !((List.range 12).all fun i => fitAt L (i : Int)) := by
  unfold anyD
  rw [List.any_eq_not_all_not]
  rfl

theorem allFit_bad {L : List IaD} {k : Nat} (hk : k < L.length) (h : iaOkB L[k] = false) : allFitB L = false := by
  have h1 : L.all iaOkB = false := by
    rw [List.all_eq_false]
    exact ⟨L[k], List.getElem_mem hk, by simp [h]⟩
  unfold allFitB
  rw [h1]
  rfl

set_option maxRecDepth 20000 in
set_option maxHeartbeats 12800000 in
theorem implAllFit_any (ar : Option Addr) (n c : Nat) (L : List IaD) (w : World) (h : RowA w ar n L) (hn : n ≤ 1048576) (hf : ∀ x ∈ L, ShortL x) :
    Calls Try.prog 15 #[.slice ar n c] w fun e w' => e = .returned (.bool (allFitB L)) ∧ Below w.heap.size w w' := by
  have HL := Lib.hid h.1
  have HC := Lib.hid h.2
  have HF := Lib.hid hf
  obtain ⟨r, hr⟩ : ∃ r, r = allFitB L := ⟨_, rfl⟩
  rw [← hr]
  have H1 : Hid (∀ k (hk : k < L.length), iaOkB L[k] = false → r = false) := fun k hk h0 => by
    rw [hr]
    exact allFit_bad hk h0
  have H2 : Hid ((∀ k (hk : k < L.length), iaOkB L[k] = true) → r = (!anyD (fun x => countOf (isTaker (x : Int)) L) (fun x => countOf (isSayer (x : Int)) L) (fun x => countOf (isHider (x : Int)) L) 12 && decide (0 < n))) := fun h0 => by
    have e1 : L.all iaOkB = true := by
      rw [List.all_eq_true]
      intro x hx
      obtain ⟨k, hk, rfl⟩ := List.getElem_of_mem hx
      exact h0 k hk
    rw [hr]
    unfold allFitB
    rw [e1, h.1, anyD_fit]
    simp
  clear h hf hr
  have RG : Hid (∀ W k, Below w.heap.size w W → k < n → ∃ (x : IaD) (b off : Nat) (a2 : Option Addr) (n2 c2 : Nat) (a3 : Option Addr) (n3 c3 : Nat) (a4 : Option Addr) (n4 c4 : Nat) (a5 : Option Addr) (n5 c5 : Nat), L[k]? = some x ∧ ar = some ⟨b, off, none⟩ ∧ W.rangeAt b (off + k * 6) [.int .i64 x.states, .int .i64 x.init, .slice a2 n2 c2, .slice a3 n3 c3, .slice a4 n4 c4, .slice a5 n5 c5] ∧ (∀ W', Below w.heap.size w W' → IaRow W' x (.agg #[.int .i64 x.states, .int .i64 x.init, .slice a2 n2 c2, .slice a3 n3 c3, .slice a4 n4 c4, .slice a5 n5 c5])) ∧ ShortL x) := fun W k hW hk => by
    obtain ⟨b, off, e, hb, hcell⟩ := HC.out (by omega)
    have hkx : k < L.length := by rw [HL.out]; exact hk
    obtain ⟨a2, n2, c2, a3, n3, c3, a4, n4, c4, a5, n5, c5, hra, hro⟩ := hcell k L[k] (List.getElem?_eq_getElem hkx)
    exact ⟨L[k], b, off, a2, n2, c2, a3, n3, c3, a4, n4, c4, a5, n5, c5, List.getElem?_eq_getElem hkx, e, rangeAt_below hra hb hW, fun W' hW' => hro.below hW', HF.out _ (List.getElem_mem hkx)⟩
  clear HC HF
  have B0 : Hid (Below w.heap.size w (w.alloc (.cells (Array.replicate 36 (.int .i64 0)) 53))) := (Below.refl _ _).alloc (Nat.le_refl _) _
  have S0 := Lib.hid (Held3.start w 53)
  go_enter Try.func15, Try.ntmps15
  go_wp2_with fail
  go_loopw [14] (fun i wr => ∃ k : Nat, k ≤ n ∧ i = .int .i64 k ∧ Hid (∀ j (hj : j < L.length), j < k → iaOkB L[j] = true) ∧ Hid (Held3 wr w.heap.size (cntG L k)) ∧ Hid (Below w.heap.size w wr)) (fun i _ => n - (intOf i).toNat)
  case atStart => exact ⟨0, Nat.zero_le _, rfl, fun j hj h0 => absurd h0 (Nat.not_lt_zero _), by rw [cntG_zero]; exact S0.out, B0.out⟩
  case round =>
    clear S0 B0
    obtain ⟨k, hk, rfl, HO, HH, HB⟩ := hrel
    obtain ⟨wo, hwo⟩ : ∃ z, z = wr := ⟨_, rfl⟩
    subst hwo
    have HNE : Hid (wo.heap.size ≠ w.heap.size) := fun e => by have := HH.out.1; omega
    by_cases hlt : k < n
    · obtain ⟨x, b, off, a2, n2, c2, a3, n3, c3, a4, n4, c4, a5, n5, c5, hx, rfl, hra, hro, s2, s3, s4, s5⟩ := RG.out wo k HB.out hlt
      have HRg := Lib.hid hra
      have hkx : k < L.length := by rw [HL.out]; exact hlt
      have hx2 : L[k] = x := Option.some.inj ((List.getElem?_eq_getElem hkx).symm.trans hx)
      obtain ⟨q, hq⟩ : ∃ q, q = iaOkB x := ⟨_, rfl⟩
      have CI : Hid (∀ W, Below w.heap.size w W → Calls Try.prog 29 #[.agg #[.int .i64 x.states, .int .i64 x.init, .slice a2 n2 c2, .slice a3 n3 c3, .slice a4 n4 c4, .slice a5 n5 c5]] W fun e w' => e = .returned (.bool q) ∧ Below W.heap.size W w') := fun W hW => by
        rw [hq]
        exact implIaOk_any x _ W (hro W hW) s2 s3 s4 s5
      have HQ : Hid (iaOkB x = q) := hq.symm
      have HQL : Hid (L[k] = x) := hx2
      have RW : Hid (∀ W, Below w.heap.size w W → Row W a2 n2 x.ins ∧ Row W a3 n3 x.outs ∧ Row W a4 n4 x.hids) := fun W hW => by
        obtain ⟨r2, r3, r4, _⟩ := rowA_parts (hro W hW)
        exact ⟨r2, r3, r4⟩
      have t2 : n2 ≤ 1048576 := by have := (RW.out wo HB.out).1.1; omega
      have t3 : n3 ≤ 1048576 := by have := (RW.out wo HB.out).2.1.1; omega
      have t4 : n4 ≤ 1048576 := by have := (RW.out wo HB.out).2.2.1; omega
      have i1 : (0 : Int) ≤ (k : Int) := by omega
      have i2 : (k : Int) < (n : Int) := by omega
      have BA := (Below.refl wo.heap.size wo).alloc (Nat.le_refl _) (.cells #[.int .i64 x.states, .int .i64 x.init, .slice a2 n2 c2, .slice a3 n3 c3, .slice a4 n4 c4, .slice a5 n5 c5] 30)
      obtain ⟨ws, hws⟩ : ∃ z, z = wo.alloc (.cells #[.int .i64 x.states, .int .i64 x.init, .slice a2 n2 c2, .slice a3 n3 c3, .slice a4 n4 c4, .slice a5 n5 c5] 30) := ⟨_, rfl⟩
      have HW := Lib.hid hws
      rw [← hws] at BA
      have V1 : Hid (VarIs ws wo.heap.size #[.int .i64 x.states, .int .i64 x.init, .slice a2 n2 c2, .slice a3 n3 c3, .slice a4 n4 c4, .slice a5 n5 c5] 30) := by
        rw [hws]
        exact VarIs.new wo _ _ rfl
      have HH1 : Hid (Held3 ws w.heap.size (cntG L k)) := HH.out.below BA
      have HB1 : Hid (Below w.heap.size w ws) := HB.out.trans (BA.mono HB.out.size)
      clear hra hro hx hx2 hq s2 s3 s4 s5 BA hws HH
      go_wp2_with (refine wpList_load_mid rfl _ _ rfl b (off + k * 6) rfl [.int .i64 x.states, .int .i64 x.init, .slice a2 n2 c2, .slice a3 n3 c3, .slice a4 n4 c4, .slice a5 n5 c5] _ HRg.out Try.underlying30 rfl (by kernel_rfl) ?_)
      rw [← HW.out]
      clear HW HRg
      refine (CI.out _ HB1.out).mono ?_
      rintro e w1 ⟨rfl, hb1⟩
      have HB2 : Hid (Below w.heap.size w w1) := HB1.out.trans (hb1.mono HB1.out.size)
      have HH2 : Hid (Held3 w1 w.heap.size (cntG L k)) := HH1.out.below hb1
      have V2 := Lib.hid (V1.out.below hb1)
      clear hb1 CI HB HB1 HH1 V1
      cases q with
      | false =>
        have hr1 : r = false := H1.out k hkx (by rw [HQL.out]; exact HQ.out)
        clear H1 H2
        subst hr1
        go_wp2_with fail
        go_ret
        exact ⟨rfl, HB2.out⟩
      | true =>
        have HO2 : Hid (∀ j (hj : j < L.length), j < k + 1 → iaOkB L[j] = true) := fun j hj h0 => by
          by_cases e : j = k
          · subst e; rw [HQL.out]; exact HQ.out
          · exact HO.out j hj (by omega)
        have HLW : Hid ((∀ y ∈ x.ins, 0 ≤ y ∧ y ≤ 11) ∧ (∀ y ∈ x.outs, 0 ≤ y ∧ y ≤ 11) ∧ (∀ y ∈ x.hids, 0 ≤ y ∧ y ≤ 11)) := by
          obtain ⟨o2, o3, o4⟩ := iaOk_sets HQ.out
          exact ⟨setOk_low o2, setOk_low o3, setOk_low o4⟩
        have HST : Hid (∀ y i, y < 12 → i < 3 → addG (addG (addG (cntG L k) x.ins 0) x.outs 1) x.hids 2 y i = cntG L (k + 1) y i) := fun y i hy hi => by
          rw [cntG_step L k hkx x HQL.out HQ.out]
          simp [hi]
        have BD : Hid (∀ y i, cntG L k y i ≤ 1048576) := fun y i => Nat.le_trans (cntG_le L k y i) (by omega)
        clear HO HQ HQL
        have mf0 := V2.out.cell (j := 2) rfl
        go_wp2_with fail
        clear mf0
        go_loopw [24] (fun i wr' => ∃ k' : Nat, k' ≤ n2 ∧ i = .int .i64 k' ∧ Hid (Held3 wr' w.heap.size (addG (cntG L k) (x.ins.take k') 0)) ∧ Hid (VarIs wr' wo.heap.size #[.int .i64 x.states, .int .i64 x.init, .slice a2 n2 c2, .slice a3 n3 c3, .slice a4 n4 c4, .slice a5 n5 c5] 30) ∧ Hid (Below w.heap.size w wr')) (fun i _ => n2 - (intOf i).toNat)
        case atStart => exact ⟨0, Nat.zero_le _, rfl, by rw [List.take_zero, addG_nil]; exact HH2.out, V2.out, HB2.out⟩
        case round =>
          clear HH2 V2 HB2
          obtain ⟨k', hk', rfl, HHi, HVi, HBi⟩ := hrel
          by_cases hlt' : k' < n2
          · obtain ⟨b', off', rfl, hb', hcell'⟩ := (RW.out _ HBi.out).1.2 (by omega)
            have hkx' : k' < x.ins.length := by rw [(RW.out _ HBi.out).1.1]; exact hlt'
            have hce := hcell' k' hlt'
            obtain ⟨z, hz⟩ : ∃ z, z = x.ins.getD k' 0 := ⟨_, rfl⟩
            rw [← hz] at hce
            have hz2 : x.ins[k'] = z := by rw [hz]; simp [List.getD_eq_getElem?_getD, hkx']
            have hzl := HLW.out.1 _ (List.getElem_mem hkx')
            rw [hz2] at hzl
            obtain ⟨y, rfl⟩ : ∃ y : Nat, z = (y : Int) := ⟨z.toNat, by omega⟩
            have hy12 : y < 12 := by omega
            have hy12' : (y : Int) < 12 := by omega
            have hy0 : (0 : Int) ≤ (y : Int) := by omega
            obtain ⟨g, hg⟩ : ∃ g, g = addG (cntG L k) (x.ins.take k') 0 y 0 := ⟨_, rfl⟩
            have hgl : g ≤ 4194304 + 1048576 := by
              rw [hg]
              refine Nat.le_trans (addG_le _ _ _ _ _) ?_
              have h1 : (x.ins.take k').length ≤ 1048576 := by rw [List.length_take]; omega
              have h2 : (cntG L k) y 0 ≤ 4194304 := by
                have h3 := BD.out y 0
                omega
              omega
            have mg := HHi.out.2.1 y 0 hy12 (by omega)
            have mfz := HHi.out.2.2 (y * 3 + 0)
            rw [← hg] at mg
            simp only [Nat.add_zero] at mg mfz
            have HUP := HHi.out.up y 0 hy12 (by omega)
            rw [← hg, ← addG_step (cntG L k) x.ins 0 k' y hkx' hz2] at HUP
            simp only [Nat.add_zero] at HUP
            have HU := Lib.hid HUP
            have HV3 := Lib.hid (HVi.out.other (g := w.heap.size) (j := y * 3) HNE.out (.int .i64 ((g : Int) + 1)))
            have HB3 := Lib.hid (below_setCell (g := w.heap.size) (j := y * 3) HBi.out (Nat.le_refl _) (.int .i64 ((g : Int) + 1)))
            have j1 : (0 : Int) ≤ (k' : Int) := by omega
            have j2 : (k' : Int) < (n2 : Int) := by omega
            clear HUP hz hz2 hzl hg hcell' hb' hkx' HHi HVi HBi
            go_wp2_with fail
            go_roundw
            case rel => exact ⟨k' + 1, by omega, by go_num, HU.out, HV3.out, HB3.out⟩
            case measure => simp [intOf]; omega
          · obtain rfl : n2 = k' := by omega
            have HH3 : Hid (Held3 wr w.heap.size (addG (cntG L k) x.ins 0)) := by
              have h1 := HHi.out
              rw [List.take_of_length_le (by rw [(RW.out _ HBi.out).1.1]; omega)] at h1
              exact h1
            have HB3 := HBi
            have V3 := HVi
            clear HHi HBi HVi
            have mf1 := V3.out.cell (j := 3) rfl
            go_wp2_with fail
            clear mf1
            go_loopw [39] (fun i wr' => ∃ k' : Nat, k' ≤ n3 ∧ i = .int .i64 k' ∧ Hid (Held3 wr' w.heap.size (addG (addG (cntG L k) x.ins 0) (x.outs.take k') 1)) ∧ Hid (VarIs wr' wo.heap.size #[.int .i64 x.states, .int .i64 x.init, .slice a2 n2 c2, .slice a3 n3 c3, .slice a4 n4 c4, .slice a5 n5 c5] 30) ∧ Hid (Below w.heap.size w wr')) (fun i _ => n3 - (intOf i).toNat)
            case atStart => exact ⟨0, Nat.zero_le _, rfl, by rw [List.take_zero, addG_nil]; exact HH3.out, V3.out, HB3.out⟩
            case round =>
              clear HH3 V3 HB3
              obtain ⟨k', hk', rfl, HHi, HVi, HBi⟩ := hrel
              by_cases hlt' : k' < n3
              · obtain ⟨b', off', rfl, hb', hcell'⟩ := (RW.out _ HBi.out).2.1.2 (by omega)
                have hkx' : k' < x.outs.length := by rw [(RW.out _ HBi.out).2.1.1]; exact hlt'
                have hce := hcell' k' hlt'
                obtain ⟨z, hz⟩ : ∃ z, z = x.outs.getD k' 0 := ⟨_, rfl⟩
                rw [← hz] at hce
                have hz2 : x.outs[k'] = z := by rw [hz]; simp [List.getD_eq_getElem?_getD, hkx']
                have hzl := HLW.out.2.1 _ (List.getElem_mem hkx')
                rw [hz2] at hzl
                obtain ⟨y, rfl⟩ : ∃ y : Nat, z = (y : Int) := ⟨z.toNat, by omega⟩
                have hy12 : y < 12 := by omega
                have hy12' : (y : Int) < 12 := by omega
                have hy0 : (0 : Int) ≤ (y : Int) := by omega
                obtain ⟨g, hg⟩ : ∃ g, g = addG (addG (cntG L k) x.ins 0) (x.outs.take k') 1 y 1 := ⟨_, rfl⟩
                have hgl : g ≤ 4194304 + 1048576 := by
                  rw [hg]
                  refine Nat.le_trans (addG_le _ _ _ _ _) ?_
                  have h1 : (x.outs.take k').length ≤ 1048576 := by rw [List.length_take]; omega
                  have h2 : (addG (cntG L k) x.ins 0) y 1 ≤ 4194304 := by
                    have h3 := BD.out y 1
                    simp only [addG]
                    rw [if_neg (by decide)]
                    omega
                  omega
                have mg := HHi.out.2.1 y 1 hy12 (by omega)
                have mfz := HHi.out.2.2 (y * 3 + 1)
                rw [← hg] at mg
                have HUP := HHi.out.up y 1 hy12 (by omega)
                rw [← hg, ← addG_step (addG (cntG L k) x.ins 0) x.outs 1 k' y hkx' hz2] at HUP
                have HU := Lib.hid HUP
                have HV3 := Lib.hid (HVi.out.other (g := w.heap.size) (j := y * 3 + 1) HNE.out (.int .i64 ((g : Int) + 1)))
                have HB3 := Lib.hid (below_setCell (g := w.heap.size) (j := y * 3 + 1) HBi.out (Nat.le_refl _) (.int .i64 ((g : Int) + 1)))
                have j1 : (0 : Int) ≤ (k' : Int) := by omega
                have j2 : (k' : Int) < (n3 : Int) := by omega
                clear HUP hz hz2 hzl hg hcell' hb' hkx' HHi HVi HBi
                go_wp2_with fail
                go_roundw
                case rel => exact ⟨k' + 1, by omega, by go_num, HU.out, HV3.out, HB3.out⟩
                case measure => simp [intOf]; omega
              · obtain rfl : n3 = k' := by omega
                have HH4 : Hid (Held3 wr w.heap.size (addG (addG (cntG L k) x.ins 0) x.outs 1)) := by
                  have h1 := HHi.out
                  rw [List.take_of_length_le (by rw [(RW.out _ HBi.out).2.1.1]; omega)] at h1
                  exact h1
                have HB4 := HBi
                have V4 := HVi
                clear HHi HBi HVi
                have mf2 := V4.out.cell (j := 4) rfl
                go_wp2_with fail
                clear mf2
                go_loopw [54] (fun i wr' => ∃ k' : Nat, k' ≤ n4 ∧ i = .int .i64 k' ∧ Hid (Held3 wr' w.heap.size (addG (addG (addG (cntG L k) x.ins 0) x.outs 1) (x.hids.take k') 2)) ∧ Hid (VarIs wr' wo.heap.size #[.int .i64 x.states, .int .i64 x.init, .slice a2 n2 c2, .slice a3 n3 c3, .slice a4 n4 c4, .slice a5 n5 c5] 30) ∧ Hid (Below w.heap.size w wr')) (fun i _ => n4 - (intOf i).toNat)
                case atStart => exact ⟨0, Nat.zero_le _, rfl, by rw [List.take_zero, addG_nil]; exact HH4.out, V4.out, HB4.out⟩
                case round =>
                  clear HH4 V4 HB4
                  obtain ⟨k', hk', rfl, HHi, HVi, HBi⟩ := hrel
                  by_cases hlt' : k' < n4
                  · obtain ⟨b', off', rfl, hb', hcell'⟩ := (RW.out _ HBi.out).2.2.2 (by omega)
                    have hkx' : k' < x.hids.length := by rw [(RW.out _ HBi.out).2.2.1]; exact hlt'
                    have hce := hcell' k' hlt'
                    obtain ⟨z, hz⟩ : ∃ z, z = x.hids.getD k' 0 := ⟨_, rfl⟩
                    rw [← hz] at hce
                    have hz2 : x.hids[k'] = z := by rw [hz]; simp [List.getD_eq_getElem?_getD, hkx']
                    have hzl := HLW.out.2.2 _ (List.getElem_mem hkx')
                    rw [hz2] at hzl
                    obtain ⟨y, rfl⟩ : ∃ y : Nat, z = (y : Int) := ⟨z.toNat, by omega⟩
                    have hy12 : y < 12 := by omega
                    have hy12' : (y : Int) < 12 := by omega
                    have hy0 : (0 : Int) ≤ (y : Int) := by omega
                    obtain ⟨g, hg⟩ : ∃ g, g = addG (addG (addG (cntG L k) x.ins 0) x.outs 1) (x.hids.take k') 2 y 2 := ⟨_, rfl⟩
                    have hgl : g ≤ 4194304 + 1048576 := by
                      rw [hg]
                      refine Nat.le_trans (addG_le _ _ _ _ _) ?_
                      have h1 : (x.hids.take k').length ≤ 1048576 := by rw [List.length_take]; omega
                      have h2 : (addG (addG (cntG L k) x.ins 0) x.outs 1) y 2 ≤ 4194304 := by
                        have h3 := BD.out y 2
                        simp only [addG]
                        rw [if_neg (by decide), if_neg (by decide)]
                        omega
                      omega
                    have mg := HHi.out.2.1 y 2 hy12 (by omega)
                    have mfz := HHi.out.2.2 (y * 3 + 2)
                    rw [← hg] at mg
                    have HUP := HHi.out.up y 2 hy12 (by omega)
                    rw [← hg, ← addG_step (addG (addG (cntG L k) x.ins 0) x.outs 1) x.hids 2 k' y hkx' hz2] at HUP
                    have HU := Lib.hid HUP
                    have HV3 := Lib.hid (HVi.out.other (g := w.heap.size) (j := y * 3 + 2) HNE.out (.int .i64 ((g : Int) + 1)))
                    have HB3 := Lib.hid (below_setCell (g := w.heap.size) (j := y * 3 + 2) HBi.out (Nat.le_refl _) (.int .i64 ((g : Int) + 1)))
                    have j1 : (0 : Int) ≤ (k' : Int) := by omega
                    have j2 : (k' : Int) < (n4 : Int) := by omega
                    clear HUP hz hz2 hzl hg hcell' hb' hkx' HHi HVi HBi
                    go_wp2_with fail
                    go_roundw
                    case rel => exact ⟨k' + 1, by omega, by go_num, HU.out, HV3.out, HB3.out⟩
                    case measure => simp [intOf]; omega
                  · obtain rfl : n4 = k' := by omega
                    have HH5 : Hid (Held3 wr w.heap.size (addG (addG (addG (cntG L k) x.ins 0) x.outs 1) x.hids 2)) := by
                      have h1 := HHi.out
                      rw [List.take_of_length_le (by rw [(RW.out _ HBi.out).2.2.1]; omega)] at h1
                      exact h1
                    have HB5 := HBi
                    have V5 := HVi
                    clear HHi HBi HVi
                    have H9 : Hid (Held3 wr w.heap.size (cntG L (k + 1))) := HH5.out.like (fun y i hy hi => HST.out y i hy hi)
                    go_wp2_with fail
                    go_roundw
                    case rel => exact ⟨k + 1, by omega, by go_num, HO2.out, H9.out, HB5.out⟩
                    case measure => simp [intOf]; omega
    · obtain rfl : n = k := by omega
      have HALL : Hid (∀ k (hk : k < L.length), iaOkB L[k] = true) := fun j hj => HO.out j hj (by rw [← HL.out]; exact hj)
      have RH : Hid (RowH wo w.heap.size (fun x => countOf (isTaker (x : Int)) L) (fun x => countOf (isSayer (x : Int)) L) (fun x => countOf (isHider (x : Int)) L)) := by
        have h1 := HH.out.rowH
        unfold cntG at h1
        simp only [List.take_of_length_le (show L.length ≤ n by rw [HL.out]; omega)] at h1
        exact h1
      have CC := Lib.hid (containsFunc_any w.heap.size (fun x => countOf (isTaker (x : Int)) L) (fun x => countOf (isSayer (x : Int)) L) (fun x => countOf (isHider (x : Int)) L) wo RH.out (fun x => by
        have hl := HL.out
        have h1 := count_le (isTaker (x : Int)) L n
        have h2 := count_le (isSayer (x : Int)) L n
        have h3 := count_le (isHider (x : Int)) L n
        rw [List.take_of_length_le (by omega)] at h1 h2 h3
        exact ⟨by omega, by omega, by omega⟩))
      obtain ⟨q, hq⟩ : ∃ q, q = anyD (fun x => countOf (isTaker (x : Int)) L) (fun x => countOf (isSayer (x : Int)) L) (fun x => countOf (isHider (x : Int)) L) 12 := ⟨_, rfl⟩
      have HR : Hid (r = (!q && decide (0 < n))) := by
        rw [hq]
        exact H2.out HALL.out
      rw [← hq] at CC
      clear HO HH H1 H2 HALL RH hq RG
      by_cases h0 : 0 < n
      · have g0 : (0 : Int) < (n : Int) := by omega
        have HR2 : Hid (r = !q) := by rw [HR.out]; simp [h0, Hid]
        clear HR
        go_wp2_with fail
        refine CC.out.mono ?_
        rintro e w1 ⟨rfl, hb1⟩
        have HB2 : Hid (Below w.heap.size w w1) := HB.out.trans (hb1.mono HB.out.size)
        clear hb1 CC HB
        cases q with
        | true =>
          have hr1 : r = false := HR2.out
          clear HR2
          subst hr1
          go_wp2_with fail
          go_ret
          exact ⟨rfl, HB2.out⟩
        | false =>
          have hr1 : r = true := HR2.out
          clear HR2
          subst hr1
          go_wp2_with fail
          go_ret
          exact ⟨rfl, HB2.out⟩
      · have g0 : ¬ (0 : Int) < (n : Int) := by omega
        have hr1 : r = false := by rw [HR.out]; simp [h0]
        clear HR
        subst hr1
        go_wp2_with fail
        go_ret
        exact ⟨rfl, HB.out⟩

end Go.Proofs.Ytdbgjgeglgipiaa
