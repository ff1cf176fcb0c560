/-
  The contract of the program's stepsBetween: the steps from states that are kept, numbered anew. Conditions: at most 400 steps, between states below 40; an array of forty numbers.
-/
import Derived.Test.YtodkahdnkpibiaaStepRows
import Derived.Test.YtodkahdnkpibiaaCopied
namespace Go.Proofs.Ytodkahdnkpibiaa
open Go.RowKit

theorem between_step (kept : List Int) (pl : Nat → Int) (ss : List St) (k : Nat) (hk : k < ss.length) : betweenOf kept pl (ss.take (k + 1)) = betweenOf kept pl (ss.take k) ++ if hasB kept ss[k].1 then [(pl ss[k].1.toNat, ss[k].2.1, pl ss[k].2.2.toNat)] else [] := by
  unfold betweenOf
  rw [List.take_succ_eq_append_getElem hk, List.filter_append, List.map_append]
  by_cases h : hasB kept ss[k].1 = true <;> simp [h]

set_option maxRecDepth 20000 in
set_option maxHeartbeats 6400000 in
theorem stepsBetween_any (st it : Int) (v2 v3 v4 : Value) (a5 : Option Addr) (n5 c5 : Nat) (steps : List St) (ka : Option Addr) (kn kc : Nat) (kept : List Int) (P : Array Value) (pl : Nat → Int) (w : World)
    (r5 : RowS w a5 n5 steps) (hn : n5 ≤ 400) (rk : Row w ka kn kept) (hkn : kn ≤ 1048576) (hP : ∀ s, s < 40 → P[s]? = some (.int .i64 (pl s))) (hgood : ∀ x ∈ steps, (0 ≤ x.1 ∧ x.1 < 40) ∧ 0 ≤ x.2.2 ∧ x.2.2 < 40) :
    Calls Try.prog 61 #[.agg #[.int .i64 st, .int .i64 it, v2, v3, v4, .slice a5 n5 c5], .slice ka kn kc, .agg P] w fun e w' => ∃ v, e = .returned v ∧ OwnsS 49 w' w.heap.size v (betweenOf kept pl steps).length (betweenOf kept pl steps) ∧ Below w.heap.size w w' := by
  have HL5 := Lib.hid r5.1
  have HC5 := Lib.hid r5.2
  have HK := Lib.hid rk
  have HPP := Lib.hid hP
  have HGD := Lib.hid hgood
  clear r5 hgood rk hP
  obtain ⟨i0, hi0, hz0, hz1, hz2⟩ := info_parts (show (Try.prog.info? 49).map (fun i => (i.zero, i.size, i.bytes)) = some (some (.agg #[.int .i64 0, .int .i64 0, .int .i64 0]), 3, 24) by kernel_rfl)
  have V0 : Hid (VarIs ((w.alloc (.cells #[.int .i64 st, .int .i64 it, v2, v3, v4, .slice a5 n5 c5] 30)).alloc (.cells P 65)) w.heap.size #[.int .i64 st, .int .i64 it, v2, v3, v4, .slice a5 n5 c5] 30) := (VarIs.new w _ _ rfl).alloc _
  have V1 : Hid (VarIs ((w.alloc (.cells #[.int .i64 st, .int .i64 it, v2, v3, v4, .slice a5 n5 c5] 30)).alloc (.cells P 65)) (w.heap.size + 1) P 65) := VarIs.new _ _ _ (by simp)
  have B0 : Hid (∀ o o', Below w.heap.size w ((w.alloc o).alloc o')) := fun o o' => ((Below.refl _ _).alloc (Nat.le_refl _) _).alloc (by simp) _
  go_enter Try.func61, Try.ntmps61
  go_wp2_with fail
  go_loopw [7, 13] (fun v i wr => ∃ (k len : Nat) (v0 : Value) (T : List St), k ≤ n5 ∧ i = .int .i64 k ∧ v0 = v ∧ Hid (OwnsS 49 wr (w.heap.size + 2) v0 len T) ∧ Hid (T = betweenOf kept pl (steps.take k)) ∧ len ≤ k ∧ Hid (Below w.heap.size w wr) ∧ Hid (VarIs wr w.heap.size #[.int .i64 st, .int .i64 it, v2, v3, v4, .slice a5 n5 c5] 30) ∧ Hid (VarIs wr (w.heap.size + 1) P 65)) (fun _ i _ => n5 - (intOf i).toNat)
  case atStart => exact ⟨0, 0, _, [], Nat.zero_le _, rfl, rfl, World.ownsRow_nil _ _ _ _, by simp [Hid, betweenOf], Nat.le_refl _, B0.out _ _, V0.out, V1.out⟩
  case round =>
    obtain ⟨k, len, v0, T, hk, rfl, rfl, HO, HT, hlen, HB, HVA, HVP⟩ := hrel
    clear V0 V1 B0
    by_cases hlt : k < n5
    · obtain ⟨b, off, rfl, hb, hcell⟩ := HC5.out (by omega)
      have hkx : k < steps.length := by rw [HL5.out]; exact hlt
      obtain ⟨⟨f, y, z⟩, hs⟩ : ∃ t, t = steps[k] := ⟨_, rfl⟩
      have hf := HGD.out steps[k] (List.getElem_mem hkx)
      rw [← hs] at hf
      simp only at hf
      obtain ⟨sF, rfl⟩ : ∃ s : Nat, f = (s : Int) := ⟨f.toNat, by omega⟩
      obtain ⟨sT, rfl⟩ : ∃ s : Nat, z = (s : Int) := ⟨z.toNat, by omega⟩
      have hsF : sF < 40 := by omega
      have hsF' : (sF : Int) < 40 := by omega
      have hsT : sT < 40 := by omega
      have hsT' : (sT : Int) < 40 := by omega
      obtain ⟨d0, d1, d2⟩ := hcell k steps[k] (List.getElem?_eq_getElem hkx)
      rw [← hs] at d0 d1 d2
      have g0 := (HB.out.cell (p := ⟨b, off + k * 3, none⟩) hb).trans d0
      have g1 := (HB.out.cell (p := ⟨b, off + k * 3 + 1, none⟩) hb).trans d1
      have g2 := (HB.out.cell (p := ⟨b, off + k * 3 + 2, none⟩) hb).trans d2
      simp only at g0 g1 g2
      have kb := HVA.out.cell (j := 5) rfl
      obtain ⟨q, hq⟩ : ∃ q, q = hasB kept (sF : Int) := ⟨_, rfl⟩
      obtain ⟨pF, hpF⟩ : ∃ p, p = pl sF := ⟨_, rfl⟩
      obtain ⟨pT, hpT⟩ : ∃ p, p = pl sT := ⟨_, rfl⟩
      have HST : Hid (betweenOf kept pl (steps.take (k + 1)) = T ++ if q then [(pF, y, pT)] else []) := by
        unfold Hid
        rw [between_step kept pl steps k hkx, ← hs, HT.out, hq, hpF, hpT]
        rfl
      have HH : Hid (∀ W, Below w.heap.size w W → Calls Try.prog 71 #[.slice ka kn kc, .int .i64 (sF : Int)] W fun e w' => e = .returned (.bool q) ∧ W = w') := fun W hW => by rw [hq]; exact (implSetHas_any ka kn kc _ kept W (HK.out.below hW) (by omega)).mono fun _ _ h => ⟨h.1, h.2.symm⟩
      have CF : Hid (P[sF]? = some (.int .i64 pF)) := by rw [hpF]; exact HPP.out sF hsF
      have CT : Hid (P[sT]? = some (.int .i64 pT)) := by rw [hpT]; exact HPP.out sT hsT
      have BX := Lib.hid (HB.out.alloc HB.out.size (.cells #[.int .i64 (sF : Int), .int .i64 y, .int .i64 (sT : Int)] 49))
      have kx := (VarIs.new wr #[.int .i64 (sF : Int), .int .i64 y, .int .i64 (sT : Int)] 49 rfl).cell (j := 0) rfl
      have VA1 := Lib.hid (HVA.out.alloc (.cells #[.int .i64 (sF : Int), .int .i64 y, .int .i64 (sT : Int)] 49))
      have VP1 := Lib.hid (HVP.out.alloc (.cells #[.int .i64 (sF : Int), .int .i64 y, .int .i64 (sT : Int)] 49))
      clear d0 d1 d2 hs hcell hf hq hpF hpT
      cases q with
      | false =>
        have HT2 : Hid (T = betweenOf kept pl (steps.take (k + 1))) := by
          have := HST.out
          simp only [Bool.false_eq_true, if_false, List.append_nil] at this
          exact this.symm
        have HO2 := Lib.hid (HO.out.alloc (.cells #[.int .i64 (sF : Int), .int .i64 y, .int .i64 (sT : Int)] 49))
        go_wp2_with fail
        refine (HH.out _ BX.out).mono ?_
        rintro e w3 ⟨rfl, rfl⟩
        go_wp2_with fail
        go_roundw
        case rel => exact ⟨k + 1, len, _, T, by omega, by go_num, rfl, HO2.out, HT2.out, by omega, BX.out, VA1.out, VP1.out⟩
        case measure => simp [intOf]; omega
      | true =>
        have HT2 : Hid (T ++ [(pF, y, pT)] = betweenOf kept pl (steps.take (k + 1))) := by
          have := HST.out
          simp only [if_true] at this
          exact this.symm
        have hps := HVP.out.lt
        have OR : Hid ((((wr.alloc (.cells #[.int .i64 (sF : Int), .int .i64 y, .int .i64 (sT : Int)] 49)).alloc (.cells #[.int .i64 pF, .int .i64 y, .int .i64 pT] 49)).drew).ownsRow (w.heap.size + 2) 49 3 v0 len (flat T)) := (((HO.out.alloc (.cells #[.int .i64 (sF : Int), .int .i64 y, .int .i64 (sT : Int)] 49)).alloc (.cells #[.int .i64 pF, .int .i64 y, .int .i64 pT] 49)).below (Below.refl _ _).drew)
        have HH2 : Hid ((((wr.alloc (.cells #[.int .i64 (sF : Int), .int .i64 y, .int .i64 (sT : Int)] 49)).alloc (.cells #[.int .i64 pF, .int .i64 y, .int .i64 pT] 49)).drew).heap.size = wr.heap.size + 1 + 1) := by
          unfold Hid
          simp
        have hbs : Hid (w.heap.size + 2 ≤ (((wr.alloc (.cells #[.int .i64 (sF : Int), .int .i64 y, .int .i64 (sT : Int)] 49)).alloc (.cells #[.int .i64 pF, .int .i64 y, .int .i64 pT] 49)).drew).heap.size) := by
          rw [HH2.out]
          unfold Hid
          omega
        have SN : Hid (∀ j u, (flat [(pF, y, pT)])[j]? = some u → (((wr.alloc (.cells #[.int .i64 (sF : Int), .int .i64 y, .int .i64 (sT : Int)] 49)).alloc (.cells #[.int .i64 pF, .int .i64 y, .int .i64 pT] 49)).drew).cell? ((⟨wr.heap.size + 1, 0, none⟩ : Addr).add j) = some u) := fun j u hu => by
          have hv : VarIs (((wr.alloc (.cells #[.int .i64 (sF : Int), .int .i64 y, .int .i64 (sT : Int)] 49)).alloc (.cells #[.int .i64 pF, .int .i64 y, .int .i64 pT] 49)).drew) (wr.heap.size + 1) #[.int .i64 pF, .int .i64 y, .int .i64 pT] 49 := (VarIs.new (wr.alloc (.cells #[.int .i64 (sF : Int), .int .i64 y, .int .i64 (sT : Int)] 49)) #[.int .i64 pF, .int .i64 y, .int .i64 pT] 49 (by simp)).drew
          rw [add_lit, Nat.zero_add]
          exact hv.cell (by simpa [flat, stCells] using hu)
        have XN : Hid (VarIs (((wr.alloc (.cells #[.int .i64 (sF : Int), .int .i64 y, .int .i64 (sT : Int)] 49)).alloc (.cells #[.int .i64 pF, .int .i64 y, .int .i64 pT] 49)).drew) wr.heap.size #[.int .i64 (sF : Int), .int .i64 y, .int .i64 (sT : Int)] 49) := ((VarIs.new wr #[.int .i64 (sF : Int), .int .i64 y, .int .i64 (sT : Int)] 49 rfl).alloc _).drew
        have PN : Hid (VarIs (((wr.alloc (.cells #[.int .i64 (sF : Int), .int .i64 y, .int .i64 (sT : Int)] 49)).alloc (.cells #[.int .i64 pF, .int .i64 y, .int .i64 pT] 49)).drew) (w.heap.size + 1) P 65) := (((HVP.out.alloc _).alloc _).drew)
        have AN : Hid (VarIs (((wr.alloc (.cells #[.int .i64 (sF : Int), .int .i64 y, .int .i64 (sT : Int)] 49)).alloc (.cells #[.int .i64 pF, .int .i64 y, .int .i64 pT] 49)).drew) w.heap.size #[.int .i64 st, .int .i64 it, v2, v3, v4, .slice (some ⟨b, off, none⟩) n5 c5] 30) := (((HVA.out.alloc _).alloc _).drew)
        have rlt : ∀ q, v0.ownBlock = some q → w.heap.size + 2 ≤ q ∧ q < wr.heap.size := fun q hq => HO.out.lt q hq
        have XK : Hid (∀ w', World.grownBy (((wr.alloc (.cells #[.int .i64 (sF : Int), .int .i64 y, .int .i64 (sT : Int)] 49)).alloc (.cells #[.int .i64 pF, .int .i64 y, .int .i64 pT] 49)).drew) w' v0.ownBlock → VarIs w' wr.heap.size #[.int .i64 (sF : Int), .int .i64 y, .int .i64 (sT : Int)] 49 ∧ VarIs w' (w.heap.size + 1) P 65 ∧ w'.cell? ⟨wr.heap.size, 0, none⟩ = some (.int .i64 (sF : Int)) ∧ w'.cell? ⟨wr.heap.size, 1, none⟩ = some (.int .i64 y) ∧ w'.cell? ⟨wr.heap.size, 2, none⟩ = some (.int .i64 (sT : Int)) ∧ w'.cell? ⟨(w.heap.size + 1), sF, none⟩ = some (.int .i64 pF) ∧ w'.cell? ⟨(w.heap.size + 1), sT, none⟩ = some (.int .i64 pT)) := fun w' hg => by
          have hx := XN.out.grown hg (fun e => by have := (rlt _ e.symm).2; omega)
          have hp := PN.out.grown hg (fun e => by have := (rlt _ e.symm).1; omega)
          exact ⟨hx, hp, hx.cell rfl, hx.cell rfl, hx.cell rfl, hp.cell CF.out, hp.cell CT.out⟩
        have AK : Hid (∀ w', World.grownBy (((wr.alloc (.cells #[.int .i64 (sF : Int), .int .i64 y, .int .i64 (sT : Int)] 49)).alloc (.cells #[.int .i64 pF, .int .i64 y, .int .i64 pT] 49)).drew) w' v0.ownBlock → VarIs w' w.heap.size #[.int .i64 st, .int .i64 it, v2, v3, v4, .slice (some ⟨b, off, none⟩) n5 c5] 30) := fun w' hg => AN.out.grown hg (fun e => by have := (rlt _ e.symm).1; omega)
        have BELOW : Hid (∀ w', World.grownBy (((wr.alloc (.cells #[.int .i64 (sF : Int), .int .i64 y, .int .i64 (sT : Int)] 49)).alloc (.cells #[.int .i64 pF, .int .i64 y, .int .i64 pT] 49)).drew) w' v0.ownBlock → Below w.heap.size w w') := fun w' hg => Below.grown (((HB.out.alloc HB.out.size _).alloc (by simp; omega) _).drew) hg (by rw [HH2.out]; omega) (fun q hq => by have := (rlt q hq).1; omega)
        have X0 := (VarIs.new wr #[.int .i64 (sF : Int), .int .i64 y, .int .i64 (sT : Int)] 49 rfl).drew
        have P0 := VP1.out.drew
        have S0 : VarIs (wr.alloc (.cells #[.int .i64 (sF : Int), .int .i64 y, .int .i64 (sT : Int)] 49)).drew wr.heap.size #[.int .i64 (sF : Int), .int .i64 y, .int .i64 (sT : Int)] 49 ∧ VarIs (wr.alloc (.cells #[.int .i64 (sF : Int), .int .i64 y, .int .i64 (sT : Int)] 49)).drew (w.heap.size + 1) P 65 ∧ (wr.alloc (.cells #[.int .i64 (sF : Int), .int .i64 y, .int .i64 (sT : Int)] 49)).drew.cell? ⟨wr.heap.size, 0, none⟩ = some (.int .i64 (sF : Int)) ∧ (wr.alloc (.cells #[.int .i64 (sF : Int), .int .i64 y, .int .i64 (sT : Int)] 49)).drew.cell? ⟨wr.heap.size, 1, none⟩ = some (.int .i64 y) ∧ (wr.alloc (.cells #[.int .i64 (sF : Int), .int .i64 y, .int .i64 (sT : Int)] 49)).drew.cell? ⟨wr.heap.size, 2, none⟩ = some (.int .i64 (sT : Int)) ∧ (wr.alloc (.cells #[.int .i64 (sF : Int), .int .i64 y, .int .i64 (sT : Int)] 49)).drew.cell? ⟨(w.heap.size + 1), sF, none⟩ = some (.int .i64 pF) ∧ (wr.alloc (.cells #[.int .i64 (sF : Int), .int .i64 y, .int .i64 (sT : Int)] 49)).drew.cell? ⟨(w.heap.size + 1), sT, none⟩ = some (.int .i64 pT) := ⟨X0, P0, X0.cell rfl, X0.cell rfl, X0.cell rfl, P0.cell CF.out, P0.cell CT.out⟩
        have SW : Hid (VarIs ((wr.alloc (.cells #[.int .i64 (sF : Int), .int .i64 y, .int .i64 (sT : Int)] 49)).alloc (.cells #[.int .i64 pF, .int .i64 y, .int .i64 pT] 49)).drew wr.heap.size #[.int .i64 (sF : Int), .int .i64 y, .int .i64 (sT : Int)] 49 ∧ VarIs ((wr.alloc (.cells #[.int .i64 (sF : Int), .int .i64 y, .int .i64 (sT : Int)] 49)).alloc (.cells #[.int .i64 pF, .int .i64 y, .int .i64 pT] 49)).drew (w.heap.size + 1) P 65 ∧ ((wr.alloc (.cells #[.int .i64 (sF : Int), .int .i64 y, .int .i64 (sT : Int)] 49)).alloc (.cells #[.int .i64 pF, .int .i64 y, .int .i64 pT] 49)).drew.cell? ⟨wr.heap.size, 0, none⟩ = some (.int .i64 (sF : Int)) ∧ ((wr.alloc (.cells #[.int .i64 (sF : Int), .int .i64 y, .int .i64 (sT : Int)] 49)).alloc (.cells #[.int .i64 pF, .int .i64 y, .int .i64 pT] 49)).drew.cell? ⟨wr.heap.size, 1, none⟩ = some (.int .i64 y) ∧ ((wr.alloc (.cells #[.int .i64 (sF : Int), .int .i64 y, .int .i64 (sT : Int)] 49)).alloc (.cells #[.int .i64 pF, .int .i64 y, .int .i64 pT] 49)).drew.cell? ⟨wr.heap.size, 2, none⟩ = some (.int .i64 (sT : Int)) ∧ ((wr.alloc (.cells #[.int .i64 (sF : Int), .int .i64 y, .int .i64 (sT : Int)] 49)).alloc (.cells #[.int .i64 pF, .int .i64 y, .int .i64 pT] 49)).drew.cell? ⟨(w.heap.size + 1), sF, none⟩ = some (.int .i64 pF) ∧ ((wr.alloc (.cells #[.int .i64 (sF : Int), .int .i64 y, .int .i64 (sT : Int)] 49)).alloc (.cells #[.int .i64 pF, .int .i64 y, .int .i64 pT] 49)).drew.cell? ⟨(w.heap.size + 1), sT, none⟩ = some (.int .i64 pT)) := ⟨XN.out, PN.out, XN.out.cell rfl, XN.out.cell rfl, XN.out.cell rfl, PN.out.cell CF.out, PN.out.cell CT.out⟩
        clear X0 P0
        go_wp2_with fail
        refine (HH.out _ BX.out).mono ?_
        rintro e w3 ⟨rfl, rfl⟩
        go_wp2_with fail
        clear g0 g1 g2 kb kx
        refine wp_region_held_drew (S := fun w' => VarIs w' wr.heap.size #[.int .i64 (sF : Int), .int .i64 y, .int .i64 (sT : Int)] 49 ∧ VarIs w' (w.heap.size + 1) P 65 ∧ w'.cell? ⟨wr.heap.size, 0, none⟩ = some (.int .i64 (sF : Int)) ∧ w'.cell? ⟨wr.heap.size, 1, none⟩ = some (.int .i64 y) ∧ w'.cell? ⟨wr.heap.size, 2, none⟩ = some (.int .i64 (sT : Int)) ∧ w'.cell? ⟨(w.heap.size + 1), sF, none⟩ = some (.int .i64 pF) ∧ w'.cell? ⟨(w.heap.size + 1), sT, none⟩ = some (.int .i64 pT)) (by kernel_rfl) S0 (fun hHeld => ?_)
        change wpAnyH _ _ _ _ _ 15 (Array.replicate 15 false) _ _
        refine take_op 0 21 (v0) (fuel := 14) rfl rfl (by kernel_rfl) (by kernel_rfl) (by kernel_rfl) (fun _ _ _ h => h) (by rfl) (fun w hSw => by go_simp) hHeld ?_
        simp only [Act.put, List.setIfInBounds_toArray, List.set_cons_zero, List.set_cons_succ]
        refine take_op 1 22 (.pointer (some ⟨wr.heap.size, 0, none⟩)) (fuel := 13) rfl rfl (by kernel_rfl) (by kernel_rfl) (by kernel_rfl) (fun _ _ _ h => h) (by rfl) (fun w hSw => by go_simp) hHeld ?_
        simp only [Act.put, List.setIfInBounds_toArray, List.set_cons_zero, List.set_cons_succ]
        refine take_op 2 23 (.int .i64 (sF : Int)) (fuel := 12) rfl rfl (by kernel_rfl) (by kernel_rfl) (by kernel_rfl) (fun _ _ _ h => h) (by rfl) (fun w hSw => by go_simp) hHeld ?_
        simp only [Act.put, List.setIfInBounds_toArray, List.set_cons_zero, List.set_cons_succ]
        refine take_op 3 24 (.pointer (some ⟨(w.heap.size + 1), sF, none⟩)) (fuel := 11) rfl rfl (by kernel_rfl) (by kernel_rfl) (by kernel_rfl) (fun _ _ _ h => h) (by rfl) (fun w hSw => by go_simp) hHeld ?_
        simp only [Act.put, List.setIfInBounds_toArray, List.set_cons_zero, List.set_cons_succ]
        refine take_op 4 25 (.int .i64 pF) (fuel := 10) rfl rfl (by kernel_rfl) (by kernel_rfl) (by kernel_rfl) (fun _ _ _ h => h) (by rfl) (fun w hSw => by go_simp) hHeld ?_
        simp only [Act.put, List.setIfInBounds_toArray, List.set_cons_zero, List.set_cons_succ]
        refine take_op 5 26 (.pointer (some ⟨wr.heap.size, 1, none⟩)) (fuel := 9) rfl rfl (by kernel_rfl) (by kernel_rfl) (by kernel_rfl) (fun _ _ _ h => h) (by rfl) (fun w hSw => by go_simp) hHeld ?_
        simp only [Act.put, List.setIfInBounds_toArray, List.set_cons_zero, List.set_cons_succ]
        refine take_op 6 27 (.int .i64 y) (fuel := 8) rfl rfl (by kernel_rfl) (by kernel_rfl) (by kernel_rfl) (fun _ _ _ h => h) (by rfl) (fun w hSw => by go_simp) hHeld ?_
        simp only [Act.put, List.setIfInBounds_toArray, List.set_cons_zero, List.set_cons_succ]
        refine take_op 7 28 (.pointer (some ⟨wr.heap.size, 2, none⟩)) (fuel := 7) rfl rfl (by kernel_rfl) (by kernel_rfl) (by kernel_rfl) (fun _ _ _ h => h) (by rfl) (fun w hSw => by go_simp) hHeld ?_
        simp only [Act.put, List.setIfInBounds_toArray, List.set_cons_zero, List.set_cons_succ]
        refine take_op 8 29 (.int .i64 (sT : Int)) (fuel := 6) rfl rfl (by kernel_rfl) (by kernel_rfl) (by kernel_rfl) (fun _ _ _ h => h) (by rfl) (fun w hSw => by go_simp) hHeld ?_
        simp only [Act.put, List.setIfInBounds_toArray, List.set_cons_zero, List.set_cons_succ]
        refine take_op 9 30 (.pointer (some ⟨(w.heap.size + 1), sT, none⟩)) (fuel := 5) rfl rfl (by kernel_rfl) (by kernel_rfl) (by kernel_rfl) (fun _ _ _ h => h) (by rfl) (fun w hSw => by go_simp) hHeld ?_
        simp only [Act.put, List.setIfInBounds_toArray, List.set_cons_zero, List.set_cons_succ]
        refine take_op 10 31 (.int .i64 pT) (fuel := 4) rfl rfl (by kernel_rfl) (by kernel_rfl) (by kernel_rfl) (fun _ _ _ h => h) (by rfl) (fun w hSw => by go_simp) hHeld ?_
        simp only [Act.put, List.setIfInBounds_toArray, List.set_cons_zero, List.set_cons_succ]
        refine take_op 11 32 (.agg #[.int .i64 pF, .int .i64 y, .int .i64 pT]) (fuel := 3) rfl rfl (by kernel_rfl) (by kernel_rfl) (by kernel_rfl) (fun _ _ _ h => h) (by rfl) (fun w hSw => by go_simp) hHeld ?_
        simp only [Act.put, List.setIfInBounds_toArray, List.set_cons_zero, List.set_cons_succ]

        refine wpAnyH_ready (rs := [12]) (fuel := 2) (by kernel_rfl) (by simp) ?_
        refine AllReadyH.cons rfl (fun K hK => ?_) AllReadyH.nil
        go_simp
        refine hK.out _ _ SW.out (fun hHeld => ?_)
        clear hK K S0
        refine wpAnyH_ready (rs := [13]) (fuel := 1) (by kernel_rfl) (by simp) ?_
        refine AllReadyH.cons rfl (fun K hK => ?_) AllReadyH.nil
        refine step_append_lies _ rfl (.tmp 21) (.tmp 33) 28 rfl (w.heap.size + 2) 49 i0 (.agg #[.int .i64 0, .int .i64 0, .int .i64 0]) 3 24 Try.underlying28 hi0 hz0 hz1 hz2 rfl (by decide) v0 len (flat T) rfl OR.out ⟨wr.heap.size + 1, 0, none⟩ 1 1 (flat [(pF, y, pT)]) rfl rfl SN.out (flat_one _) (by decide) (by unfold maxLen; omega) (by omega) hbs.out (wr.heap.size + 1 + 1) HH2.out ?_
        intro g cap w4 hown' hgrow hlies hlt'
        have HS1 := XK.out w4 hgrow
        have HO1 : Hid (OwnsS 49 w4 (w.heap.size + 2) (.slice (some ⟨g, 0, none⟩) (len + 1) cap) (len + 1) (T ++ [(pF, y, pT)])) := by
          unfold Hid OwnsS
          rw [flat_append]
          exact hown'
        have VA4 := Lib.hid (AK.out w4 hgrow)
        have VP4 := Lib.hid HS1.2.1
        have B4 := Lib.hid (BELOW.out w4 hgrow)
        clear hown' hgrow hlies hlt'
        refine hK.out _ _ HS1 (fun hHeld => ?_)
        clear hK K
        simp only [Act.put, List.setIfInBounds_toArray]
        refine wpAnyH_ready (rs := [14]) (fuel := 0) (by kernel_rfl) (by simp) ?_
        refine AllReadyH.cons rfl (fun K hK => ?_) AllReadyH.nil
        go_simp
        refine hK.out _ _ HS1 (fun hHeld2 => ?_)
        clear hK K HS1 hHeld hHeld2
        refine wpAnyH_done (by kernel_rfl) ?_ _
        go_wp2_with fail
        go_roundw
        case rel => exact ⟨k + 1, len + 1, _, T ++ [(pF, y, pT)], by omega, by go_num, rfl, HO1.out, HT2.out, by omega, B4.out, VA4.out, VP4.out⟩
        case measure => simp [intOf]; omega
    · have HE : Hid (T = betweenOf kept pl steps) := by
        have := HT.out
        rw [List.take_of_length_le (by rw [HL5.out]; omega)] at this
        exact this
      go_wp2_with fail
      go_ret
      have e := HO.out.length
      rw [← HE.out]
      subst e
      exact ⟨_, rfl, HO.out.mono (by omega), HB.out⟩

end Go.Proofs.Ytodkahdnkpibiaa
