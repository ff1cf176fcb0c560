/-
  The contract of the model's l02Step, as far as the draws need it: what comes back is a row of steps of the call's own, at most one longer. Conditions: the slice is nil or a row of the call's own, of at most 2^20 steps.
-/
import Derived.Test.YtfhjhfhfbgddeaaGreatDoorSpecStep
import Derived.Test.YtfhjhfhfbgddeaaGreatDoorIaSteps
import Derived.Test.YtfhjhfhfbgddeaaGreatDoorIaLaw
import Derived.Deep.RegionHeld3
namespace Go.Proofs.YtfhjhfhfbgddeaaGreatDoor
open Go.RowKit

theorem src_takeS {w w' : World} {g n k c : Nat} {ss : List St} (hc : ∀ j s, ss[j]? = some s → w.cell? ⟨g, j * 3, none⟩ = some (.int .i64 s.1) ∧ w.cell? ⟨g, j * 3 + 1, none⟩ = some (.int .i64 s.2.1) ∧ w.cell? ⟨g, j * 3 + 2, none⟩ = some (.int .i64 s.2.2)) (hg : g < w.heap.size) (hl : ss.length = n) (hk : k ≤ n) (hb : Below w.heap.size w w') :
    SrcS w' (some ⟨g, 0, none⟩) k c (ss.take k) := by
  refine srcS_of (by simp; omega) (fun j s hs => ?_)
  have h1 : ss[j]? = some s := by
    rw [List.getElem?_take] at hs
    split at hs
    · exact hs
    · cases hs
  obtain ⟨c0, c1, c2⟩ := hc j s h1
  simp only [Nat.zero_add]
  exact ⟨(hb.cell (p := ⟨g, j * 3, none⟩) hg).trans c0, (hb.cell (p := ⟨g, j * 3 + 1, none⟩) hg).trans c1, (hb.cell (p := ⟨g, j * 3 + 2, none⟩) hg).trans c2⟩

theorem src_dropS {w w' : World} {g n k c c' : Nat} {ss : List St} {ao : Option Addr} (hc : ∀ j s, ss[j]? = some s → w.cell? ⟨g, j * 3, none⟩ = some (.int .i64 s.1) ∧ w.cell? ⟨g, j * 3 + 1, none⟩ = some (.int .i64 s.2.1) ∧ w.cell? ⟨g, j * 3 + 2, none⟩ = some (.int .i64 s.2.2)) (hg : g < w.heap.size) (hl : ss.length = n) (hnc : n ≤ c) (hk : k ≤ n) (hb : Below w.heap.size w w')
    (hao : ¬ c = k → ao = some ⟨g, k * 3, none⟩) (hne : ∃ ad, ao = some ad) : SrcS w' ao (n - k) c' (ss.drop k) := by
  by_cases e : k = n
  · obtain ⟨ad, rfl⟩ := hne
    have e1 : n - k = 0 := by omega
    have e2 : ss.drop k = [] := List.drop_eq_nil_of_le (by omega)
    rw [e1, e2]; exact SrcS.empty _ _ _
  · rw [hao (by omega)]
    refine srcS_of (by simp; omega) (fun j s hs => ?_)
    rw [List.getElem?_drop] at hs
    obtain ⟨c0, c1, c2⟩ := hc (k + j) s hs
    have e : k * 3 + j * 3 = (k + j) * 3 := by omega
    rw [e]
    exact ⟨(hb.cell (p := ⟨g, (k + j) * 3, none⟩) hg).trans c0, (hb.cell (p := ⟨g, (k + j) * 3 + 1, none⟩) hg).trans c1, (hb.cell (p := ⟨g, (k + j) * 3 + 2, none⟩) hg).trans c2⟩

theorem srcS_box (w : World) (x y z : Int) : SrcS (w.alloc (.cells #[.int .i64 x, .int .i64 y, .int .i64 z] 47)) (some ⟨w.heap.size, 0, none⟩) 1 1 [(x, y, z)] := by
  have hv : VarIs (w.alloc (.cells #[.int .i64 x, .int .i64 y, .int .i64 z] 47)) w.heap.size #[.int .i64 x, .int .i64 y, .int .i64 z] 47 := VarIs.new w _ _ rfl
  refine srcS_of rfl (fun j s hs => ?_)
  obtain ⟨hj, rfl⟩ := List.getElem?_eq_some_iff.1 hs
  obtain rfl : j = 0 := by simpa using hj
  exact ⟨hv.cell rfl, hv.cell rfl, hv.cell rfl⟩

theorem ownsS_none (w : World) : OwnsS 47 (w.alloc (.cells #[] 47)) w.heap.size (.slice (some ⟨w.heap.size, 0, none⟩) 0 0) 0 [] := by
  have := World.ownsRow_lit (base := w.heap.size) (e := 47) (size := 3) w #[] 0 (Nat.le_refl _) (by unfold maxLen; omega) rfl
  simpa [OwnsS, flat] using this

/-- A step of numbers that are not too great. -/
def Near (s : St) : Prop := (-1099511627776 ≤ s.1 ∧ s.1 ≤ 1099511627776) ∧ (-1099511627776 ≤ s.2.1 ∧ s.2.1 ≤ 1099511627776) ∧ (-1099511627776 ≤ s.2.2 ∧ s.2.2 ≤ 1099511627776)

/-- What l02Step leaves. -/
def StepPut (w : World) (base n : Nat) (e : Ending) (w' : World) : Prop :=
  ∃ v' n' ss', e = .returned v' ∧ OwnsS 47 w' base v' n' ss' ∧ (∀ s ∈ ss', Near s) ∧ n' ≤ n + 1 ∧ Below w.heap.size w w'

theorem near_put {ss : List St} {t : St} {k : Nat} (h : ∀ s ∈ ss, Near s) (ht : Near t) : ∀ s ∈ ss.take k ++ [t] ++ ss.drop k, Near s := by
  intro s hs
  simp only [List.mem_append, List.mem_cons, List.not_mem_nil, or_false] at hs
  rcases hs with (hs | rfl) | hs
  · exact h s (List.mem_of_mem_take hs)
  · exact ht
  · exact h s (List.mem_of_mem_drop hs)

set_option maxRecDepth 20000 in
set_option maxHeartbeats 3200000 in
theorem stepPut_nil (x y z : Int) (base : Nat) (w : World) (HT : Hid (Near (x, y, z))) (hbase : base ≤ w.heap.size) :
    Calls Tryz.prog 68 #[.slice none 0 0, .agg #[.int .i64 x, .int .i64 y, .int .i64 z]] w (StepPut w base 0) := by
  obtain ⟨i0, hi0, hz0, hz1, hz2⟩ := info_parts (show (Tryz.prog.info? 47).map (fun i => (i.zero, i.size, i.bytes)) = some (some (.agg #[.int .i64 0, .int .i64 0, .int .i64 0]), 3, 24) by kernel_rfl)
  have V0 : Hid (VarIs (w.alloc (.cells #[.int .i64 x, .int .i64 y, .int .i64 z] 47)) w.heap.size #[.int .i64 x, .int .i64 y, .int .i64 z] 47) := VarIs.new w _ _ rfl
  have A0 : Hid (Below w.heap.size w (w.alloc (.cells #[.int .i64 x, .int .i64 y, .int .i64 z] 47))) := (Below.refl _ w).alloc (Nat.le_refl _) _
  go_enter Tryz.func68, Tryz.ntmps68
  go_wp2_with fail
  go_loopw [5] (fun i wr => i = .int .i64 0 ∧ Hid (Below w.heap.size w wr) ∧ Hid (VarIs wr w.heap.size #[.int .i64 x, .int .i64 y, .int .i64 z] 47)) (fun _ _ => 0)
  case atStart => exact ⟨rfl, A0.out, V0.out⟩
  case round =>
    obtain ⟨rfl, HB, HV⟩ := hrel
    clear A0 V0
    go_wp2_with fail
    go_quiet (fail)
    have HBQ0 := Lib.hid (below_drewN HB.out nq)
    have HVQ0 : Hid (VarIs (wr.drewN nq) w.heap.size #[.int .i64 x, .int .i64 y, .int .i64 z] 47) := HV.out
    generalize wr.drewN nq = wq0 at HBQ0 HVQ0 ⊢
    go_wp2_with fail
    go_quiet (fail)
    have HBQ1 := Lib.hid (below_drewN HBQ0.out nq)
    have HVQ1 : Hid (VarIs (wq0.drewN nq) w.heap.size #[.int .i64 x, .int .i64 y, .int .i64 z] 47) := HVQ0.out
    generalize wq0.drewN nq = wq1 at HBQ1 HVQ1 ⊢
    have BS := HBQ1.out.size
    have T0 : OwnsS 47 (wq1.alloc (.cells #[] 47)) wq1.heap.size (.slice (some ⟨wq1.heap.size, 0, none⟩) 0 0) 0 [] := ownsS_none wq1
    have B0 : Below wq1.heap.size wq1 (wq1.alloc (.cells #[] 47)) := (Below.refl _ wq1).alloc (Nat.le_refl _) _
    have S0 := SrcS.nil (wq1.alloc (.cells #[] 47))
    go_wp2_with (at_builtin; refine wpList_appS rfl (.tmp 35) (.tmp 38) _ _ rfl wq1.heap.size i0 Tryz.underlying25 hi0 hz0 hz1 hz2 _ _ _ rfl T0 _ 0 _ [] rfl S0 (by omega) (by simp) ?_)
    rintro v1 w1 ⟨hown1, hgrow1, hnil1⟩
    have hb1 : Below wq1.heap.size wq1 w1 := T0.grown B0 hgrow1 (Nat.le_refl _) (by simp)
    have V1 := HVQ1.out.below hb1
    have k0 := V1.cell (j := 0) rfl
    have k1 := V1.cell (j := 1) rfl
    have k2 := V1.cell (j := 2) rfl
    have T1 := hown1.alloc (.cells #[.int .i64 x, .int .i64 y, .int .i64 z] 47)
    have S1 : SrcS (w1.alloc (.cells #[.int .i64 x, .int .i64 y, .int .i64 z] 47)) (some ⟨w1.heap.size, 0, none⟩) 1 1 [(x, y, z)] := srcS_box w1 x y z
    clear hnil1 hgrow1 T0 S0 B0
    go_wp2_with (at_builtin; refine wpList_appS rfl (.tmp 40) (.tmp 42) _ _ rfl wq1.heap.size i0 Tryz.underlying25 hi0 hz0 hz1 hz2 _ _ _ rfl T1 _ 1 _ [(x, y, z)] rfl S1 (by omega) (by have := hb1.size; simp; omega) ?_)
    rintro v2 w2 ⟨hown2, hgrow2, hnil2⟩
    have hb2 : Below wq1.heap.size wq1 w2 := T1.grown (hb1.alloc hb1.size _) hgrow2 (Nat.le_refl _) (by have := hb1.size; simp; omega)
    clear hnil2 hgrow2 T1 S1 hown1 k0 k1 k2 V1
    go_wp2_with (at_builtin; refine wpList_appS rfl (.tmp 44) (.tmp 47) _ _ rfl wq1.heap.size i0 Tryz.underlying25 hi0 hz0 hz1 hz2 _ _ _ rfl hown2 _ 0 _ [] rfl (SrcS.nil _) (by omega) hb2.size ?_)
    all_goals
      rintro v3 w3 ⟨hown3, hgrow3, hnil3⟩
      have hb3 : Below wq1.heap.size wq1 w3 := hown2.grown hb2 hgrow3 (Nat.le_refl _) hb2.size
      clear hnil3 hgrow3 hown2
      obtain ⟨a3, c3, rfl⟩ := hown3.form
      go_wp2
      go_ret
      exact ⟨_, _, _, rfl, hown3.mono (Nat.le_trans hbase BS), (near_put (k := 0) (ss := []) (by simp) HT.out), by omega, HBQ1.out.trans (hb3.mono BS)⟩

set_option maxRecDepth 20000 in
set_option maxHeartbeats 6400000 in
theorem stepPut_some (g n c : Nat) (ss : List St) (x y z : Int) (base : Nat) (w : World) (h : OwnsS 47 w base (.slice (some ⟨g, 0, none⟩) n c) n ss) (HT : Hid (Near (x, y, z))) (HS : Hid (∀ s ∈ ss, Near s)) (hn : n ≤ 1048576) (hbase : base ≤ w.heap.size) :
    Calls Tryz.prog 68 #[.slice (some ⟨g, 0, none⟩) n c, .agg #[.int .i64 x, .int .i64 y, .int .i64 z]] w (StepPut w base n) := by
  obtain ⟨i0, hi0, hz0, hz1, hz2⟩ := info_parts (show (Tryz.prog.info? 47).map (fun i => (i.zero, i.size, i.bytes)) = some (some (.agg #[.int .i64 0, .int .i64 0, .int .i64 0]), 3, 24) by kernel_rfl)
  have HL := Lib.hid h.length
  obtain ⟨_, hnc, hcm, hr⟩ := h.row
  obtain ⟨hg, hcl⟩ := h.cells
  have HO := Lib.hid h
  have HC := Lib.hid hcl
  clear h hr hcl
  unfold maxLen at hcm
  have V0 : Hid (VarIs (w.alloc (.cells #[.int .i64 x, .int .i64 y, .int .i64 z] 47)) w.heap.size #[.int .i64 x, .int .i64 y, .int .i64 z] 47) := VarIs.new w _ _ rfl
  have A0 : Hid (Below w.heap.size w (w.alloc (.cells #[.int .i64 x, .int .i64 y, .int .i64 z] 47))) := (Below.refl _ w).alloc (Nat.le_refl _) _
  go_enter Tryz.func68, Tryz.ntmps68
  go_wp2_with fail
  go_loopw [5] (fun i wr => ∃ k : Nat, k ≤ n ∧ i = .int .i64 k ∧ Hid (Below w.heap.size w wr) ∧ Hid (VarIs wr w.heap.size #[.int .i64 x, .int .i64 y, .int .i64 z] 47)) (fun i _ => n - (intOf i).toNat)
  case atStart => exact ⟨0, Nat.zero_le _, rfl, A0.out, V0.out⟩
  case round =>
    obtain ⟨k, hk, rfl, HB, HV⟩ := hrel
    clear A0 V0
    by_cases hlt : k < n
    · have hkx : k < ss.length := by rw [HL.out]; exact hlt
      obtain ⟨s, hs⟩ : ∃ s, s = ss[k] := ⟨_, rfl⟩
      obtain ⟨c0, c1, c2'⟩ := HC.out k ss[k] (List.getElem?_eq_getElem hkx)
      rw [← hs] at c0 c1 c2'
      have hnx := HB.out
      have k0 := (hnx.cell (p := ⟨g, k * 3, none⟩) hg).trans c0
      have k1 := (hnx.cell (p := ⟨g, k * 3 + 1, none⟩) hg).trans c1
      have k2 := (hnx.cell (p := ⟨g, k * 3 + 2, none⟩) hg).trans c2'
      have HN : Near s := by rw [hs]; exact HS.out _ (List.getElem_mem hkx)
      obtain ⟨x', y', z'⟩ := s
      simp only at k0 k1 k2
      have l0 := HV.out.cell (j := 0) rfl
      have l1 := HV.out.cell (j := 1) rfl
      have l2 := HV.out.cell (j := 2) rfl
      have i1 : (0 : Int) ≤ (k : Int) := by omega
      have i2 : (k : Int) < (n : Int) := by omega
      clear c0 c1 c2' hs
      obtain ⟨d, hd⟩ : ∃ d, d = cmpOf (x', y', z') (x, y, z) := ⟨_, rfl⟩
      have HEQ : Hid (∀ W, Calls Tryz.prog 25 #[.agg #[.int .i64 x', .int .i64 y', .int .i64 z'], .agg #[.int .i64 x, .int .i64 y, .int .i64 z]] W fun e w' => e = .returned (.int .i64 d) ∧ Below W.heap.size W w') := fun W => by
        rw [hd]
        exact cmp_any x' y' z' x y z W HN.1 HN.2.1 HN.2.2 HT.out.1 HT.out.2.1 HT.out.2.2
      clear hd HN
      by_cases hd0 : d < 0
      · go_wp2
        go_region_held3 (fun w' => Below w.heap.size w w' ∧ VarIs w' w.heap.size #[.int .i64 x, .int .i64 y, .int .i64 z] 47 ∧ w'.cell? ⟨g, k * 3, none⟩ = some (.int .i64 x') ∧ w'.cell? ⟨g, k * 3 + 1, none⟩ = some (.int .i64 y') ∧ w'.cell? ⟨g, k * 3 + 2, none⟩ = some (.int .i64 z') ∧ w'.cell? ⟨w.heap.size, 0, none⟩ = some (.int .i64 x) ∧ w'.cell? ⟨w.heap.size, 1, none⟩ = some (.int .i64 y) ∧ w'.cell? ⟨w.heap.size, 2, none⟩ = some (.int .i64 z))
          (first | (refine ⟨hnx.drew, HV.out.drew, ?_⟩; go_keep) | (exact ⟨hnx.drew.trans (hb'.mono hnx.size), HV.out.drew.below hb', (hb'.cell (p := ⟨g, k * 3, none⟩) (Nat.lt_of_lt_of_le hg hnx.size)).trans k0, (hb'.cell (p := ⟨g, k * 3 + 1, none⟩) (Nat.lt_of_lt_of_le hg hnx.size)).trans k1, (hb'.cell (p := ⟨g, k * 3 + 2, none⟩) (Nat.lt_of_lt_of_le hg hnx.size)).trans k2, (HV.out.drew.below hb').cell rfl, (HV.out.drew.below hb').cell rfl, (HV.out.drew.below hb').cell rfl⟩))
          ((go_at_call 25; refine (HEQ.out _).mono ?_; rintro e w' ⟨rfl, hb'⟩))
        rename_i hH
        have HH := Lib.hid hH.1
        have HH2 := Lib.hid hH.2.1
        clear hH
        go_wp2
        go_roundw
        case rel => exact ⟨k + 1, by omega, by go_num, HH.out, HH2.out⟩
        case measure => simp [intOf]; omega
      · go_wp2
        go_region_held3 (fun w' => Below w.heap.size w w' ∧ VarIs w' w.heap.size #[.int .i64 x, .int .i64 y, .int .i64 z] 47 ∧ w'.cell? ⟨g, k * 3, none⟩ = some (.int .i64 x') ∧ w'.cell? ⟨g, k * 3 + 1, none⟩ = some (.int .i64 y') ∧ w'.cell? ⟨g, k * 3 + 2, none⟩ = some (.int .i64 z') ∧ w'.cell? ⟨w.heap.size, 0, none⟩ = some (.int .i64 x) ∧ w'.cell? ⟨w.heap.size, 1, none⟩ = some (.int .i64 y) ∧ w'.cell? ⟨w.heap.size, 2, none⟩ = some (.int .i64 z))
          (first | (refine ⟨hnx.drew, HV.out.drew, ?_⟩; go_keep) | (exact ⟨hnx.drew.trans (hb'.mono hnx.size), HV.out.drew.below hb', (hb'.cell (p := ⟨g, k * 3, none⟩) (Nat.lt_of_lt_of_le hg hnx.size)).trans k0, (hb'.cell (p := ⟨g, k * 3 + 1, none⟩) (Nat.lt_of_lt_of_le hg hnx.size)).trans k1, (hb'.cell (p := ⟨g, k * 3 + 2, none⟩) (Nat.lt_of_lt_of_le hg hnx.size)).trans k2, (HV.out.drew.below hb').cell rfl, (HV.out.drew.below hb').cell rfl, (HV.out.drew.below hb').cell rfl⟩))
          ((go_at_call 25; refine (HEQ.out _).mono ?_; rintro e w' ⟨rfl, hb'⟩))
        rename_i hH
        have HBQ0 := Lib.hid hH.1
        have HVQ0 := Lib.hid hH.2.1
        obtain ⟨_, _, k0, k1, k2, l0, l1, l2⟩ := hH
        by_cases he : x' = x ∧ y' = y ∧ z' = z
        · obtain ⟨rfl, rfl, rfl⟩ := he
          go_wp2_with fail
          go_quiet (fail)
          go_wp2_with fail
          go_ret
          exact ⟨_, _, _, rfl, HO.out.below (below_drewN HBQ0.out nq), HS.out, by omega, below_drewN HBQ0.out nq⟩
        · by_cases f1 : x' = x
          · obtain rfl := f1.symm
            by_cases f2 : y' = y
            · obtain rfl := f2.symm
              have f3 : ¬ z' = z := fun e => he ⟨rfl, rfl, e⟩
              have g3 : (z' == z) = false := by simp [f3]
              clear he
              go_wp2_with fail
              go_quiet (fail)
              have HBQ1 := Lib.hid (below_drewN HBQ0.out nq)
              have HVQ1 : Hid (VarIs (w'.drewN nq) w.heap.size #[.int .i64 x, .int .i64 y, .int .i64 z] 47) := HVQ0.out
              generalize w'.drewN nq = wq1 at HBQ1 HVQ1 ⊢
              clear k0 k1 k2 l0 l1 l2
              have HCR : Hid (∀ j s, ss[j]? = some s → wq1.cell? ⟨g, j * 3, none⟩ = some (.int .i64 s.1) ∧ wq1.cell? ⟨g, j * 3 + 1, none⟩ = some (.int .i64 s.2.1) ∧ wq1.cell? ⟨g, j * 3 + 2, none⟩ = some (.int .i64 s.2.2)) := (HO.out.below HBQ1.out).cells.2
              have HGR : Hid (g < wq1.heap.size) := (HO.out.below HBQ1.out).cells.1
              have BS := HBQ1.out.size
              have T0 : OwnsS 47 (wq1.alloc (.cells #[] 47)) wq1.heap.size (.slice (some ⟨wq1.heap.size, 0, none⟩) 0 0) 0 [] := ownsS_none wq1
              have B0 : Below wq1.heap.size wq1 (wq1.alloc (.cells #[] 47)) := (Below.refl _ wq1).alloc (Nat.le_refl _) _
              have S0 := src_takeS (c := c) HCR.out HGR.out HL.out hk B0
              have KT : Hid ((ss.take k).length = k) := by unfold Hid; rw [List.length_take, HL.out]; omega
              go_wp2_with (at_builtin; refine wpList_appS rfl (.tmp 35) (.tmp 38) _ _ rfl wq1.heap.size i0 Tryz.underlying25 hi0 hz0 hz1 hz2 _ _ _ rfl T0 _ k _ (ss.take k) rfl S0 (by omega) (by simp) ?_)
              rintro v1 w1 ⟨hown1, hgrow1, hnil1⟩
              have hb1 : Below wq1.heap.size wq1 w1 := T0.grown B0 hgrow1 (Nat.le_refl _) (by simp)
              have V1 := HVQ1.out.below hb1
              have k0 := V1.cell (j := 0) rfl
              have k1 := V1.cell (j := 1) rfl
              have k2 := V1.cell (j := 2) rfl
              have T1 := hown1.alloc (.cells #[.int .i64 x, .int .i64 y, .int .i64 z] 47)
              have S1 : SrcS (w1.alloc (.cells #[.int .i64 x, .int .i64 y, .int .i64 z] 47)) (some ⟨w1.heap.size, 0, none⟩) 1 1 [(x, y, z)] := srcS_box w1 x y z
              clear hnil1 hgrow1 T0 S0 B0
              go_wp2_with (at_builtin; refine wpList_appS rfl (.tmp 40) (.tmp 42) _ _ rfl wq1.heap.size i0 Tryz.underlying25 hi0 hz0 hz1 hz2 _ _ _ rfl T1 _ 1 _ [(x, y, z)] rfl S1 (by omega) (by have := hb1.size; simp; omega) ?_)
              rintro v2 w2 ⟨hown2, hgrow2, hnil2⟩
              have hb2 : Below wq1.heap.size wq1 w2 := T1.grown (hb1.alloc hb1.size _) hgrow2 (Nat.le_refl _) (by have := hb1.size; simp; omega)
              clear hnil2 hgrow2 T1 S1 hown1 k0 k1 k2 V1
              go_wp2_with (at_builtin; refine wpList_appS rfl (.tmp 44) (.tmp 47) _ _ rfl wq1.heap.size i0 Tryz.underlying25 hi0 hz0 hz1 hz2 _ _ _ rfl hown2 _ (n - k) _ (ss.drop k) rfl (src_dropS HCR.out HGR.out HL.out hnc hk hb2 (by intro h; first | rfl | simp [h]) (by first | exact ⟨_, rfl⟩ | (split <;> exact ⟨_, rfl⟩))) (by omega) hb2.size ?_)
              all_goals
                rintro v3 w3 ⟨hown3, hgrow3, hnil3⟩
                have hb3 : Below wq1.heap.size wq1 w3 := hown2.grown hb2 hgrow3 (Nat.le_refl _) hb2.size
                clear hnil3 hgrow3 hown2
                obtain ⟨a3, c3, rfl⟩ := hown3.form
                go_wp2
                go_ret
                exact ⟨_, _, _, rfl, hown3.mono (Nat.le_trans hbase BS), near_put HS.out HT.out, by omega, HBQ1.out.trans (hb3.mono BS)⟩
            · have g2 : (y' == y) = false := by simp [f2]
              clear he
              go_wp2_with fail
              go_quiet (fail)
              have HBQ1 := Lib.hid (below_drewN HBQ0.out nq)
              have HVQ1 : Hid (VarIs (w'.drewN nq) w.heap.size #[.int .i64 x, .int .i64 y, .int .i64 z] 47) := HVQ0.out
              generalize w'.drewN nq = wq1 at HBQ1 HVQ1 ⊢
              clear k0 k1 k2 l0 l1 l2
              have HCR : Hid (∀ j s, ss[j]? = some s → wq1.cell? ⟨g, j * 3, none⟩ = some (.int .i64 s.1) ∧ wq1.cell? ⟨g, j * 3 + 1, none⟩ = some (.int .i64 s.2.1) ∧ wq1.cell? ⟨g, j * 3 + 2, none⟩ = some (.int .i64 s.2.2)) := (HO.out.below HBQ1.out).cells.2
              have HGR : Hid (g < wq1.heap.size) := (HO.out.below HBQ1.out).cells.1
              have BS := HBQ1.out.size
              have T0 : OwnsS 47 (wq1.alloc (.cells #[] 47)) wq1.heap.size (.slice (some ⟨wq1.heap.size, 0, none⟩) 0 0) 0 [] := ownsS_none wq1
              have B0 : Below wq1.heap.size wq1 (wq1.alloc (.cells #[] 47)) := (Below.refl _ wq1).alloc (Nat.le_refl _) _
              have S0 := src_takeS (c := c) HCR.out HGR.out HL.out hk B0
              have KT : Hid ((ss.take k).length = k) := by unfold Hid; rw [List.length_take, HL.out]; omega
              go_wp2_with (at_builtin; refine wpList_appS rfl (.tmp 35) (.tmp 38) _ _ rfl wq1.heap.size i0 Tryz.underlying25 hi0 hz0 hz1 hz2 _ _ _ rfl T0 _ k _ (ss.take k) rfl S0 (by omega) (by simp) ?_)
              rintro v1 w1 ⟨hown1, hgrow1, hnil1⟩
              have hb1 : Below wq1.heap.size wq1 w1 := T0.grown B0 hgrow1 (Nat.le_refl _) (by simp)
              have V1 := HVQ1.out.below hb1
              have k0 := V1.cell (j := 0) rfl
              have k1 := V1.cell (j := 1) rfl
              have k2 := V1.cell (j := 2) rfl
              have T1 := hown1.alloc (.cells #[.int .i64 x, .int .i64 y, .int .i64 z] 47)
              have S1 : SrcS (w1.alloc (.cells #[.int .i64 x, .int .i64 y, .int .i64 z] 47)) (some ⟨w1.heap.size, 0, none⟩) 1 1 [(x, y, z)] := srcS_box w1 x y z
              clear hnil1 hgrow1 T0 S0 B0
              go_wp2_with (at_builtin; refine wpList_appS rfl (.tmp 40) (.tmp 42) _ _ rfl wq1.heap.size i0 Tryz.underlying25 hi0 hz0 hz1 hz2 _ _ _ rfl T1 _ 1 _ [(x, y, z)] rfl S1 (by omega) (by have := hb1.size; simp; omega) ?_)
              rintro v2 w2 ⟨hown2, hgrow2, hnil2⟩
              have hb2 : Below wq1.heap.size wq1 w2 := T1.grown (hb1.alloc hb1.size _) hgrow2 (Nat.le_refl _) (by have := hb1.size; simp; omega)
              clear hnil2 hgrow2 T1 S1 hown1 k0 k1 k2 V1
              go_wp2_with (at_builtin; refine wpList_appS rfl (.tmp 44) (.tmp 47) _ _ rfl wq1.heap.size i0 Tryz.underlying25 hi0 hz0 hz1 hz2 _ _ _ rfl hown2 _ (n - k) _ (ss.drop k) rfl (src_dropS HCR.out HGR.out HL.out hnc hk hb2 (by intro h; first | rfl | simp [h]) (by first | exact ⟨_, rfl⟩ | (split <;> exact ⟨_, rfl⟩))) (by omega) hb2.size ?_)
              all_goals
                rintro v3 w3 ⟨hown3, hgrow3, hnil3⟩
                have hb3 : Below wq1.heap.size wq1 w3 := hown2.grown hb2 hgrow3 (Nat.le_refl _) hb2.size
                clear hnil3 hgrow3 hown2
                obtain ⟨a3, c3, rfl⟩ := hown3.form
                go_wp2
                go_ret
                exact ⟨_, _, _, rfl, hown3.mono (Nat.le_trans hbase BS), near_put HS.out HT.out, by omega, HBQ1.out.trans (hb3.mono BS)⟩
          · have g1 : (x' == x) = false := by simp [f1]
            clear he
            go_wp2_with fail
            go_quiet (fail)
            have HBQ1 := Lib.hid (below_drewN HBQ0.out nq)
            have HVQ1 : Hid (VarIs (w'.drewN nq) w.heap.size #[.int .i64 x, .int .i64 y, .int .i64 z] 47) := HVQ0.out
            generalize w'.drewN nq = wq1 at HBQ1 HVQ1 ⊢
            clear k0 k1 k2 l0 l1 l2
            have HCR : Hid (∀ j s, ss[j]? = some s → wq1.cell? ⟨g, j * 3, none⟩ = some (.int .i64 s.1) ∧ wq1.cell? ⟨g, j * 3 + 1, none⟩ = some (.int .i64 s.2.1) ∧ wq1.cell? ⟨g, j * 3 + 2, none⟩ = some (.int .i64 s.2.2)) := (HO.out.below HBQ1.out).cells.2
            have HGR : Hid (g < wq1.heap.size) := (HO.out.below HBQ1.out).cells.1
            have BS := HBQ1.out.size
            have T0 : OwnsS 47 (wq1.alloc (.cells #[] 47)) wq1.heap.size (.slice (some ⟨wq1.heap.size, 0, none⟩) 0 0) 0 [] := ownsS_none wq1
            have B0 : Below wq1.heap.size wq1 (wq1.alloc (.cells #[] 47)) := (Below.refl _ wq1).alloc (Nat.le_refl _) _
            have S0 := src_takeS (c := c) HCR.out HGR.out HL.out hk B0
            have KT : Hid ((ss.take k).length = k) := by unfold Hid; rw [List.length_take, HL.out]; omega
            go_wp2_with (at_builtin; refine wpList_appS rfl (.tmp 35) (.tmp 38) _ _ rfl wq1.heap.size i0 Tryz.underlying25 hi0 hz0 hz1 hz2 _ _ _ rfl T0 _ k _ (ss.take k) rfl S0 (by omega) (by simp) ?_)
            rintro v1 w1 ⟨hown1, hgrow1, hnil1⟩
            have hb1 : Below wq1.heap.size wq1 w1 := T0.grown B0 hgrow1 (Nat.le_refl _) (by simp)
            have V1 := HVQ1.out.below hb1
            have k0 := V1.cell (j := 0) rfl
            have k1 := V1.cell (j := 1) rfl
            have k2 := V1.cell (j := 2) rfl
            have T1 := hown1.alloc (.cells #[.int .i64 x, .int .i64 y, .int .i64 z] 47)
            have S1 : SrcS (w1.alloc (.cells #[.int .i64 x, .int .i64 y, .int .i64 z] 47)) (some ⟨w1.heap.size, 0, none⟩) 1 1 [(x, y, z)] := srcS_box w1 x y z
            clear hnil1 hgrow1 T0 S0 B0
            go_wp2_with (at_builtin; refine wpList_appS rfl (.tmp 40) (.tmp 42) _ _ rfl wq1.heap.size i0 Tryz.underlying25 hi0 hz0 hz1 hz2 _ _ _ rfl T1 _ 1 _ [(x, y, z)] rfl S1 (by omega) (by have := hb1.size; simp; omega) ?_)
            rintro v2 w2 ⟨hown2, hgrow2, hnil2⟩
            have hb2 : Below wq1.heap.size wq1 w2 := T1.grown (hb1.alloc hb1.size _) hgrow2 (Nat.le_refl _) (by have := hb1.size; simp; omega)
            clear hnil2 hgrow2 T1 S1 hown1 k0 k1 k2 V1
            go_wp2_with (at_builtin; refine wpList_appS rfl (.tmp 44) (.tmp 47) _ _ rfl wq1.heap.size i0 Tryz.underlying25 hi0 hz0 hz1 hz2 _ _ _ rfl hown2 _ (n - k) _ (ss.drop k) rfl (src_dropS HCR.out HGR.out HL.out hnc hk hb2 (by intro h; first | rfl | simp [h]) (by first | exact ⟨_, rfl⟩ | (split <;> exact ⟨_, rfl⟩))) (by omega) hb2.size ?_)
            all_goals
              rintro v3 w3 ⟨hown3, hgrow3, hnil3⟩
              have hb3 : Below wq1.heap.size wq1 w3 := hown2.grown hb2 hgrow3 (Nat.le_refl _) hb2.size
              clear hnil3 hgrow3 hown2
              obtain ⟨a3, c3, rfl⟩ := hown3.form
              go_wp2
              go_ret
              exact ⟨_, _, _, rfl, hown3.mono (Nat.le_trans hbase BS), near_put HS.out HT.out, by omega, HBQ1.out.trans (hb3.mono BS)⟩
    · have HKN : Hid (k = n) := by unfold Hid; omega
      go_wp2_with fail
      go_quiet (fail)
      have HBQ0 := Lib.hid (below_drewN HB.out nq)
      have HVQ0 : Hid (VarIs (wr.drewN nq) w.heap.size #[.int .i64 x, .int .i64 y, .int .i64 z] 47) := HV.out
      generalize wr.drewN nq = wq0 at HBQ0 HVQ0 ⊢
      go_wp2_with fail
      go_quiet (fail)
      have HBQ1 := Lib.hid (below_drewN HBQ0.out nq)
      have HVQ1 : Hid (VarIs (wq0.drewN nq) w.heap.size #[.int .i64 x, .int .i64 y, .int .i64 z] 47) := HVQ0.out
      generalize wq0.drewN nq = wq1 at HBQ1 HVQ1 ⊢
      have HCR : Hid (∀ j s, ss[j]? = some s → wq1.cell? ⟨g, j * 3, none⟩ = some (.int .i64 s.1) ∧ wq1.cell? ⟨g, j * 3 + 1, none⟩ = some (.int .i64 s.2.1) ∧ wq1.cell? ⟨g, j * 3 + 2, none⟩ = some (.int .i64 s.2.2)) := (HO.out.below HBQ1.out).cells.2
      have HGR : Hid (g < wq1.heap.size) := (HO.out.below HBQ1.out).cells.1
      have BS := HBQ1.out.size
      have T0 : OwnsS 47 (wq1.alloc (.cells #[] 47)) wq1.heap.size (.slice (some ⟨wq1.heap.size, 0, none⟩) 0 0) 0 [] := ownsS_none wq1
      have B0 : Below wq1.heap.size wq1 (wq1.alloc (.cells #[] 47)) := (Below.refl _ wq1).alloc (Nat.le_refl _) _
      have S0 := src_takeS (c := c) HCR.out HGR.out HL.out hk B0
      have KT : Hid ((ss.take k).length = k) := by unfold Hid; rw [List.length_take, HL.out]; omega
      go_wp2_with (at_builtin; refine wpList_appS rfl (.tmp 35) (.tmp 38) _ _ rfl wq1.heap.size i0 Tryz.underlying25 hi0 hz0 hz1 hz2 _ _ _ rfl T0 _ k _ (ss.take k) rfl S0 (by omega) (by simp) ?_)
      rintro v1 w1 ⟨hown1, hgrow1, hnil1⟩
      have hb1 : Below wq1.heap.size wq1 w1 := T0.grown B0 hgrow1 (Nat.le_refl _) (by simp)
      have V1 := HVQ1.out.below hb1
      have k0 := V1.cell (j := 0) rfl
      have k1 := V1.cell (j := 1) rfl
      have k2 := V1.cell (j := 2) rfl
      have T1 := hown1.alloc (.cells #[.int .i64 x, .int .i64 y, .int .i64 z] 47)
      have S1 : SrcS (w1.alloc (.cells #[.int .i64 x, .int .i64 y, .int .i64 z] 47)) (some ⟨w1.heap.size, 0, none⟩) 1 1 [(x, y, z)] := srcS_box w1 x y z
      clear hnil1 hgrow1 T0 S0 B0
      go_wp2_with (at_builtin; refine wpList_appS rfl (.tmp 40) (.tmp 42) _ _ rfl wq1.heap.size i0 Tryz.underlying25 hi0 hz0 hz1 hz2 _ _ _ rfl T1 _ 1 _ [(x, y, z)] rfl S1 (by omega) (by have := hb1.size; simp; omega) ?_)
      rintro v2 w2 ⟨hown2, hgrow2, hnil2⟩
      have hb2 : Below wq1.heap.size wq1 w2 := T1.grown (hb1.alloc hb1.size _) hgrow2 (Nat.le_refl _) (by have := hb1.size; simp; omega)
      clear hnil2 hgrow2 T1 S1 hown1 k0 k1 k2 V1
      go_wp2_with (at_builtin; refine wpList_appS rfl (.tmp 44) (.tmp 47) _ _ rfl wq1.heap.size i0 Tryz.underlying25 hi0 hz0 hz1 hz2 _ _ _ rfl hown2 _ (n - k) _ (ss.drop k) rfl (src_dropS HCR.out HGR.out HL.out hnc hk hb2 (by intro h; first | rfl | simp [h]) (by first | exact ⟨_, rfl⟩ | (split <;> exact ⟨_, rfl⟩))) (by omega) hb2.size ?_)
      all_goals
        rintro v3 w3 ⟨hown3, hgrow3, hnil3⟩
        have hb3 : Below wq1.heap.size wq1 w3 := hown2.grown hb2 hgrow3 (Nat.le_refl _) hb2.size
        clear hnil3 hgrow3 hown2
        obtain ⟨a3, c3, rfl⟩ := hown3.form
        go_wp2
        go_ret
        exact ⟨_, _, _, rfl, hown3.mono (Nat.le_trans hbase BS), near_put HS.out HT.out, by omega, HBQ1.out.trans (hb3.mono BS)⟩

/-- l02Step on a row of the call's own. -/
theorem stepPut_any (v : Value) (n : Nat) (ss : List St) (x y z : Int) (base : Nat) (w : World) (h : OwnsS 47 w base v n ss) (ht : Near (x, y, z)) (hs : ∀ s ∈ ss, Near s) (hn : n ≤ 1048576) (hbase : base ≤ w.heap.size) :
    Calls Tryz.prog 68 #[v, .agg #[.int .i64 x, .int .i64 y, .int .i64 z]] w (StepPut w base n) := by
  by_cases hv : v = .slice none 0 0
  · subst hv
    refine (stepPut_nil x y z base w ht hbase).mono ?_
    rintro e w' ⟨v', n', ss', h1, h2, h5, h3, h4⟩
    exact ⟨v', n', ss', h1, h2, h5, by omega, h4⟩
  · obtain ⟨g, c, rfl⟩ := h.head hv
    exact stepPut_some g n c ss x y z base w h ht hs hn hbase

end Go.Proofs.YtfhjhfhfbgddeaaGreatDoor
