/-
  The model's l02Step, with what it leaves: the row, sorted as it was, with one step more. Conditions: as each statement says.
-/
import Derived.Test.YtogjbnimohakjabGreatStepPut
import Derived.Test.YtogjbnimohakjabGreatIaRise
namespace Go.Proofs.YtogjbnimohakjabGreat
open Go.RowKit

/-- What l02Step leaves. -/
def PutRes (w : World) (base : Nat) (ss : List St) (t : St) (e : Ending) (w' : World) : Prop :=
  ∃ v' n' ss', e = .returned v' ∧ OwnsS 42 w' base v' n' ss' ∧ (∀ s ∈ ss', Near s) ∧ (ss.Pairwise Ahead → ss'.Pairwise Ahead ∧ ∀ u, u ∈ ss' ↔ u ∈ ss ∨ u = t) ∧ Below w.heap.size w w'

theorem cmp_not {y x : St} (h : ¬ cmpOf y x < 0) (hne : y ≠ x) : Ahead x y := by
  obtain ⟨a, b, c⟩ := y
  obtain ⟨a', b', c'⟩ := x
  unfold cmpOf at h
  unfold Ahead
  simp only at h ⊢
  by_cases e1 : a = a'
  · subst e1
    by_cases e2 : b = b'
    · subst e2
      have e3 : c ≠ c' := fun e => hne (by rw [e])
      simp only [not_true_eq_false, if_false] at h
      omega
    · simp only [not_true_eq_false, if_false, e2, not_false_eq_true, if_true] at h
      omega
  · simp only [e1, not_false_eq_true, if_true] at h
    omega

theorem put_good {ss : List St} {t : St} {k : Nat} (hk : k ≤ ss.length) (h1 : ∀ j, j < k → ∀ s, ss[j]? = some s → cmpOf s t < 0) (h2 : ∀ s, ss[k]? = some s → ¬ cmpOf s t < 0 ∧ s ≠ t) :
    ss.Pairwise Ahead → (ss.take k ++ [t] ++ ss.drop k).Pairwise Ahead ∧ ∀ u, u ∈ ss.take k ++ [t] ++ ss.drop k ↔ u ∈ ss ∨ u = t := by
  intro hp
  have hta : ∀ s ∈ ss.take k, Ahead s t := by
    intro s hs
    obtain ⟨j, hj, e⟩ := List.mem_iff_getElem.1 hs
    rw [List.length_take] at hj
    rw [List.getElem_take] at e
    exact (ahead_cmp s t).1 (h1 j (by omega) s (by rw [List.getElem?_eq_getElem (by omega), e]))
  have hd : ∀ s ∈ ss.drop k, Ahead t s := by
    intro s hs
    have hkl : k < ss.length := by
      apply Classical.byContradiction
      intro hc
      rw [List.drop_eq_nil_of_le (by omega)] at hs
      cases hs
    have h3 := h2 ss[k] (List.getElem?_eq_getElem hkl)
    have h4 := cmp_not h3.1 h3.2
    have h5 : ss.drop k = ss[k] :: ss.drop (k + 1) := List.drop_eq_getElem_cons hkl
    have hp2 : (ss.drop k).Pairwise Ahead := List.Pairwise.sublist (List.drop_sublist k ss) hp
    rw [h5] at hs hp2
    rcases List.mem_cons.1 hs with e | hs
    · rw [e]; exact h4
    · exact h4.trans ((List.pairwise_cons.1 hp2).1 s hs)
  constructor
  · rw [List.append_assoc, List.pairwise_append]
    refine ⟨List.Pairwise.sublist (List.take_sublist k ss) hp, ?_, ?_⟩
    · rw [List.singleton_append, List.pairwise_cons]
      exact ⟨hd, List.Pairwise.sublist (List.drop_sublist k ss) hp⟩
    · intro a ha b hb
      rw [List.singleton_append, List.mem_cons] at hb
      rcases hb with rfl | hb
      · exact hta a ha
      · exact (hta a ha).trans (hd b hb)
  · intro u
    have e : u ∈ ss ↔ u ∈ ss.take k ∨ u ∈ ss.drop k := by rw [← List.mem_append, List.take_append_drop]
    rw [e]
    simp only [List.mem_append, List.mem_cons, List.not_mem_nil, or_false]
    constructor
    · rintro ((h | h) | h)
      · exact .inl (.inl h)
      · exact .inr h
      · exact .inl (.inr h)
    · rintro ((h | h) | h)
      · exact .inl (.inl h)
      · exact .inr h
      · exact .inl (.inr h)

theorem put_there {ss : List St} {t : St} (h : t ∈ ss) : ss.Pairwise Ahead → ss.Pairwise Ahead ∧ ∀ u, u ∈ ss ↔ u ∈ ss ∨ u = t := by
  intro hp
  refine ⟨hp, fun u => ⟨.inl, ?_⟩⟩
  rintro (h1 | rfl)
  · exact h1
  · exact h

set_option maxRecDepth 20000 in
set_option maxHeartbeats 3200000 in
theorem stepVal_nil (x y z : Int) (base : Nat) (w : World) (HT : Hid (Near (x, y, z))) (hbase : base ≤ w.heap.size) :
    Calls Tryz.prog 83 #[.slice none 0 0, .agg #[.int .i64 x, .int .i64 y, .int .i64 z]] w (PutRes w base [] (x, y, z)) := by
  obtain ⟨i0, hi0, hz0, hz1, hz2⟩ := info_parts (show (Tryz.prog.info? 42).map (fun i => (i.zero, i.size, i.bytes)) = some (some (.agg #[.int .i64 0, .int .i64 0, .int .i64 0]), 3, 24) by kernel_rfl)
  have V0 : Hid (VarIs (w.alloc (.cells #[.int .i64 x, .int .i64 y, .int .i64 z] 42)) w.heap.size #[.int .i64 x, .int .i64 y, .int .i64 z] 42) := VarIs.new w _ _ rfl
  have A0 : Hid (Below w.heap.size w (w.alloc (.cells #[.int .i64 x, .int .i64 y, .int .i64 z] 42))) := (Below.refl _ w).alloc (Nat.le_refl _) _
  go_enter Tryz.func83, Tryz.ntmps83
  go_wp2_with fail
  go_loopw [5] (fun i wr => i = .int .i64 0 ∧ Hid (Below w.heap.size w wr) ∧ Hid (VarIs wr w.heap.size #[.int .i64 x, .int .i64 y, .int .i64 z] 42)) (fun _ _ => 0)
  case atStart => exact ⟨rfl, A0.out, V0.out⟩
  case round =>
    obtain ⟨rfl, HB, HV⟩ := hrel
    clear A0 V0
    go_wp2_with fail
    go_quiet (fail)
    have HBQ0 := Lib.hid (below_drewN HB.out nq)
    have HVQ0 : Hid (VarIs (wr.drewN nq) w.heap.size #[.int .i64 x, .int .i64 y, .int .i64 z] 42) := HV.out
    generalize wr.drewN nq = wq0 at HBQ0 HVQ0 ⊢
    go_wp2_with fail
    go_quiet (fail)
    have HBQ1 := Lib.hid (below_drewN HBQ0.out nq)
    have HVQ1 : Hid (VarIs (wq0.drewN nq) w.heap.size #[.int .i64 x, .int .i64 y, .int .i64 z] 42) := HVQ0.out
    generalize wq0.drewN nq = wq1 at HBQ1 HVQ1 ⊢
    have BS := HBQ1.out.size
    have T0 : OwnsS 42 (wq1.alloc (.cells #[] 42)) wq1.heap.size (.slice (some ⟨wq1.heap.size, 0, none⟩) 0 0) 0 [] := ownsS_none wq1
    have B0 : Below wq1.heap.size wq1 (wq1.alloc (.cells #[] 42)) := (Below.refl _ wq1).alloc (Nat.le_refl _) _
    have S0 := SrcS.nil (wq1.alloc (.cells #[] 42))
    go_wp2_with (at_builtin; refine wpList_appS rfl (.tmp 35) (.tmp 38) _ _ rfl wq1.heap.size i0 Tryz.underlying27 hi0 hz0 hz1 hz2 _ _ _ rfl T0 _ 0 _ [] rfl S0 (by omega) (by simp) ?_)
    rintro v1 w1 ⟨hown1, hgrow1, hnil1⟩
    have hb1 : Below wq1.heap.size wq1 w1 := T0.grown B0 hgrow1 (Nat.le_refl _) (by simp)
    have V1 := HVQ1.out.below hb1
    have k0 := V1.cell (j := 0) rfl
    have k1 := V1.cell (j := 1) rfl
    have k2 := V1.cell (j := 2) rfl
    have T1 := hown1.alloc (.cells #[.int .i64 x, .int .i64 y, .int .i64 z] 42)
    have S1 : SrcS (w1.alloc (.cells #[.int .i64 x, .int .i64 y, .int .i64 z] 42)) (some ⟨w1.heap.size, 0, none⟩) 1 1 [(x, y, z)] := srcS_box w1 x y z
    clear hnil1 hgrow1 T0 S0 B0
    go_wp2_with (at_builtin; refine wpList_appS rfl (.tmp 40) (.tmp 42) _ _ rfl wq1.heap.size i0 Tryz.underlying27 hi0 hz0 hz1 hz2 _ _ _ rfl T1 _ 1 _ [(x, y, z)] rfl S1 (by omega) (by have := hb1.size; simp; omega) ?_)
    rintro v2 w2 ⟨hown2, hgrow2, hnil2⟩
    have hb2 : Below wq1.heap.size wq1 w2 := T1.grown (hb1.alloc hb1.size _) hgrow2 (Nat.le_refl _) (by have := hb1.size; simp; omega)
    clear hnil2 hgrow2 T1 S1 hown1 k0 k1 k2 V1
    go_wp2_with (at_builtin; refine wpList_appS rfl (.tmp 44) (.tmp 47) _ _ rfl wq1.heap.size i0 Tryz.underlying27 hi0 hz0 hz1 hz2 _ _ _ rfl hown2 _ 0 _ [] rfl (SrcS.nil _) (by omega) hb2.size ?_)
    all_goals
      rintro v3 w3 ⟨hown3, hgrow3, hnil3⟩
      have hb3 : Below wq1.heap.size wq1 w3 := hown2.grown hb2 hgrow3 (Nat.le_refl _) hb2.size
      clear hnil3 hgrow3 hown2
      obtain ⟨a3, c3, rfl⟩ := hown3.form
      go_wp2
      go_ret
      exact ⟨_, _, _, rfl, hown3.mono (Nat.le_trans hbase BS), (near_put (k := 0) (ss := []) (by simp) HT.out), put_good (ss := []) (k := 0) (by simp) (fun j hj => absurd hj (by omega)) (fun s hs => by simp at hs), HBQ1.out.trans (hb3.mono BS)⟩

set_option maxRecDepth 20000 in
set_option maxHeartbeats 6400000 in
theorem stepVal_some (g n c : Nat) (ss : List St) (x y z : Int) (base : Nat) (w : World) (h : OwnsS 42 w base (.slice (some ⟨g, 0, none⟩) n c) n ss) (HT : Hid (Near (x, y, z))) (HS : Hid (∀ s ∈ ss, Near s)) (hn : n ≤ 1048576) (hbase : base ≤ w.heap.size) :
    Calls Tryz.prog 83 #[.slice (some ⟨g, 0, none⟩) n c, .agg #[.int .i64 x, .int .i64 y, .int .i64 z]] w (PutRes w base ss (x, y, z)) := by
  obtain ⟨i0, hi0, hz0, hz1, hz2⟩ := info_parts (show (Tryz.prog.info? 42).map (fun i => (i.zero, i.size, i.bytes)) = some (some (.agg #[.int .i64 0, .int .i64 0, .int .i64 0]), 3, 24) by kernel_rfl)
  have HL := Lib.hid h.length
  obtain ⟨_, hnc, hcm, hr⟩ := h.row
  obtain ⟨hg, hcl⟩ := h.cells
  have HO := Lib.hid h
  have HC := Lib.hid hcl
  clear h hr hcl
  unfold maxLen at hcm
  have V0 : Hid (VarIs (w.alloc (.cells #[.int .i64 x, .int .i64 y, .int .i64 z] 42)) w.heap.size #[.int .i64 x, .int .i64 y, .int .i64 z] 42) := VarIs.new w _ _ rfl
  have A0 : Hid (Below w.heap.size w (w.alloc (.cells #[.int .i64 x, .int .i64 y, .int .i64 z] 42))) := (Below.refl _ w).alloc (Nat.le_refl _) _
  go_enter Tryz.func83, Tryz.ntmps83
  go_wp2_with fail
  go_loopw [5] (fun i wr => ∃ k : Nat, k ≤ n ∧ i = .int .i64 k ∧ Hid (Below w.heap.size w wr) ∧ Hid (VarIs wr w.heap.size #[.int .i64 x, .int .i64 y, .int .i64 z] 42) ∧ Hid (∀ j, j < k → ∀ s, ss[j]? = some s → cmpOf s (x, y, z) < 0)) (fun i _ => n - (intOf i).toNat)
  case atStart => exact ⟨0, Nat.zero_le _, rfl, A0.out, V0.out, fun j hj => absurd hj (by omega)⟩
  case round =>
    obtain ⟨k, hk, rfl, HB, HV, HLE⟩ := hrel
    clear A0 V0
    by_cases hlt : k < n
    · have hkx : k < ss.length := by rw [HL.out]; exact hlt
      obtain ⟨s, hs⟩ : ∃ s, s = ss[k] := ⟨_, rfl⟩
      obtain ⟨c0, c1, c2'⟩ := HC.out k ss[k] (List.getElem?_eq_getElem hkx)
      rw [← hs] at c0 c1 c2'
      have hnx := HB.out
      have k0 := (hnx.cell (p := ⟨g, k * 3, none⟩) hg).trans c0
      have k1 := (hnx.cell (p := ⟨g, k * 3 + 1, none⟩) hg).trans c1
      have k2 := (hnx.cell (p := ⟨g, k * 3 + 2, none⟩) hg).trans c2'
      have HN : Near s := by rw [hs]; exact HS.out _ (List.getElem_mem hkx)
      obtain ⟨x', y', z'⟩ := s
      simp only at k0 k1 k2
      have l0 := HV.out.cell (j := 0) rfl
      have l1 := HV.out.cell (j := 1) rfl
      have l2 := HV.out.cell (j := 2) rfl
      have i1 : (0 : Int) ≤ (k : Int) := by omega
      have i2 : (k : Int) < (n : Int) := by omega
      have HK0 : Hid (ss[k]? = some (x', y', z')) := by unfold Hid; rw [List.getElem?_eq_getElem hkx, ← hs]
      clear c0 c1 c2' hs
      obtain ⟨d, hd⟩ : ∃ d, d = cmpOf (x', y', z') (x, y, z) := ⟨_, rfl⟩
      have HEQ : Hid (∀ W, Calls Tryz.prog 134 #[.agg #[.int .i64 x', .int .i64 y', .int .i64 z'], .agg #[.int .i64 x, .int .i64 y, .int .i64 z]] W fun e w' => e = .returned (.int .i64 d) ∧ Below W.heap.size W w') := fun W => by
        rw [hd]
        exact cmp_any x' y' z' x y z W HN.1 HN.2.1 HN.2.2 HT.out.1 HT.out.2.1 HT.out.2.2
      have HD := Lib.hid hd
      clear hd HN
      by_cases hd0 : d < 0
      · have HLE2 : Hid (∀ j, j < k + 1 → ∀ s, ss[j]? = some s → cmpOf s (x, y, z) < 0) := fun j hj s hs => by
          by_cases e : j = k
          · subst e
            rw [HK0.out] at hs
            cases hs
            rw [← HD.out]
            exact hd0
          · exact HLE.out j (by omega) s hs
        go_wp2
        go_region_held3 (fun w' => Below w.heap.size w w' ∧ VarIs w' w.heap.size #[.int .i64 x, .int .i64 y, .int .i64 z] 42 ∧ w'.cell? ⟨g, k * 3, none⟩ = some (.int .i64 x') ∧ w'.cell? ⟨g, k * 3 + 1, none⟩ = some (.int .i64 y') ∧ w'.cell? ⟨g, k * 3 + 2, none⟩ = some (.int .i64 z') ∧ w'.cell? ⟨w.heap.size, 0, none⟩ = some (.int .i64 x) ∧ w'.cell? ⟨w.heap.size, 1, none⟩ = some (.int .i64 y) ∧ w'.cell? ⟨w.heap.size, 2, none⟩ = some (.int .i64 z))
          (first | (refine ⟨hnx.drew, HV.out.drew, ?_⟩; go_keep) | (exact ⟨hnx.drew.trans (hb'.mono hnx.size), HV.out.drew.below hb', (hb'.cell (p := ⟨g, k * 3, none⟩) (Nat.lt_of_lt_of_le hg hnx.size)).trans k0, (hb'.cell (p := ⟨g, k * 3 + 1, none⟩) (Nat.lt_of_lt_of_le hg hnx.size)).trans k1, (hb'.cell (p := ⟨g, k * 3 + 2, none⟩) (Nat.lt_of_lt_of_le hg hnx.size)).trans k2, (HV.out.drew.below hb').cell rfl, (HV.out.drew.below hb').cell rfl, (HV.out.drew.below hb').cell rfl⟩))
          ((go_at_call 134; refine (HEQ.out _).mono ?_; rintro e w' ⟨rfl, hb'⟩))
        rename_i hH
        have HH := Lib.hid hH.1
        have HH2 := Lib.hid hH.2.1
        clear hH
        go_wp2
        go_roundw
        case rel => exact ⟨k + 1, by omega, by go_num, HH.out, HH2.out, HLE2.out⟩
        case measure => simp [intOf]; omega
      · go_wp2
        go_region_held3 (fun w' => Below w.heap.size w w' ∧ VarIs w' w.heap.size #[.int .i64 x, .int .i64 y, .int .i64 z] 42 ∧ w'.cell? ⟨g, k * 3, none⟩ = some (.int .i64 x') ∧ w'.cell? ⟨g, k * 3 + 1, none⟩ = some (.int .i64 y') ∧ w'.cell? ⟨g, k * 3 + 2, none⟩ = some (.int .i64 z') ∧ w'.cell? ⟨w.heap.size, 0, none⟩ = some (.int .i64 x) ∧ w'.cell? ⟨w.heap.size, 1, none⟩ = some (.int .i64 y) ∧ w'.cell? ⟨w.heap.size, 2, none⟩ = some (.int .i64 z))
          (first | (refine ⟨hnx.drew, HV.out.drew, ?_⟩; go_keep) | (exact ⟨hnx.drew.trans (hb'.mono hnx.size), HV.out.drew.below hb', (hb'.cell (p := ⟨g, k * 3, none⟩) (Nat.lt_of_lt_of_le hg hnx.size)).trans k0, (hb'.cell (p := ⟨g, k * 3 + 1, none⟩) (Nat.lt_of_lt_of_le hg hnx.size)).trans k1, (hb'.cell (p := ⟨g, k * 3 + 2, none⟩) (Nat.lt_of_lt_of_le hg hnx.size)).trans k2, (HV.out.drew.below hb').cell rfl, (HV.out.drew.below hb').cell rfl, (HV.out.drew.below hb').cell rfl⟩))
          ((go_at_call 134; refine (HEQ.out _).mono ?_; rintro e w' ⟨rfl, hb'⟩))
        rename_i hH
        have HBQ0 := Lib.hid hH.1
        have HVQ0 := Lib.hid hH.2.1
        obtain ⟨_, _, k0, k1, k2, l0, l1, l2⟩ := hH
        by_cases he : x' = x ∧ y' = y ∧ z' = z
        · obtain ⟨rfl, rfl, rfl⟩ := he
          go_wp2_with fail
          go_quiet (fail)
          go_wp2_with fail
          go_ret
          exact ⟨_, _, _, rfl, HO.out.below (below_drewN HBQ0.out nq), HS.out, put_there (List.mem_of_getElem? HK0.out), below_drewN HBQ0.out nq⟩
        · have HPG : Hid (ss.Pairwise Ahead → (ss.take k ++ [(x, y, z)] ++ ss.drop k).Pairwise Ahead ∧ ∀ u, u ∈ ss.take k ++ [(x, y, z)] ++ ss.drop k ↔ u ∈ ss ∨ u = (x, y, z)) := put_good (by rw [HL.out]; exact hk) HLE.out (fun s hs => by
            rw [HK0.out] at hs
            cases hs
            exact ⟨by rw [← HD.out]; omega, fun e => he (by cases e; exact ⟨rfl, rfl, rfl⟩)⟩)
          by_cases f1 : x' = x
          · obtain rfl := f1.symm
            by_cases f2 : y' = y
            · obtain rfl := f2.symm
              have f3 : ¬ z' = z := fun e => he ⟨rfl, rfl, e⟩
              have g3 : (z' == z) = false := by simp [f3]
              clear he
              go_wp2_with fail
              go_quiet (fail)
              have HBQ1 := Lib.hid (below_drewN HBQ0.out nq)
              have HVQ1 : Hid (VarIs (w'.drewN nq) w.heap.size #[.int .i64 x, .int .i64 y, .int .i64 z] 42) := HVQ0.out
              generalize w'.drewN nq = wq1 at HBQ1 HVQ1 ⊢
              clear k0 k1 k2 l0 l1 l2
              have HCR : Hid (∀ j s, ss[j]? = some s → wq1.cell? ⟨g, j * 3, none⟩ = some (.int .i64 s.1) ∧ wq1.cell? ⟨g, j * 3 + 1, none⟩ = some (.int .i64 s.2.1) ∧ wq1.cell? ⟨g, j * 3 + 2, none⟩ = some (.int .i64 s.2.2)) := (HO.out.below HBQ1.out).cells.2
              have HGR : Hid (g < wq1.heap.size) := (HO.out.below HBQ1.out).cells.1
              have BS := HBQ1.out.size
              have T0 : OwnsS 42 (wq1.alloc (.cells #[] 42)) wq1.heap.size (.slice (some ⟨wq1.heap.size, 0, none⟩) 0 0) 0 [] := ownsS_none wq1
              have B0 : Below wq1.heap.size wq1 (wq1.alloc (.cells #[] 42)) := (Below.refl _ wq1).alloc (Nat.le_refl _) _
              have S0 := src_takeS (c := c) HCR.out HGR.out HL.out hk B0
              have KT : Hid ((ss.take k).length = k) := by unfold Hid; rw [List.length_take, HL.out]; omega
              go_wp2_with (at_builtin; refine wpList_appS rfl (.tmp 35) (.tmp 38) _ _ rfl wq1.heap.size i0 Tryz.underlying27 hi0 hz0 hz1 hz2 _ _ _ rfl T0 _ k _ (ss.take k) rfl S0 (by omega) (by simp) ?_)
              rintro v1 w1 ⟨hown1, hgrow1, hnil1⟩
              have hb1 : Below wq1.heap.size wq1 w1 := T0.grown B0 hgrow1 (Nat.le_refl _) (by simp)
              have V1 := HVQ1.out.below hb1
              have k0 := V1.cell (j := 0) rfl
              have k1 := V1.cell (j := 1) rfl
              have k2 := V1.cell (j := 2) rfl
              have T1 := hown1.alloc (.cells #[.int .i64 x, .int .i64 y, .int .i64 z] 42)
              have S1 : SrcS (w1.alloc (.cells #[.int .i64 x, .int .i64 y, .int .i64 z] 42)) (some ⟨w1.heap.size, 0, none⟩) 1 1 [(x, y, z)] := srcS_box w1 x y z
              clear hnil1 hgrow1 T0 S0 B0
              go_wp2_with (at_builtin; refine wpList_appS rfl (.tmp 40) (.tmp 42) _ _ rfl wq1.heap.size i0 Tryz.underlying27 hi0 hz0 hz1 hz2 _ _ _ rfl T1 _ 1 _ [(x, y, z)] rfl S1 (by omega) (by have := hb1.size; simp; omega) ?_)
              rintro v2 w2 ⟨hown2, hgrow2, hnil2⟩
              have hb2 : Below wq1.heap.size wq1 w2 := T1.grown (hb1.alloc hb1.size _) hgrow2 (Nat.le_refl _) (by have := hb1.size; simp; omega)
              clear hnil2 hgrow2 T1 S1 hown1 k0 k1 k2 V1
              go_wp2_with (at_builtin; refine wpList_appS rfl (.tmp 44) (.tmp 47) _ _ rfl wq1.heap.size i0 Tryz.underlying27 hi0 hz0 hz1 hz2 _ _ _ rfl hown2 _ (n - k) _ (ss.drop k) rfl (src_dropS HCR.out HGR.out HL.out hnc hk hb2 (by intro h; first | rfl | simp [h]) (by first | exact ⟨_, rfl⟩ | (split <;> exact ⟨_, rfl⟩))) (by omega) hb2.size ?_)
              all_goals
                rintro v3 w3 ⟨hown3, hgrow3, hnil3⟩
                have hb3 : Below wq1.heap.size wq1 w3 := hown2.grown hb2 hgrow3 (Nat.le_refl _) hb2.size
                clear hnil3 hgrow3 hown2
                obtain ⟨a3, c3, rfl⟩ := hown3.form
                go_wp2
                go_ret
                exact ⟨_, _, _, rfl, hown3.mono (Nat.le_trans hbase BS), near_put HS.out HT.out, HPG.out, HBQ1.out.trans (hb3.mono BS)⟩
            · have g2 : (y' == y) = false := by simp [f2]
              clear he
              go_wp2_with fail
              go_quiet (fail)
              have HBQ1 := Lib.hid (below_drewN HBQ0.out nq)
              have HVQ1 : Hid (VarIs (w'.drewN nq) w.heap.size #[.int .i64 x, .int .i64 y, .int .i64 z] 42) := HVQ0.out
              generalize w'.drewN nq = wq1 at HBQ1 HVQ1 ⊢
              clear k0 k1 k2 l0 l1 l2
              have HCR : Hid (∀ j s, ss[j]? = some s → wq1.cell? ⟨g, j * 3, none⟩ = some (.int .i64 s.1) ∧ wq1.cell? ⟨g, j * 3 + 1, none⟩ = some (.int .i64 s.2.1) ∧ wq1.cell? ⟨g, j * 3 + 2, none⟩ = some (.int .i64 s.2.2)) := (HO.out.below HBQ1.out).cells.2
              have HGR : Hid (g < wq1.heap.size) := (HO.out.below HBQ1.out).cells.1
              have BS := HBQ1.out.size
              have T0 : OwnsS 42 (wq1.alloc (.cells #[] 42)) wq1.heap.size (.slice (some ⟨wq1.heap.size, 0, none⟩) 0 0) 0 [] := ownsS_none wq1
              have B0 : Below wq1.heap.size wq1 (wq1.alloc (.cells #[] 42)) := (Below.refl _ wq1).alloc (Nat.le_refl _) _
              have S0 := src_takeS (c := c) HCR.out HGR.out HL.out hk B0
              have KT : Hid ((ss.take k).length = k) := by unfold Hid; rw [List.length_take, HL.out]; omega
              go_wp2_with (at_builtin; refine wpList_appS rfl (.tmp 35) (.tmp 38) _ _ rfl wq1.heap.size i0 Tryz.underlying27 hi0 hz0 hz1 hz2 _ _ _ rfl T0 _ k _ (ss.take k) rfl S0 (by omega) (by simp) ?_)
              rintro v1 w1 ⟨hown1, hgrow1, hnil1⟩
              have hb1 : Below wq1.heap.size wq1 w1 := T0.grown B0 hgrow1 (Nat.le_refl _) (by simp)
              have V1 := HVQ1.out.below hb1
              have k0 := V1.cell (j := 0) rfl
              have k1 := V1.cell (j := 1) rfl
              have k2 := V1.cell (j := 2) rfl
              have T1 := hown1.alloc (.cells #[.int .i64 x, .int .i64 y, .int .i64 z] 42)
              have S1 : SrcS (w1.alloc (.cells #[.int .i64 x, .int .i64 y, .int .i64 z] 42)) (some ⟨w1.heap.size, 0, none⟩) 1 1 [(x, y, z)] := srcS_box w1 x y z
              clear hnil1 hgrow1 T0 S0 B0
              go_wp2_with (at_builtin; refine wpList_appS rfl (.tmp 40) (.tmp 42) _ _ rfl wq1.heap.size i0 Tryz.underlying27 hi0 hz0 hz1 hz2 _ _ _ rfl T1 _ 1 _ [(x, y, z)] rfl S1 (by omega) (by have := hb1.size; simp; omega) ?_)
              rintro v2 w2 ⟨hown2, hgrow2, hnil2⟩
              have hb2 : Below wq1.heap.size wq1 w2 := T1.grown (hb1.alloc hb1.size _) hgrow2 (Nat.le_refl _) (by have := hb1.size; simp; omega)
              clear hnil2 hgrow2 T1 S1 hown1 k0 k1 k2 V1
              go_wp2_with (at_builtin; refine wpList_appS rfl (.tmp 44) (.tmp 47) _ _ rfl wq1.heap.size i0 Tryz.underlying27 hi0 hz0 hz1 hz2 _ _ _ rfl hown2 _ (n - k) _ (ss.drop k) rfl (src_dropS HCR.out HGR.out HL.out hnc hk hb2 (by intro h; first | rfl | simp [h]) (by first | exact ⟨_, rfl⟩ | (split <;> exact ⟨_, rfl⟩))) (by omega) hb2.size ?_)
              all_goals
                rintro v3 w3 ⟨hown3, hgrow3, hnil3⟩
                have hb3 : Below wq1.heap.size wq1 w3 := hown2.grown hb2 hgrow3 (Nat.le_refl _) hb2.size
                clear hnil3 hgrow3 hown2
                obtain ⟨a3, c3, rfl⟩ := hown3.form
                go_wp2
                go_ret
                exact ⟨_, _, _, rfl, hown3.mono (Nat.le_trans hbase BS), near_put HS.out HT.out, HPG.out, HBQ1.out.trans (hb3.mono BS)⟩
          · have g1 : (x' == x) = false := by simp [f1]
            clear he
            go_wp2_with fail
            go_quiet (fail)
            have HBQ1 := Lib.hid (below_drewN HBQ0.out nq)
            have HVQ1 : Hid (VarIs (w'.drewN nq) w.heap.size #[.int .i64 x, .int .i64 y, .int .i64 z] 42) := HVQ0.out
            generalize w'.drewN nq = wq1 at HBQ1 HVQ1 ⊢
            clear k0 k1 k2 l0 l1 l2
            have HCR : Hid (∀ j s, ss[j]? = some s → wq1.cell? ⟨g, j * 3, none⟩ = some (.int .i64 s.1) ∧ wq1.cell? ⟨g, j * 3 + 1, none⟩ = some (.int .i64 s.2.1) ∧ wq1.cell? ⟨g, j * 3 + 2, none⟩ = some (.int .i64 s.2.2)) := (HO.out.below HBQ1.out).cells.2
            have HGR : Hid (g < wq1.heap.size) := (HO.out.below HBQ1.out).cells.1
            have BS := HBQ1.out.size
            have T0 : OwnsS 42 (wq1.alloc (.cells #[] 42)) wq1.heap.size (.slice (some ⟨wq1.heap.size, 0, none⟩) 0 0) 0 [] := ownsS_none wq1
            have B0 : Below wq1.heap.size wq1 (wq1.alloc (.cells #[] 42)) := (Below.refl _ wq1).alloc (Nat.le_refl _) _
            have S0 := src_takeS (c := c) HCR.out HGR.out HL.out hk B0
            have KT : Hid ((ss.take k).length = k) := by unfold Hid; rw [List.length_take, HL.out]; omega
            go_wp2_with (at_builtin; refine wpList_appS rfl (.tmp 35) (.tmp 38) _ _ rfl wq1.heap.size i0 Tryz.underlying27 hi0 hz0 hz1 hz2 _ _ _ rfl T0 _ k _ (ss.take k) rfl S0 (by omega) (by simp) ?_)
            rintro v1 w1 ⟨hown1, hgrow1, hnil1⟩
            have hb1 : Below wq1.heap.size wq1 w1 := T0.grown B0 hgrow1 (Nat.le_refl _) (by simp)
            have V1 := HVQ1.out.below hb1
            have k0 := V1.cell (j := 0) rfl
            have k1 := V1.cell (j := 1) rfl
            have k2 := V1.cell (j := 2) rfl
            have T1 := hown1.alloc (.cells #[.int .i64 x, .int .i64 y, .int .i64 z] 42)
            have S1 : SrcS (w1.alloc (.cells #[.int .i64 x, .int .i64 y, .int .i64 z] 42)) (some ⟨w1.heap.size, 0, none⟩) 1 1 [(x, y, z)] := srcS_box w1 x y z
            clear hnil1 hgrow1 T0 S0 B0
            go_wp2_with (at_builtin; refine wpList_appS rfl (.tmp 40) (.tmp 42) _ _ rfl wq1.heap.size i0 Tryz.underlying27 hi0 hz0 hz1 hz2 _ _ _ rfl T1 _ 1 _ [(x, y, z)] rfl S1 (by omega) (by have := hb1.size; simp; omega) ?_)
            rintro v2 w2 ⟨hown2, hgrow2, hnil2⟩
            have hb2 : Below wq1.heap.size wq1 w2 := T1.grown (hb1.alloc hb1.size _) hgrow2 (Nat.le_refl _) (by have := hb1.size; simp; omega)
            clear hnil2 hgrow2 T1 S1 hown1 k0 k1 k2 V1
            go_wp2_with (at_builtin; refine wpList_appS rfl (.tmp 44) (.tmp 47) _ _ rfl wq1.heap.size i0 Tryz.underlying27 hi0 hz0 hz1 hz2 _ _ _ rfl hown2 _ (n - k) _ (ss.drop k) rfl (src_dropS HCR.out HGR.out HL.out hnc hk hb2 (by intro h; first | rfl | simp [h]) (by first | exact ⟨_, rfl⟩ | (split <;> exact ⟨_, rfl⟩))) (by omega) hb2.size ?_)
            all_goals
              rintro v3 w3 ⟨hown3, hgrow3, hnil3⟩
              have hb3 : Below wq1.heap.size wq1 w3 := hown2.grown hb2 hgrow3 (Nat.le_refl _) hb2.size
              clear hnil3 hgrow3 hown2
              obtain ⟨a3, c3, rfl⟩ := hown3.form
              go_wp2
              go_ret
              exact ⟨_, _, _, rfl, hown3.mono (Nat.le_trans hbase BS), near_put HS.out HT.out, HPG.out, HBQ1.out.trans (hb3.mono BS)⟩
    · have HKN : Hid (k = n) := by unfold Hid; omega
      have HPG : Hid (ss.Pairwise Ahead → (ss.take k ++ [(x, y, z)] ++ ss.drop k).Pairwise Ahead ∧ ∀ u, u ∈ ss.take k ++ [(x, y, z)] ++ ss.drop k ↔ u ∈ ss ∨ u = (x, y, z)) := put_good (by rw [HL.out]; exact hk) HLE.out (fun s hs => by
        rw [List.getElem?_eq_none (by rw [HL.out]; omega)] at hs
        cases hs)
      go_wp2_with fail
      go_quiet (fail)
      have HBQ0 := Lib.hid (below_drewN HB.out nq)
      have HVQ0 : Hid (VarIs (wr.drewN nq) w.heap.size #[.int .i64 x, .int .i64 y, .int .i64 z] 42) := HV.out
      generalize wr.drewN nq = wq0 at HBQ0 HVQ0 ⊢
      go_wp2_with fail
      go_quiet (fail)
      have HBQ1 := Lib.hid (below_drewN HBQ0.out nq)
      have HVQ1 : Hid (VarIs (wq0.drewN nq) w.heap.size #[.int .i64 x, .int .i64 y, .int .i64 z] 42) := HVQ0.out
      generalize wq0.drewN nq = wq1 at HBQ1 HVQ1 ⊢
      have HCR : Hid (∀ j s, ss[j]? = some s → wq1.cell? ⟨g, j * 3, none⟩ = some (.int .i64 s.1) ∧ wq1.cell? ⟨g, j * 3 + 1, none⟩ = some (.int .i64 s.2.1) ∧ wq1.cell? ⟨g, j * 3 + 2, none⟩ = some (.int .i64 s.2.2)) := (HO.out.below HBQ1.out).cells.2
      have HGR : Hid (g < wq1.heap.size) := (HO.out.below HBQ1.out).cells.1
      have BS := HBQ1.out.size
      have T0 : OwnsS 42 (wq1.alloc (.cells #[] 42)) wq1.heap.size (.slice (some ⟨wq1.heap.size, 0, none⟩) 0 0) 0 [] := ownsS_none wq1
      have B0 : Below wq1.heap.size wq1 (wq1.alloc (.cells #[] 42)) := (Below.refl _ wq1).alloc (Nat.le_refl _) _
      have S0 := src_takeS (c := c) HCR.out HGR.out HL.out hk B0
      have KT : Hid ((ss.take k).length = k) := by unfold Hid; rw [List.length_take, HL.out]; omega
      go_wp2_with (at_builtin; refine wpList_appS rfl (.tmp 35) (.tmp 38) _ _ rfl wq1.heap.size i0 Tryz.underlying27 hi0 hz0 hz1 hz2 _ _ _ rfl T0 _ k _ (ss.take k) rfl S0 (by omega) (by simp) ?_)
      rintro v1 w1 ⟨hown1, hgrow1, hnil1⟩
      have hb1 : Below wq1.heap.size wq1 w1 := T0.grown B0 hgrow1 (Nat.le_refl _) (by simp)
      have V1 := HVQ1.out.below hb1
      have k0 := V1.cell (j := 0) rfl
      have k1 := V1.cell (j := 1) rfl
      have k2 := V1.cell (j := 2) rfl
      have T1 := hown1.alloc (.cells #[.int .i64 x, .int .i64 y, .int .i64 z] 42)
      have S1 : SrcS (w1.alloc (.cells #[.int .i64 x, .int .i64 y, .int .i64 z] 42)) (some ⟨w1.heap.size, 0, none⟩) 1 1 [(x, y, z)] := srcS_box w1 x y z
      clear hnil1 hgrow1 T0 S0 B0
      go_wp2_with (at_builtin; refine wpList_appS rfl (.tmp 40) (.tmp 42) _ _ rfl wq1.heap.size i0 Tryz.underlying27 hi0 hz0 hz1 hz2 _ _ _ rfl T1 _ 1 _ [(x, y, z)] rfl S1 (by omega) (by have := hb1.size; simp; omega) ?_)
      rintro v2 w2 ⟨hown2, hgrow2, hnil2⟩
      have hb2 : Below wq1.heap.size wq1 w2 := T1.grown (hb1.alloc hb1.size _) hgrow2 (Nat.le_refl _) (by have := hb1.size; simp; omega)
      clear hnil2 hgrow2 T1 S1 hown1 k0 k1 k2 V1
      go_wp2_with (at_builtin; refine wpList_appS rfl (.tmp 44) (.tmp 47) _ _ rfl wq1.heap.size i0 Tryz.underlying27 hi0 hz0 hz1 hz2 _ _ _ rfl hown2 _ (n - k) _ (ss.drop k) rfl (src_dropS HCR.out HGR.out HL.out hnc hk hb2 (by intro h; first | rfl | simp [h]) (by first | exact ⟨_, rfl⟩ | (split <;> exact ⟨_, rfl⟩))) (by omega) hb2.size ?_)
      all_goals
        rintro v3 w3 ⟨hown3, hgrow3, hnil3⟩
        have hb3 : Below wq1.heap.size wq1 w3 := hown2.grown hb2 hgrow3 (Nat.le_refl _) hb2.size
        clear hnil3 hgrow3 hown2
        obtain ⟨a3, c3, rfl⟩ := hown3.form
        go_wp2
        go_ret
        exact ⟨_, _, _, rfl, hown3.mono (Nat.le_trans hbase BS), near_put HS.out HT.out, HPG.out, HBQ1.out.trans (hb3.mono BS)⟩

/-- l02Step on a row of the call's own. -/
theorem stepVal_any (v : Value) (n : Nat) (ss : List St) (x y z : Int) (base : Nat) (w : World) (h : OwnsS 42 w base v n ss) (ht : Near (x, y, z)) (hs : ∀ s ∈ ss, Near s) (hn : n ≤ 1048576) (hbase : base ≤ w.heap.size) :
    Calls Tryz.prog 83 #[v, .agg #[.int .i64 x, .int .i64 y, .int .i64 z]] w (PutRes w base ss (x, y, z)) := by
  by_cases hv : v = .slice none 0 0
  · subst hv
    have h1 := h.row.1
    have h2 := h.length
    obtain rfl : ss = [] := List.length_eq_zero_iff.1 (by omega)
    exact stepVal_nil x y z base w ht hbase
  · obtain ⟨g, c, rfl⟩ := h.head hv
    exact stepVal_some g n c ss x y z base w h ht hs hn hbase

end Go.Proofs.YtogjbnimohakjabGreat
