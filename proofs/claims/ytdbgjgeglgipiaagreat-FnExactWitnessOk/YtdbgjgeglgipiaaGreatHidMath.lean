import Derived.Test.YtdbgjgeglgipiaaGreatReachMath
import Derived.Test.YtdbgjgeglgipiaaGreatStepPut
import Derived.Test.YtdbgjgeglgipiaaGreatIaRise
import Derived.Test.YtdbgjgeglgipiaaGreatAnyFrom
import Derived.Test.YtdbgjgeglgipiaaGreatCopied
import Derived.Deep.RegionLaw
import Derived.Deep.RegionLawGrows
import Derived.Test.YtdbgjgeglgipiaaGreatProdMath
import Derived.Test.YtdbgjgeglgipiaaGreatJoin2
import Derived.Test.YtdbgjgeglgipiaaGreatIaLaw
import Derived.Test.YtdbgjgeglgipiaaGreatFast
import Derived.Test.YtdbgjgeglgipiaaGreatProdDef
import Derived.Test.YtdbgjgeglgipiaaGreatStepOf
import Derived.Test.YtdbgjgeglgipiaaGreatProdSteps
import Derived.Test.YtdbgjgeglgipiaaGreatShared
import Derived.Test.YtdbgjgeglgipiaaGreatSpecStep
/-
  What is hidden, as functions of lists: the model's functions of chapter 4, what the program's search keeps, and that both say the same. Conditions: none; nothing here speaks of the program.
-/
namespace Go.Proofs.YtdbgjgeglgipiaaGreat
open Go.RowKit

theorem mem_afterL {ss : List St} {s act y : Int} : y ∈ afterL ss s act ↔ (s, act, y) ∈ ss := by
  unfold afterL
  rw [mem_putAll]
  simp only [List.not_mem_nil, false_or, List.mem_map, List.mem_filter, Bool.and_eq_true, decide_eq_true_eq]
  constructor
  · rintro ⟨⟨f, b, z⟩, ⟨h1, h2, h3⟩, rfl⟩
    simp only at h2 h3
    subst h2 h3
    exact h1
  · intro h
    exact ⟨(s, act, y), ⟨h, rfl, rfl⟩, rfl⟩

/-- Whatever may be come to from states is a state. -/
theorem come_states {a : IaD} (h : iaOkB a = true) {set L : List Int} (hL : ∀ x ∈ L, stateB a x = true) {y : Int} (hy : Come set a.steps L y) : 0 ≤ y ∧ y ≤ a.states - 1 := by
  cases hy with
  | start y hm =>
    have := hL y hm
    simpa [stateB, btw] using this
  | step s hs hp hc => exact (iaOk_ends h s hs).2.1

/-- Come to from what may be come to. -/
theorem Come.trans {set : List Int} {ss : List St} {L : List Int} {x y : Int} (h : Come set ss [x] y) (hx : Come set ss L x) : Come set ss L y :=
  h.mono (fun _ h => h) (fun z hz => by obtain rfl := List.mem_singleton.1 hz; exact hx)

/-! ### What the program keeps -/

/-- Where the steps with actions of 'hids' go from 's'. -/
def hidR (hids : List Int) (ss : List St) (s : Int) : List Int := (ss.filter fun x => hasB hids x.2.1 && decide (x.1 = s)).map fun x => x.2.2

theorem mem_hidR {hids : List Int} {ss : List St} {s y : Int} : y ∈ hidR hids ss s ↔ ∃ x ∈ ss, hasB hids x.2.1 = true ∧ x.1 = s ∧ x.2.2 = y := by
  unfold hidR
  simp only [List.mem_map, List.mem_filter, Bool.and_eq_true, decide_eq_true_eq]
  constructor
  · rintro ⟨x, ⟨h1, h2, h3⟩, h4⟩; exact ⟨x, h1, h2, h3, h4⟩
  · rintro ⟨x, h1, h2, h3, h4⟩; exact ⟨x, ⟨h1, h2, h3⟩, h4⟩

/-- What is not there yet is put at the end. -/
def addOne (F : List Int) (x : Int) : List Int := if hasB F x then F else F ++ [x]
def addL (F L : List Int) : List Int := L.foldl addOne F

theorem addOne_nodup {F : List Int} {x : Int} (h : F.Nodup) : (addOne F x).Nodup := by
  unfold addOne
  split
  · exact h
  · rename_i hx
    rw [List.nodup_append]
    refine ⟨h, by simp, fun y hy z hz e => ?_⟩
    obtain rfl := List.mem_singleton.1 hz
    subst e
    exact hx (hasB_mem.2 hy)

theorem mem_addOne {F : List Int} {x y : Int} : y ∈ addOne F x ↔ y ∈ F ∨ y = x := by
  unfold addOne
  split
  · rename_i hx
    exact ⟨Or.inl, fun h => h.elim id (fun e => by rw [e]; exact hasB_mem.1 hx)⟩
  · simp

theorem addL_nodup : ∀ {L F : List Int}, F.Nodup → (addL F L).Nodup
  | [], _, h => h
  | _ :: r, _, h => addL_nodup (L := r) (addOne_nodup h)

theorem mem_addL {y : Int} : ∀ {L F : List Int}, y ∈ addL F L ↔ y ∈ F ∨ y ∈ L
  | [], F => by simp [addL]
  | z :: r, F => by
    show y ∈ addL (addOne F z) r ↔ _
    rw [mem_addL, mem_addOne, List.mem_cons, or_assoc]

theorem addL_more : ∀ (L F : List Int), ∃ E, addL F L = F ++ E
  | [], F => ⟨[], by simp [addL]⟩
  | z :: r, F => by
    obtain ⟨E, hE⟩ := addL_more r (addOne F z)
    have h1 : addL F (z :: r) = addL (addOne F z) r := rfl
    rw [h1, hE]
    unfold addOne
    split
    · exact ⟨E, rfl⟩
    · exact ⟨[z] ++ E, by simp⟩

/-- All that is found may be come to, nothing comes twice, and from the first 'k' places all is found. -/
def FoundH (a : IaD) (L F : List Int) (k : Nat) : Prop :=
  F.Nodup ∧ (∀ x ∈ L, x ∈ F) ∧ (∀ y ∈ F, Come a.hids a.steps L y) ∧ ∀ j, j < k → ∀ s, F[j]? = some s → ∀ x ∈ hidR a.hids a.steps s, x ∈ F

theorem FoundH.start (a : IaD) (L : List Int) : FoundH a L (addL [] L) 0 :=
  ⟨addL_nodup List.nodup_nil, fun x hx => mem_addL.2 (Or.inr hx), fun y hy => .start y (by simpa using mem_addL.1 hy), fun j hj => absurd hj (by omega)⟩

theorem FoundH.next {a : IaD} {L F : List Int} {k : Nat} {s : Int} (h : FoundH a L F k) (hs : F[k]? = some s) : FoundH a L (addL F (hidR a.hids a.steps s)) (k + 1) := by
  obtain ⟨h1, h2, h3, h4⟩ := h
  have hsm : s ∈ F := List.mem_of_getElem? hs
  refine ⟨addL_nodup h1, fun x hx => mem_addL.2 (Or.inl (h2 x hx)), fun y hy => ?_, fun j hj s' hs' x hx => ?_⟩
  · rcases mem_addL.1 hy with hy | hy
    · exact h3 y hy
    · obtain ⟨t, ht, hp, hf, rfl⟩ := mem_hidR.1 hy
      exact .step t ht hp (by rw [hf]; exact h3 s hsm)
  · obtain ⟨E, hE⟩ := addL_more (hidR a.hids a.steps s) F
    have hlt : k < F.length := (List.getElem?_eq_some_iff.1 hs).1
    rw [hE, List.getElem?_append_left (by omega)] at hs'
    by_cases e : j = k
    · subst e
      rw [hs] at hs'
      cases hs'
      exact mem_addL.2 (Or.inr hx)
    · exact mem_addL.2 (Or.inl (h4 j (by omega) s' hs' x hx))

theorem FoundH.low {a : IaD} (h : iaOkB a = true) {L F : List Int} {k : Nat} (hL : ∀ x ∈ L, stateB a x = true) (hF : FoundH a L F k) : ∀ y ∈ F, 0 ≤ y ∧ y < 40 := by
  intro y hy
  have h1 := come_states h hL (hF.2.2.1 y hy)
  have h2 := (iaOk_states h).2
  omega

theorem FoundH.len {a : IaD} (h : iaOkB a = true) {L F : List Int} {k : Nat} (hL : ∀ x ∈ L, stateB a x = true) (hF : FoundH a L F k) : F.length ≤ 40 := nodup_low hF.1 (hF.low h hL)

/-- All is gone through: what was found, risen, is what may be come to. -/
theorem FoundH.done {a : IaD} {L F : List Int} (h : FoundH a L F F.length) : ris F = alongOf a.hids a.steps L := by
  obtain ⟨h1, h2, h3, h4⟩ := h
  refine along_eq (ris_lt F) (fun x => ?_)
  rw [mem_ris]
  refine ⟨h3 x, fun hx => closed_come h2 (fun s hs hp hm => ?_) hx⟩
  obtain ⟨j, hj, e⟩ := List.getElem_of_mem hm
  exact h4 j hj s.1 (by rw [List.getElem?_eq_getElem hj, e]) s.2.2 (mem_hidR.2 ⟨s, hs, hp, rfl, rfl⟩)

end Go.Proofs.YtdbgjgeglgipiaaGreat

/-
  The model's l02Step, with what it leaves: the row, sorted as it was, with one step more. Conditions: as each statement says.
-/
namespace Go.Proofs.YtdbgjgeglgipiaaGreat
open Go.RowKit

/-- What l02Step leaves. -/
def PutRes (w : World) (base : Nat) (ss : List St) (t : St) (e : Ending) (w' : World) : Prop :=
  ∃ v' n' ss', e = .returned v' ∧ OwnsS 48 w' base v' n' ss' ∧ (∀ s ∈ ss', Near s) ∧ (ss.Pairwise Ahead → ss'.Pairwise Ahead ∧ ∀ u, u ∈ ss' ↔ u ∈ ss ∨ u = t) ∧ Below w.heap.size w w'

theorem cmp_not {y x : St} (h : ¬ cmpOf y x < 0) (hne : y ≠ x) : Ahead x y := by
  obtain ⟨a, b, c⟩ := y
  obtain ⟨a', b', c'⟩ := x
  unfold cmpOf at h
  unfold Ahead
  simp only at h ⊢
  by_cases e1 : a = a'
  · subst e1
    by_cases e2 : b = b'
    · subst e2
      have e3 : c ≠ c' := fun e => hne (by rw [e])
      simp only [not_true_eq_false, if_false] at h
      omega
    · simp only [not_true_eq_false, if_false, e2, not_false_eq_true, if_true] at h
      omega
  · simp only [e1, not_false_eq_true, if_true] at h
    omega

theorem put_good {ss : List St} {t : St} {k : Nat} (hk : k ≤ ss.length) (h1 : ∀ j, j < k → ∀ s, ss[j]? = some s → cmpOf s t < 0) (h2 : ∀ s, ss[k]? = some s → ¬ cmpOf s t < 0 ∧ s ≠ t) :
    ss.Pairwise Ahead → (ss.take k ++ [t] ++ ss.drop k).Pairwise Ahead ∧ ∀ u, u ∈ ss.take k ++ [t] ++ ss.drop k ↔ u ∈ ss ∨ u = t := by
  intro hp
  have hta : ∀ s ∈ ss.take k, Ahead s t := by
    intro s hs
    obtain ⟨j, hj, e⟩ := List.mem_iff_getElem.1 hs
    rw [List.length_take] at hj
    rw [List.getElem_take] at e
    exact (ahead_cmp s t).1 (h1 j (by omega) s (by rw [List.getElem?_eq_getElem (by omega), e]))
  have hd : ∀ s ∈ ss.drop k, Ahead t s := by
    intro s hs
    have hkl : k < ss.length := by
      apply Classical.byContradiction
      intro hc
      rw [List.drop_eq_nil_of_le (by omega)] at hs
      cases hs
    have h3 := h2 ss[k] (List.getElem?_eq_getElem hkl)
    have h4 := cmp_not h3.1 h3.2
    have h5 : ss.drop k = ss[k] :: ss.drop (k + 1) := List.drop_eq_getElem_cons hkl
    have hp2 : (ss.drop k).Pairwise Ahead := List.Pairwise.sublist (List.drop_sublist k ss) hp
    rw [h5] at hs hp2
    rcases List.mem_cons.1 hs with e | hs
    · rw [e]; exact h4
    · exact h4.trans ((List.pairwise_cons.1 hp2).1 s hs)
  constructor
  · rw [List.append_assoc, List.pairwise_append]
    refine ⟨List.Pairwise.sublist (List.take_sublist k ss) hp, ?_, ?_⟩
    · rw [List.singleton_append, List.pairwise_cons]
      exact ⟨hd, List.Pairwise.sublist (List.drop_sublist k ss) hp⟩
    · intro a ha b hb
      rw [List.singleton_append, List.mem_cons] at hb
      rcases hb with rfl | hb
      · exact hta a ha
      · exact (hta a ha).trans (hd b hb)
  · intro u
    have e : u ∈ ss ↔ u ∈ ss.take k ∨ u ∈ ss.drop k := by rw [← List.mem_append, List.take_append_drop]
    rw [e]
    simp only [List.mem_append, List.mem_cons, List.not_mem_nil, or_false]
    constructor
    · rintro ((h | h) | h)
      · exact .inl (.inl h)
      · exact .inr h
      · exact .inl (.inr h)
    · rintro ((h | h) | h)
      · exact .inl (.inl h)
      · exact .inr h
      · exact .inl (.inr h)

theorem put_there {ss : List St} {t : St} (h : t ∈ ss) : ss.Pairwise Ahead → ss.Pairwise Ahead ∧ ∀ u, u ∈ ss ↔ u ∈ ss ∨ u = t := by
  intro hp
  refine ⟨hp, fun u => ⟨.inl, ?_⟩⟩
  rintro (h1 | rfl)
  · exact h1
  · exact h

set_option maxRecDepth 20000 in
set_option maxHeartbeats 3200000 in
theorem stepVal_nil (x y z : Int) (base : Nat) (w : World) (HT : Hid (Near (x, y, z))) (hbase : base ≤ w.heap.size) :
    Calls Tryz.prog 44 #[.slice none 0 0, .agg #[.int .i64 x, .int .i64 y, .int .i64 z]] w (PutRes w base [] (x, y, z)) := by
  obtain ⟨i0, hi0, hz0, hz1, hz2⟩ := info_parts (show (Tryz.prog.info? 48).map (fun i => (i.zero, i.size, i.bytes)) = some (some (.agg #[.int .i64 0, .int .i64 0, .int .i64 0]), 3, 24) by kernel_rfl)
  have V0 : Hid (VarIs (w.alloc (.cells #[.int .i64 x, .int .i64 y, .int .i64 z] 48)) w.heap.size #[.int .i64 x, .int .i64 y, .int .i64 z] 48) := VarIs.new w _ _ rfl
  have A0 : Hid (Below w.heap.size w (w.alloc (.cells #[.int .i64 x, .int .i64 y, .int .i64 z] 48))) := (Below.refl _ w).alloc (Nat.le_refl _) _
  go_enter Tryz.func44, Tryz.ntmps44
  go_wp2_with fail
  go_loopw [5] (fun i wr => i = .int .i64 0 ∧ Hid (Below w.heap.size w wr) ∧ Hid (VarIs wr w.heap.size #[.int .i64 x, .int .i64 y, .int .i64 z] 48)) (fun _ _ => 0)
  case atStart => exact ⟨rfl, A0.out, V0.out⟩
  case round =>
    obtain ⟨rfl, HB, HV⟩ := hrel
    clear A0 V0
    go_wp2_with fail
    go_quiet (fail)
    have HBQ0 := Lib.hid (below_drewN HB.out nq)
    have HVQ0 : Hid (VarIs (wr.drewN nq) w.heap.size #[.int .i64 x, .int .i64 y, .int .i64 z] 48) := HV.out
    generalize wr.drewN nq = wq0 at HBQ0 HVQ0 ⊢
    go_wp2_with fail
    go_quiet (fail)
    have HBQ1 := Lib.hid (below_drewN HBQ0.out nq)
    have HVQ1 : Hid (VarIs (wq0.drewN nq) w.heap.size #[.int .i64 x, .int .i64 y, .int .i64 z] 48) := HVQ0.out
    generalize wq0.drewN nq = wq1 at HBQ1 HVQ1 ⊢
    have BS := HBQ1.out.size
    have T0 : OwnsS 48 (wq1.alloc (.cells #[] 48)) wq1.heap.size (.slice (some ⟨wq1.heap.size, 0, none⟩) 0 0) 0 [] := ownsS_none wq1
    have B0 : Below wq1.heap.size wq1 (wq1.alloc (.cells #[] 48)) := (Below.refl _ wq1).alloc (Nat.le_refl _) _
    have S0 := SrcS.nil (wq1.alloc (.cells #[] 48))
    go_wp2_with (at_builtin; refine wpList_appS rfl (.tmp 35) (.tmp 38) _ _ rfl wq1.heap.size i0 Tryz.underlying29 hi0 hz0 hz1 hz2 _ _ _ rfl T0 _ 0 _ [] rfl S0 (by omega) (by simp) ?_)
    rintro v1 w1 ⟨hown1, hgrow1, hnil1⟩
    have hb1 : Below wq1.heap.size wq1 w1 := T0.grown B0 hgrow1 (Nat.le_refl _) (by simp)
    have V1 := HVQ1.out.below hb1
    have k0 := V1.cell (j := 0) rfl
    have k1 := V1.cell (j := 1) rfl
    have k2 := V1.cell (j := 2) rfl
    have T1 := hown1.alloc (.cells #[.int .i64 x, .int .i64 y, .int .i64 z] 48)
    have S1 : SrcS (w1.alloc (.cells #[.int .i64 x, .int .i64 y, .int .i64 z] 48)) (some ⟨w1.heap.size, 0, none⟩) 1 1 [(x, y, z)] := srcS_box w1 x y z
    clear hnil1 hgrow1 T0 S0 B0
    go_wp2_with (at_builtin; refine wpList_appS rfl (.tmp 40) (.tmp 42) _ _ rfl wq1.heap.size i0 Tryz.underlying29 hi0 hz0 hz1 hz2 _ _ _ rfl T1 _ 1 _ [(x, y, z)] rfl S1 (by omega) (by have := hb1.size; simp; omega) ?_)
    rintro v2 w2 ⟨hown2, hgrow2, hnil2⟩
    have hb2 : Below wq1.heap.size wq1 w2 := T1.grown (hb1.alloc hb1.size _) hgrow2 (Nat.le_refl _) (by have := hb1.size; simp; omega)
    clear hnil2 hgrow2 T1 S1 hown1 k0 k1 k2 V1
    go_wp2_with (at_builtin; refine wpList_appS rfl (.tmp 44) (.tmp 47) _ _ rfl wq1.heap.size i0 Tryz.underlying29 hi0 hz0 hz1 hz2 _ _ _ rfl hown2 _ 0 _ [] rfl (SrcS.nil _) (by omega) hb2.size ?_)
    all_goals
      rintro v3 w3 ⟨hown3, hgrow3, hnil3⟩
      have hb3 : Below wq1.heap.size wq1 w3 := hown2.grown hb2 hgrow3 (Nat.le_refl _) hb2.size
      clear hnil3 hgrow3 hown2
      obtain ⟨a3, c3, rfl⟩ := hown3.form
      go_wp2
      go_ret
      exact ⟨_, _, _, rfl, hown3.mono (Nat.le_trans hbase BS), (near_put (k := 0) (ss := []) (by simp) HT.out), put_good (ss := []) (k := 0) (by simp) (fun j hj => absurd hj (by omega)) (fun s hs => by simp at hs), HBQ1.out.trans (hb3.mono BS)⟩

set_option maxRecDepth 20000 in
set_option maxHeartbeats 6400000 in
theorem stepVal_some (g n c : Nat) (ss : List St) (x y z : Int) (base : Nat) (w : World) (h : OwnsS 48 w base (.slice (some ⟨g, 0, none⟩) n c) n ss) (HT : Hid (Near (x, y, z))) (HS : Hid (∀ s ∈ ss, Near s)) (hn : n ≤ 1048576) (hbase : base ≤ w.heap.size) :
    Calls Tryz.prog 44 #[.slice (some ⟨g, 0, none⟩) n c, .agg #[.int .i64 x, .int .i64 y, .int .i64 z]] w (PutRes w base ss (x, y, z)) := by
  obtain ⟨i0, hi0, hz0, hz1, hz2⟩ := info_parts (show (Tryz.prog.info? 48).map (fun i => (i.zero, i.size, i.bytes)) = some (some (.agg #[.int .i64 0, .int .i64 0, .int .i64 0]), 3, 24) by kernel_rfl)
  have HL := Lib.hid h.length
  obtain ⟨_, hnc, hcm, hr⟩ := h.row
  obtain ⟨hg, hcl⟩ := h.cells
  have HO := Lib.hid h
  have HC := Lib.hid hcl
  clear h hr hcl
  unfold maxLen at hcm
  have V0 : Hid (VarIs (w.alloc (.cells #[.int .i64 x, .int .i64 y, .int .i64 z] 48)) w.heap.size #[.int .i64 x, .int .i64 y, .int .i64 z] 48) := VarIs.new w _ _ rfl
  have A0 : Hid (Below w.heap.size w (w.alloc (.cells #[.int .i64 x, .int .i64 y, .int .i64 z] 48))) := (Below.refl _ w).alloc (Nat.le_refl _) _
  go_enter Tryz.func44, Tryz.ntmps44
  go_wp2_with fail
  go_loopw [5] (fun i wr => ∃ k : Nat, k ≤ n ∧ i = .int .i64 k ∧ Hid (Below w.heap.size w wr) ∧ Hid (VarIs wr w.heap.size #[.int .i64 x, .int .i64 y, .int .i64 z] 48) ∧ Hid (∀ j, j < k → ∀ s, ss[j]? = some s → cmpOf s (x, y, z) < 0)) (fun i _ => n - (intOf i).toNat)
  case atStart => exact ⟨0, Nat.zero_le _, rfl, A0.out, V0.out, fun j hj => absurd hj (by omega)⟩
  case round =>
    obtain ⟨k, hk, rfl, HB, HV, HLE⟩ := hrel
    clear A0 V0
    by_cases hlt : k < n
    · have hkx : k < ss.length := by rw [HL.out]; exact hlt
      obtain ⟨s, hs⟩ : ∃ s, s = ss[k] := ⟨_, rfl⟩
      obtain ⟨c0, c1, c2'⟩ := HC.out k ss[k] (List.getElem?_eq_getElem hkx)
      rw [← hs] at c0 c1 c2'
      have hnx := HB.out
      have k0 := (hnx.cell (p := ⟨g, k * 3, none⟩) hg).trans c0
      have k1 := (hnx.cell (p := ⟨g, k * 3 + 1, none⟩) hg).trans c1
      have k2 := (hnx.cell (p := ⟨g, k * 3 + 2, none⟩) hg).trans c2'
      have HN : Near s := by rw [hs]; exact HS.out _ (List.getElem_mem hkx)
      obtain ⟨x', y', z'⟩ := s
      simp only at k0 k1 k2
      have l0 := HV.out.cell (j := 0) rfl
      have l1 := HV.out.cell (j := 1) rfl
      have l2 := HV.out.cell (j := 2) rfl
      have i1 : (0 : Int) ≤ (k : Int) := by omega
      have i2 : (k : Int) < (n : Int) := by omega
      have HK0 : Hid (ss[k]? = some (x', y', z')) := by unfold Hid; rw [List.getElem?_eq_getElem hkx, ← hs]
      clear c0 c1 c2' hs
      obtain ⟨d, hd⟩ : ∃ d, d = cmpOf (x', y', z') (x, y, z) := ⟨_, rfl⟩
      have HEQ : Hid (∀ W, Calls Tryz.prog 79 #[.agg #[.int .i64 x', .int .i64 y', .int .i64 z'], .agg #[.int .i64 x, .int .i64 y, .int .i64 z]] W fun e w' => e = .returned (.int .i64 d) ∧ Below W.heap.size W w') := fun W => by
        rw [hd]
        exact cmp_any x' y' z' x y z W HN.1 HN.2.1 HN.2.2 HT.out.1 HT.out.2.1 HT.out.2.2
      have HD := Lib.hid hd
      clear hd HN
      by_cases hd0 : d < 0
      · have HLE2 : Hid (∀ j, j < k + 1 → ∀ s, ss[j]? = some s → cmpOf s (x, y, z) < 0) := fun j hj s hs => by
          by_cases e : j = k
          · subst e
            rw [HK0.out] at hs
            cases hs
            rw [← HD.out]
            exact hd0
          · exact HLE.out j (by omega) s hs
        go_wp2
        go_region_held3 (fun w' => Below w.heap.size w w' ∧ VarIs w' w.heap.size #[.int .i64 x, .int .i64 y, .int .i64 z] 48 ∧ w'.cell? ⟨g, k * 3, none⟩ = some (.int .i64 x') ∧ w'.cell? ⟨g, k * 3 + 1, none⟩ = some (.int .i64 y') ∧ w'.cell? ⟨g, k * 3 + 2, none⟩ = some (.int .i64 z') ∧ w'.cell? ⟨w.heap.size, 0, none⟩ = some (.int .i64 x) ∧ w'.cell? ⟨w.heap.size, 1, none⟩ = some (.int .i64 y) ∧ w'.cell? ⟨w.heap.size, 2, none⟩ = some (.int .i64 z))
          (first | (refine ⟨hnx.drew, HV.out.drew, ?_⟩; go_keep) | (exact ⟨hnx.drew.trans (hb'.mono hnx.size), HV.out.drew.below hb', (hb'.cell (p := ⟨g, k * 3, none⟩) (Nat.lt_of_lt_of_le hg hnx.size)).trans k0, (hb'.cell (p := ⟨g, k * 3 + 1, none⟩) (Nat.lt_of_lt_of_le hg hnx.size)).trans k1, (hb'.cell (p := ⟨g, k * 3 + 2, none⟩) (Nat.lt_of_lt_of_le hg hnx.size)).trans k2, (HV.out.drew.below hb').cell rfl, (HV.out.drew.below hb').cell rfl, (HV.out.drew.below hb').cell rfl⟩))
          ((go_at_call 79; refine (HEQ.out _).mono ?_; rintro e w' ⟨rfl, hb'⟩))
        rename_i hH
        have HH := Lib.hid hH.1
        have HH2 := Lib.hid hH.2.1
        clear hH
        go_wp2
        go_roundw
        case rel => exact ⟨k + 1, by omega, by go_num, HH.out, HH2.out, HLE2.out⟩
        case measure => simp [intOf]; omega
      · go_wp2
        go_region_held3 (fun w' => Below w.heap.size w w' ∧ VarIs w' w.heap.size #[.int .i64 x, .int .i64 y, .int .i64 z] 48 ∧ w'.cell? ⟨g, k * 3, none⟩ = some (.int .i64 x') ∧ w'.cell? ⟨g, k * 3 + 1, none⟩ = some (.int .i64 y') ∧ w'.cell? ⟨g, k * 3 + 2, none⟩ = some (.int .i64 z') ∧ w'.cell? ⟨w.heap.size, 0, none⟩ = some (.int .i64 x) ∧ w'.cell? ⟨w.heap.size, 1, none⟩ = some (.int .i64 y) ∧ w'.cell? ⟨w.heap.size, 2, none⟩ = some (.int .i64 z))
          (first | (refine ⟨hnx.drew, HV.out.drew, ?_⟩; go_keep) | (exact ⟨hnx.drew.trans (hb'.mono hnx.size), HV.out.drew.below hb', (hb'.cell (p := ⟨g, k * 3, none⟩) (Nat.lt_of_lt_of_le hg hnx.size)).trans k0, (hb'.cell (p := ⟨g, k * 3 + 1, none⟩) (Nat.lt_of_lt_of_le hg hnx.size)).trans k1, (hb'.cell (p := ⟨g, k * 3 + 2, none⟩) (Nat.lt_of_lt_of_le hg hnx.size)).trans k2, (HV.out.drew.below hb').cell rfl, (HV.out.drew.below hb').cell rfl, (HV.out.drew.below hb').cell rfl⟩))
          ((go_at_call 79; refine (HEQ.out _).mono ?_; rintro e w' ⟨rfl, hb'⟩))
        rename_i hH
        have HBQ0 := Lib.hid hH.1
        have HVQ0 := Lib.hid hH.2.1
        obtain ⟨_, _, k0, k1, k2, l0, l1, l2⟩ := hH
        by_cases he : x' = x ∧ y' = y ∧ z' = z
        · obtain ⟨rfl, rfl, rfl⟩ := he
          go_wp2_with fail
          go_quiet (fail)
          go_wp2_with fail
          go_ret
          exact ⟨_, _, _, rfl, HO.out.below (below_drewN HBQ0.out nq), HS.out, put_there (List.mem_of_getElem? HK0.out), below_drewN HBQ0.out nq⟩
        · have HPG : Hid (ss.Pairwise Ahead → (ss.take k ++ [(x, y, z)] ++ ss.drop k).Pairwise Ahead ∧ ∀ u, u ∈ ss.take k ++ [(x, y, z)] ++ ss.drop k ↔ u ∈ ss ∨ u = (x, y, z)) := put_good (by rw [HL.out]; exact hk) HLE.out (fun s hs => by
            rw [HK0.out] at hs
            cases hs
            exact ⟨by rw [← HD.out]; omega, fun e => he (by cases e; exact ⟨rfl, rfl, rfl⟩)⟩)
          by_cases f1 : x' = x
          · obtain rfl := f1.symm
            by_cases f2 : y' = y
            · obtain rfl := f2.symm
              have f3 : ¬ z' = z := fun e => he ⟨rfl, rfl, e⟩
              have g3 : (z' == z) = false := by simp [f3]
              clear he
              go_wp2_with fail
              go_quiet (fail)
              have HBQ1 := Lib.hid (below_drewN HBQ0.out nq)
              have HVQ1 : Hid (VarIs (w'.drewN nq) w.heap.size #[.int .i64 x, .int .i64 y, .int .i64 z] 48) := HVQ0.out
              generalize w'.drewN nq = wq1 at HBQ1 HVQ1 ⊢
              clear k0 k1 k2 l0 l1 l2
              have HCR : Hid (∀ j s, ss[j]? = some s → wq1.cell? ⟨g, j * 3, none⟩ = some (.int .i64 s.1) ∧ wq1.cell? ⟨g, j * 3 + 1, none⟩ = some (.int .i64 s.2.1) ∧ wq1.cell? ⟨g, j * 3 + 2, none⟩ = some (.int .i64 s.2.2)) := (HO.out.below HBQ1.out).cells.2
              have HGR : Hid (g < wq1.heap.size) := (HO.out.below HBQ1.out).cells.1
              have BS := HBQ1.out.size
              have T0 : OwnsS 48 (wq1.alloc (.cells #[] 48)) wq1.heap.size (.slice (some ⟨wq1.heap.size, 0, none⟩) 0 0) 0 [] := ownsS_none wq1
              have B0 : Below wq1.heap.size wq1 (wq1.alloc (.cells #[] 48)) := (Below.refl _ wq1).alloc (Nat.le_refl _) _
              have S0 := src_takeS (c := c) HCR.out HGR.out HL.out hk B0
              have KT : Hid ((ss.take k).length = k) := by unfold Hid; rw [List.length_take, HL.out]; omega
              go_wp2_with (at_builtin; refine wpList_appS rfl (.tmp 35) (.tmp 38) _ _ rfl wq1.heap.size i0 Tryz.underlying29 hi0 hz0 hz1 hz2 _ _ _ rfl T0 _ k _ (ss.take k) rfl S0 (by omega) (by simp) ?_)
              rintro v1 w1 ⟨hown1, hgrow1, hnil1⟩
              have hb1 : Below wq1.heap.size wq1 w1 := T0.grown B0 hgrow1 (Nat.le_refl _) (by simp)
              have V1 := HVQ1.out.below hb1
              have k0 := V1.cell (j := 0) rfl
              have k1 := V1.cell (j := 1) rfl
              have k2 := V1.cell (j := 2) rfl
              have T1 := hown1.alloc (.cells #[.int .i64 x, .int .i64 y, .int .i64 z] 48)
              have S1 : SrcS (w1.alloc (.cells #[.int .i64 x, .int .i64 y, .int .i64 z] 48)) (some ⟨w1.heap.size, 0, none⟩) 1 1 [(x, y, z)] := srcS_box w1 x y z
              clear hnil1 hgrow1 T0 S0 B0
              go_wp2_with (at_builtin; refine wpList_appS rfl (.tmp 40) (.tmp 42) _ _ rfl wq1.heap.size i0 Tryz.underlying29 hi0 hz0 hz1 hz2 _ _ _ rfl T1 _ 1 _ [(x, y, z)] rfl S1 (by omega) (by have := hb1.size; simp; omega) ?_)
              rintro v2 w2 ⟨hown2, hgrow2, hnil2⟩
              have hb2 : Below wq1.heap.size wq1 w2 := T1.grown (hb1.alloc hb1.size _) hgrow2 (Nat.le_refl _) (by have := hb1.size; simp; omega)
              clear hnil2 hgrow2 T1 S1 hown1 k0 k1 k2 V1
              go_wp2_with (at_builtin; refine wpList_appS rfl (.tmp 44) (.tmp 47) _ _ rfl wq1.heap.size i0 Tryz.underlying29 hi0 hz0 hz1 hz2 _ _ _ rfl hown2 _ (n - k) _ (ss.drop k) rfl (src_dropS HCR.out HGR.out HL.out hnc hk hb2 (by intro h; first | rfl | simp [h]) (by first | exact ⟨_, rfl⟩ | (split <;> exact ⟨_, rfl⟩))) (by omega) hb2.size ?_)
              all_goals
                rintro v3 w3 ⟨hown3, hgrow3, hnil3⟩
                have hb3 : Below wq1.heap.size wq1 w3 := hown2.grown hb2 hgrow3 (Nat.le_refl _) hb2.size
                clear hnil3 hgrow3 hown2
                obtain ⟨a3, c3, rfl⟩ := hown3.form
                go_wp2
                go_ret
                exact ⟨_, _, _, rfl, hown3.mono (Nat.le_trans hbase BS), near_put HS.out HT.out, HPG.out, HBQ1.out.trans (hb3.mono BS)⟩
            · have g2 : (y' == y) = false := by simp [f2]
              clear he
              go_wp2_with fail
              go_quiet (fail)
              have HBQ1 := Lib.hid (below_drewN HBQ0.out nq)
              have HVQ1 : Hid (VarIs (w'.drewN nq) w.heap.size #[.int .i64 x, .int .i64 y, .int .i64 z] 48) := HVQ0.out
              generalize w'.drewN nq = wq1 at HBQ1 HVQ1 ⊢
              clear k0 k1 k2 l0 l1 l2
              have HCR : Hid (∀ j s, ss[j]? = some s → wq1.cell? ⟨g, j * 3, none⟩ = some (.int .i64 s.1) ∧ wq1.cell? ⟨g, j * 3 + 1, none⟩ = some (.int .i64 s.2.1) ∧ wq1.cell? ⟨g, j * 3 + 2, none⟩ = some (.int .i64 s.2.2)) := (HO.out.below HBQ1.out).cells.2
              have HGR : Hid (g < wq1.heap.size) := (HO.out.below HBQ1.out).cells.1
              have BS := HBQ1.out.size
              have T0 : OwnsS 48 (wq1.alloc (.cells #[] 48)) wq1.heap.size (.slice (some ⟨wq1.heap.size, 0, none⟩) 0 0) 0 [] := ownsS_none wq1
              have B0 : Below wq1.heap.size wq1 (wq1.alloc (.cells #[] 48)) := (Below.refl _ wq1).alloc (Nat.le_refl _) _
              have S0 := src_takeS (c := c) HCR.out HGR.out HL.out hk B0
              have KT : Hid ((ss.take k).length = k) := by unfold Hid; rw [List.length_take, HL.out]; omega
              go_wp2_with (at_builtin; refine wpList_appS rfl (.tmp 35) (.tmp 38) _ _ rfl wq1.heap.size i0 Tryz.underlying29 hi0 hz0 hz1 hz2 _ _ _ rfl T0 _ k _ (ss.take k) rfl S0 (by omega) (by simp) ?_)
              rintro v1 w1 ⟨hown1, hgrow1, hnil1⟩
              have hb1 : Below wq1.heap.size wq1 w1 := T0.grown B0 hgrow1 (Nat.le_refl _) (by simp)
              have V1 := HVQ1.out.below hb1
              have k0 := V1.cell (j := 0) rfl
              have k1 := V1.cell (j := 1) rfl
              have k2 := V1.cell (j := 2) rfl
              have T1 := hown1.alloc (.cells #[.int .i64 x, .int .i64 y, .int .i64 z] 48)
              have S1 : SrcS (w1.alloc (.cells #[.int .i64 x, .int .i64 y, .int .i64 z] 48)) (some ⟨w1.heap.size, 0, none⟩) 1 1 [(x, y, z)] := srcS_box w1 x y z
              clear hnil1 hgrow1 T0 S0 B0
              go_wp2_with (at_builtin; refine wpList_appS rfl (.tmp 40) (.tmp 42) _ _ rfl wq1.heap.size i0 Tryz.underlying29 hi0 hz0 hz1 hz2 _ _ _ rfl T1 _ 1 _ [(x, y, z)] rfl S1 (by omega) (by have := hb1.size; simp; omega) ?_)
              rintro v2 w2 ⟨hown2, hgrow2, hnil2⟩
              have hb2 : Below wq1.heap.size wq1 w2 := T1.grown (hb1.alloc hb1.size _) hgrow2 (Nat.le_refl _) (by have := hb1.size; simp; omega)
              clear hnil2 hgrow2 T1 S1 hown1 k0 k1 k2 V1
              go_wp2_with (at_builtin; refine wpList_appS rfl (.tmp 44) (.tmp 47) _ _ rfl wq1.heap.size i0 Tryz.underlying29 hi0 hz0 hz1 hz2 _ _ _ rfl hown2 _ (n - k) _ (ss.drop k) rfl (src_dropS HCR.out HGR.out HL.out hnc hk hb2 (by intro h; first | rfl | simp [h]) (by first | exact ⟨_, rfl⟩ | (split <;> exact ⟨_, rfl⟩))) (by omega) hb2.size ?_)
              all_goals
                rintro v3 w3 ⟨hown3, hgrow3, hnil3⟩
                have hb3 : Below wq1.heap.size wq1 w3 := hown2.grown hb2 hgrow3 (Nat.le_refl _) hb2.size
                clear hnil3 hgrow3 hown2
                obtain ⟨a3, c3, rfl⟩ := hown3.form
                go_wp2
                go_ret
                exact ⟨_, _, _, rfl, hown3.mono (Nat.le_trans hbase BS), near_put HS.out HT.out, HPG.out, HBQ1.out.trans (hb3.mono BS)⟩
          · have g1 : (x' == x) = false := by simp [f1]
            clear he
            go_wp2_with fail
            go_quiet (fail)
            have HBQ1 := Lib.hid (below_drewN HBQ0.out nq)
            have HVQ1 : Hid (VarIs (w'.drewN nq) w.heap.size #[.int .i64 x, .int .i64 y, .int .i64 z] 48) := HVQ0.out
            generalize w'.drewN nq = wq1 at HBQ1 HVQ1 ⊢
            clear k0 k1 k2 l0 l1 l2
            have HCR : Hid (∀ j s, ss[j]? = some s → wq1.cell? ⟨g, j * 3, none⟩ = some (.int .i64 s.1) ∧ wq1.cell? ⟨g, j * 3 + 1, none⟩ = some (.int .i64 s.2.1) ∧ wq1.cell? ⟨g, j * 3 + 2, none⟩ = some (.int .i64 s.2.2)) := (HO.out.below HBQ1.out).cells.2
            have HGR : Hid (g < wq1.heap.size) := (HO.out.below HBQ1.out).cells.1
            have BS := HBQ1.out.size
            have T0 : OwnsS 48 (wq1.alloc (.cells #[] 48)) wq1.heap.size (.slice (some ⟨wq1.heap.size, 0, none⟩) 0 0) 0 [] := ownsS_none wq1
            have B0 : Below wq1.heap.size wq1 (wq1.alloc (.cells #[] 48)) := (Below.refl _ wq1).alloc (Nat.le_refl _) _
            have S0 := src_takeS (c := c) HCR.out HGR.out HL.out hk B0
            have KT : Hid ((ss.take k).length = k) := by unfold Hid; rw [List.length_take, HL.out]; omega
            go_wp2_with (at_builtin; refine wpList_appS rfl (.tmp 35) (.tmp 38) _ _ rfl wq1.heap.size i0 Tryz.underlying29 hi0 hz0 hz1 hz2 _ _ _ rfl T0 _ k _ (ss.take k) rfl S0 (by omega) (by simp) ?_)
            rintro v1 w1 ⟨hown1, hgrow1, hnil1⟩
            have hb1 : Below wq1.heap.size wq1 w1 := T0.grown B0 hgrow1 (Nat.le_refl _) (by simp)
            have V1 := HVQ1.out.below hb1
            have k0 := V1.cell (j := 0) rfl
            have k1 := V1.cell (j := 1) rfl
            have k2 := V1.cell (j := 2) rfl
            have T1 := hown1.alloc (.cells #[.int .i64 x, .int .i64 y, .int .i64 z] 48)
            have S1 : SrcS (w1.alloc (.cells #[.int .i64 x, .int .i64 y, .int .i64 z] 48)) (some ⟨w1.heap.size, 0, none⟩) 1 1 [(x, y, z)] := srcS_box w1 x y z
            clear hnil1 hgrow1 T0 S0 B0
            go_wp2_with (at_builtin; refine wpList_appS rfl (.tmp 40) (.tmp 42) _ _ rfl wq1.heap.size i0 Tryz.underlying29 hi0 hz0 hz1 hz2 _ _ _ rfl T1 _ 1 _ [(x, y, z)] rfl S1 (by omega) (by have := hb1.size; simp; omega) ?_)
            rintro v2 w2 ⟨hown2, hgrow2, hnil2⟩
            have hb2 : Below wq1.heap.size wq1 w2 := T1.grown (hb1.alloc hb1.size _) hgrow2 (Nat.le_refl _) (by have := hb1.size; simp; omega)
            clear hnil2 hgrow2 T1 S1 hown1 k0 k1 k2 V1
            go_wp2_with (at_builtin; refine wpList_appS rfl (.tmp 44) (.tmp 47) _ _ rfl wq1.heap.size i0 Tryz.underlying29 hi0 hz0 hz1 hz2 _ _ _ rfl hown2 _ (n - k) _ (ss.drop k) rfl (src_dropS HCR.out HGR.out HL.out hnc hk hb2 (by intro h; first | rfl | simp [h]) (by first | exact ⟨_, rfl⟩ | (split <;> exact ⟨_, rfl⟩))) (by omega) hb2.size ?_)
            all_goals
              rintro v3 w3 ⟨hown3, hgrow3, hnil3⟩
              have hb3 : Below wq1.heap.size wq1 w3 := hown2.grown hb2 hgrow3 (Nat.le_refl _) hb2.size
              clear hnil3 hgrow3 hown2
              obtain ⟨a3, c3, rfl⟩ := hown3.form
              go_wp2
              go_ret
              exact ⟨_, _, _, rfl, hown3.mono (Nat.le_trans hbase BS), near_put HS.out HT.out, HPG.out, HBQ1.out.trans (hb3.mono BS)⟩
    · have HKN : Hid (k = n) := by unfold Hid; omega
      have HPG : Hid (ss.Pairwise Ahead → (ss.take k ++ [(x, y, z)] ++ ss.drop k).Pairwise Ahead ∧ ∀ u, u ∈ ss.take k ++ [(x, y, z)] ++ ss.drop k ↔ u ∈ ss ∨ u = (x, y, z)) := put_good (by rw [HL.out]; exact hk) HLE.out (fun s hs => by
        rw [List.getElem?_eq_none (by rw [HL.out]; omega)] at hs
        cases hs)
      go_wp2_with fail
      go_quiet (fail)
      have HBQ0 := Lib.hid (below_drewN HB.out nq)
      have HVQ0 : Hid (VarIs (wr.drewN nq) w.heap.size #[.int .i64 x, .int .i64 y, .int .i64 z] 48) := HV.out
      generalize wr.drewN nq = wq0 at HBQ0 HVQ0 ⊢
      go_wp2_with fail
      go_quiet (fail)
      have HBQ1 := Lib.hid (below_drewN HBQ0.out nq)
      have HVQ1 : Hid (VarIs (wq0.drewN nq) w.heap.size #[.int .i64 x, .int .i64 y, .int .i64 z] 48) := HVQ0.out
      generalize wq0.drewN nq = wq1 at HBQ1 HVQ1 ⊢
      have HCR : Hid (∀ j s, ss[j]? = some s → wq1.cell? ⟨g, j * 3, none⟩ = some (.int .i64 s.1) ∧ wq1.cell? ⟨g, j * 3 + 1, none⟩ = some (.int .i64 s.2.1) ∧ wq1.cell? ⟨g, j * 3 + 2, none⟩ = some (.int .i64 s.2.2)) := (HO.out.below HBQ1.out).cells.2
      have HGR : Hid (g < wq1.heap.size) := (HO.out.below HBQ1.out).cells.1
      have BS := HBQ1.out.size
      have T0 : OwnsS 48 (wq1.alloc (.cells #[] 48)) wq1.heap.size (.slice (some ⟨wq1.heap.size, 0, none⟩) 0 0) 0 [] := ownsS_none wq1
      have B0 : Below wq1.heap.size wq1 (wq1.alloc (.cells #[] 48)) := (Below.refl _ wq1).alloc (Nat.le_refl _) _
      have S0 := src_takeS (c := c) HCR.out HGR.out HL.out hk B0
      have KT : Hid ((ss.take k).length = k) := by unfold Hid; rw [List.length_take, HL.out]; omega
      go_wp2_with (at_builtin; refine wpList_appS rfl (.tmp 35) (.tmp 38) _ _ rfl wq1.heap.size i0 Tryz.underlying29 hi0 hz0 hz1 hz2 _ _ _ rfl T0 _ k _ (ss.take k) rfl S0 (by omega) (by simp) ?_)
      rintro v1 w1 ⟨hown1, hgrow1, hnil1⟩
      have hb1 : Below wq1.heap.size wq1 w1 := T0.grown B0 hgrow1 (Nat.le_refl _) (by simp)
      have V1 := HVQ1.out.below hb1
      have k0 := V1.cell (j := 0) rfl
      have k1 := V1.cell (j := 1) rfl
      have k2 := V1.cell (j := 2) rfl
      have T1 := hown1.alloc (.cells #[.int .i64 x, .int .i64 y, .int .i64 z] 48)
      have S1 : SrcS (w1.alloc (.cells #[.int .i64 x, .int .i64 y, .int .i64 z] 48)) (some ⟨w1.heap.size, 0, none⟩) 1 1 [(x, y, z)] := srcS_box w1 x y z
      clear hnil1 hgrow1 T0 S0 B0
      go_wp2_with (at_builtin; refine wpList_appS rfl (.tmp 40) (.tmp 42) _ _ rfl wq1.heap.size i0 Tryz.underlying29 hi0 hz0 hz1 hz2 _ _ _ rfl T1 _ 1 _ [(x, y, z)] rfl S1 (by omega) (by have := hb1.size; simp; omega) ?_)
      rintro v2 w2 ⟨hown2, hgrow2, hnil2⟩
      have hb2 : Below wq1.heap.size wq1 w2 := T1.grown (hb1.alloc hb1.size _) hgrow2 (Nat.le_refl _) (by have := hb1.size; simp; omega)
      clear hnil2 hgrow2 T1 S1 hown1 k0 k1 k2 V1
      go_wp2_with (at_builtin; refine wpList_appS rfl (.tmp 44) (.tmp 47) _ _ rfl wq1.heap.size i0 Tryz.underlying29 hi0 hz0 hz1 hz2 _ _ _ rfl hown2 _ (n - k) _ (ss.drop k) rfl (src_dropS HCR.out HGR.out HL.out hnc hk hb2 (by intro h; first | rfl | simp [h]) (by first | exact ⟨_, rfl⟩ | (split <;> exact ⟨_, rfl⟩))) (by omega) hb2.size ?_)
      all_goals
        rintro v3 w3 ⟨hown3, hgrow3, hnil3⟩
        have hb3 : Below wq1.heap.size wq1 w3 := hown2.grown hb2 hgrow3 (Nat.le_refl _) hb2.size
        clear hnil3 hgrow3 hown2
        obtain ⟨a3, c3, rfl⟩ := hown3.form
        go_wp2
        go_ret
        exact ⟨_, _, _, rfl, hown3.mono (Nat.le_trans hbase BS), near_put HS.out HT.out, HPG.out, HBQ1.out.trans (hb3.mono BS)⟩

/-- l02Step on a row of the call's own. -/
theorem stepVal_any (v : Value) (n : Nat) (ss : List St) (x y z : Int) (base : Nat) (w : World) (h : OwnsS 48 w base v n ss) (ht : Near (x, y, z)) (hs : ∀ s ∈ ss, Near s) (hn : n ≤ 1048576) (hbase : base ≤ w.heap.size) :
    Calls Tryz.prog 44 #[v, .agg #[.int .i64 x, .int .i64 y, .int .i64 z]] w (PutRes w base ss (x, y, z)) := by
  by_cases hv : v = .slice none 0 0
  · subst hv
    have h1 := h.row.1
    have h2 := h.length
    obtain rfl : ss = [] := List.length_eq_zero_iff.1 (by omega)
    exact stepVal_nil x y z base w ht hbase
  · obtain ⟨g, c, rfl⟩ := h.head hv
    exact stepVal_some g n c ss x y z base w h ht hs hn hbase

end Go.Proofs.YtdbgjgeglgipiaaGreat

/-
  A region that draws its order, by its states: what holds in each state, whichever way it was come to. And: a list is copied by an append onto an empty slice, in whatever order. Conditions: as each statement says; nothing here speaks of the program.
-/
namespace Go.Proofs.YtdbgjgeglgipiaaGreat
open Go.RowKit

/-- A row of ints that is there, an empty one, too. -/
def RowN (w : World) (ad : Option Addr) (n : Nat) (xs : List Int) : Prop := Row w ad n xs ∧ ∃ b o, ad = some ⟨b, o, none⟩
theorem RowN.below {w w' : World} {ad : Option Addr} {n : Nat} {xs : List Int} (h : RowN w ad n xs) (hb : Below w.heap.size w w') : RowN w' ad n xs := ⟨Row.below h.1 hb, h.2⟩

/-- A row that does not lie in the variable at 'u'. -/
def RowAway (w : World) (ad : Option Addr) (n : Nat) (xs : List Int) (u : Value) : Prop := RowN w ad n xs ∧ ∀ b, u = .pointer (some ⟨b, 0, none⟩) → ∀ q, ad = some q → 0 < n → q.block ≠ b

theorem Row.grown {w w' : World} {a : Option Addr} {n b : Nat} {xs : List Int} (h : Row w a n xs) (hg : w.grownBy w' (some b)) (hb : ∀ q, a = some q → 0 < n → q.block ≠ b) : Row w' a n xs := by
  refine ⟨h.1, fun hn => ?_⟩
  obtain ⟨b', off, e, hlt, hc⟩ := h.2 hn
  have hne : b' ≠ b := hb _ e hn
  refine ⟨b', off, e, Nat.lt_of_lt_of_le hlt hg.size, fun j hj => ?_⟩
  rw [World.cell?_of_block (hg.block b' hlt (fun e => hne (Option.some.inj e)))]
  exact hc j hj

theorem Row.lt {w : World} {a : Option Addr} {n : Nat} {xs : List Int} (h : Row w a n xs) : ∀ q, a = some q → 0 < n → q.block < w.heap.size := by
  intro q hq hn
  obtain ⟨b, off, e, hlt, _⟩ := h.2 hn
  rw [hq] at e
  cases e
  exact hlt

theorem RowAway.below {w w' : World} {ad : Option Addr} {n : Nat} {xs : List Int} {u : Value} (h : RowAway w ad n xs u) (hb : Below w.heap.size w w') : RowAway w' ad n xs u := ⟨h.1.below hb, h.2⟩

/-- Six cells are stored into a variable. -/
theorem VarIs.sets {w : World} {b : Nat} {t : TypeId} {z0 z1 z2 z3 z4 z5 : Value} (h : VarIs w b #[z0, z1, z2, z3, z4, z5] t) (v0 v1 v2 v3 v4 v5 : Value) : VarIs (w.setCells b 0 [v0, v1, v2, v3, v4, v5]) b #[v0, v1, v2, v3, v4, v5] t :=
  ((((((h.set 0 v0).set 1 v1).set 2 v2).set 3 v3).set 4 v4).set 5 v5)

end Go.Proofs.YtdbgjgeglgipiaaGreat

/-
  The steps of the model's product, as a list in the order in which they are put: the same steps as the program's. Conditions: as each statement says; nothing here speaks of the program.
-/
namespace Go.Proofs.YtdbgjgeglgipiaaGreat
open Go.RowKit

/-- What the model puts for one step of the first beside one state of the second. -/
def putsAt (sh : List Int) (su : Int) (tt : List St) (x : St) (q : Int) : List St :=
  if hasB sh x.2.1 then (afterL tt q x.2.1).map fun t => (x.1 * su + q, x.2.1, x.2.2 * su + t) else [(x.1 * su + q, x.2.1, x.2.2 * su + q)]

/-- .. beside the first j states. -/
def putsRow (sh : List Int) (su : Int) (tt : List St) (x : St) (j : Nat) : List St := (List.range j).flatMap fun q : Nat => putsAt sh su tt x (q : Int)

def putsA (sh : List Int) (su : Int) (m : Nat) (ss tt : List St) : List St := ss.flatMap fun x => putsRow sh su tt x m

theorem putsRow_succ (sh : List Int) (su : Int) (tt : List St) (x : St) (j : Nat) : putsRow sh su tt x (j + 1) = putsRow sh su tt x j ++ putsAt sh su tt x (j : Int) := by
  unfold putsRow
  rw [List.range_succ, List.flatMap_append, List.flatMap_singleton]

theorem putsA_take {sh : List Int} {su : Int} {m : Nat} {ss tt : List St} {k : Nat} (hk : k < ss.length) : putsA sh su m (ss.take (k + 1)) tt = putsA sh su m (ss.take k) tt ++ putsRow sh su tt ss[k] m := by
  unfold putsA
  rw [List.take_succ_eq_append_getElem hk, List.flatMap_append, List.flatMap_singleton]

theorem mem_putsRow {sh : List Int} {su : Int} {tt : List St} {x u : St} {j : Nat} : u ∈ putsRow sh su tt x j ↔ ∃ q : Nat, q < j ∧ u ∈ putsAt sh su tt x (q : Int) := by
  unfold putsRow
  simp only [List.mem_flatMap, List.mem_range]

/-- The model puts just the steps of the product. -/
theorem puts_same {a b : IaD} (h : fitB a b = true) (u : St) :
    u ∈ putsA (shOf a b) b.states b.states.toNat a.steps b.steps ++ aloneB (shOf a b) b.states a.states.toNat b.steps ↔ u ∈ prodL a b := by
  have hab := h
  unfold fitB at hab
  simp only [Bool.and_eq_true, decide_eq_true_eq] at hab
  obtain ⟨⟨⟨ha, hb⟩, _⟩, _⟩ := hab
  have sB := iaOk_states hb
  have eB := iaOk_ends hb
  unfold prodL
  simp only [List.mem_append]
  have key : u ∈ putsA (shOf a b) b.states b.states.toNat a.steps b.steps ↔ u ∈ aloneA (shOf a b) b.states b.states.toNat a.steps ∨ u ∈ togetherL (shOf a b) b.states a.steps b.steps := by
    unfold putsA
    rw [List.mem_flatMap, mem_aloneA, mem_togetherL]
    constructor
    · rintro ⟨x, hx, hu⟩
      obtain ⟨q, hq, hu⟩ := mem_putsRow.1 hu
      unfold putsAt at hu
      cases hs : hasB (shOf a b) x.2.1 with
      | false =>
        rw [hs] at hu
        simp only [Bool.false_eq_true, if_false, List.mem_singleton] at hu
        exact .inl ⟨x, hx, hs, mem_besideA.2 ⟨q, hq, hu⟩⟩
      | true =>
        rw [hs] at hu
        simp only [if_true, List.mem_map] at hu
        obtain ⟨t, ht, rfl⟩ := hu
        exact .inr ⟨x, hx, hs, mem_besideT.2 ⟨((q : Int), x.2.1, t), mem_afterL.1 ht, rfl, rfl⟩⟩
    · rintro (⟨x, hx, hs, hu⟩ | ⟨x, hx, hs, hu⟩)
      · obtain ⟨q, hq, e⟩ := mem_besideA.1 hu
        refine ⟨x, hx, mem_putsRow.2 ⟨q, hq, ?_⟩⟩
        unfold putsAt
        rw [hs]
        simp [e]
      · obtain ⟨y, hy, hya, e⟩ := mem_besideT.1 hu
        have hy1 := (eB y hy).1
        refine ⟨x, hx, mem_putsRow.2 ⟨y.1.toNat, by omega, ?_⟩⟩
        have e1 : ((y.1.toNat : Nat) : Int) = y.1 := by omega
        unfold putsAt
        rw [hs, e1]
        simp only [if_true, List.mem_map]
        refine ⟨y.2.2, mem_afterL.2 ?_, e.symm⟩
        obtain ⟨y1, y2, y3⟩ := y
        simp only at hya ⊢
        rw [← hya]
        exact hy
  rw [key]
  constructor
  · rintro ((h1 | h1) | h1)
    · exact .inl (.inl h1)
    · exact .inr h1
    · exact .inl (.inr h1)
  · rintro ((h1 | h1) | h1)
    · exact .inl (.inl h1)
    · exact .inr h1
    · exact .inl (.inr h1)

end Go.Proofs.YtdbgjgeglgipiaaGreat

/-
  The model's product while it is made: its box, its rows, the steps put so far. Conditions: as each statement says; nothing here speaks of the program.
-/
namespace Go.Proofs.YtdbgjgeglgipiaaGreat
open Go.RowKit

theorem ahead_len : ∀ {L P : List St}, L.Pairwise Ahead → (∀ u ∈ L, u ∈ P) → L.length ≤ P.length
  | [], _, _, _ => Nat.zero_le _
  | x :: r, P, h, hs => by
    obtain ⟨h1, h2⟩ := List.pairwise_cons.1 h
    have hx := hs x (by simp)
    have h3 := ahead_len (P := P.erase x) h2 (fun u hu => (List.mem_erase_of_ne (h1 u hu).ne.symm).2 (hs u (by simp [hu])))
    have h4 := List.length_erase_of_mem hx
    have h5 := List.length_pos_of_mem hx
    simp only [List.length_cons]
    omega

theorem grown_set1 (w : World) (A j : Nat) (u : Value) : w.grownBy (w.setCell ⟨A, j, none⟩ u) (some A) :=
  ⟨rfl, rfl, rfl, by simp [World.setCell], fun k _ hk => Below.heap_setCell _ _ _ _ (fun e => hk (by simp [e]))⟩

/-- The steps that have been put: sorted, each one of the product. -/
def Good (PL J L : List St) : Prop := L.Pairwise Ahead ∧ (∀ s ∈ L, Near s) ∧ (∀ u, u ∈ L ↔ u ∈ J) ∧ ∀ u ∈ L, u ∈ PL

theorem Good.start (PL : List St) : Good PL [] [] := ⟨List.Pairwise.nil, (fun s hs => by cases hs), (fun _ => Iff.rfl), (fun u hu => by cases hu)⟩

theorem Good.put {PL J L L' : List St} {t : St} (h : Good PL J L) (h1 : ∀ s ∈ L', Near s) (h2 : L.Pairwise Ahead → L'.Pairwise Ahead ∧ ∀ u, u ∈ L' ↔ u ∈ L ∨ u = t) (ht : t ∈ PL) : Good PL (J ++ [t]) L' := by
  obtain ⟨k1, k2⟩ := h2 h.1
  refine ⟨k1, h1, fun u => ?_, fun u hu => ?_⟩
  · rw [k2 u, h.2.2.1 u]; simp
  · rcases (k2 u).1 hu with hu | rfl
    · exact h.2.2.2 u hu
    · exact ht

theorem Good.len {PL J L : List St} (h : Good PL J L) : L.length ≤ PL.length := ahead_len h.1 h.2.2.2

/-- What stands while the product is made. -/
structure PS (w W : World) (bo : Nat) (A B : Array Value) (s0 s1 : Int) (SH : Value) (sn : Nat) (sh : List Int) (x2 x3 x4 : Value) (X2 X3 X4 : List Int) (v5 : Value) (L : List St) : Prop where
  bel : Below w.heap.size w W
  ba : VarIs W w.heap.size A 31
  bb : VarIs W (w.heap.size + 1) B 31
  res : VarIs W (w.heap.size + 2) #[.int .i64 0, .int .i64 0, .slice none 0 0, .slice none 0 0, .slice none 0 0, .slice none 0 0] 31
  osh : Owns W w.heap.size SH sn sh
  box : VarIs W bo #[.int .i64 s0, .int .i64 s1, x2, x3, x4, v5] 31
  o2 : Owns W w.heap.size x2 X2.length X2
  o3 : Owns W w.heap.size x3 X3.length X3
  o4 : Owns W w.heap.size x4 X4.length X4
  o5 : OwnsS 48 W w.heap.size v5 L.length L
  lt : w.heap.size + 2 < bo

section
variable {w W W' : World} {bo : Nat} {A B : Array Value} {s0 s1 : Int} {SH : Value} {sn : Nat} {sh : List Int} {x2 x3 x4 : Value} {X2 X3 X4 : List Int} {v5 : Value} {L : List St}

theorem PS.below (h : PS w W bo A B s0 s1 SH sn sh x2 x3 x4 X2 X3 X4 v5 L) (hb : Below W.heap.size W W') : PS w W' bo A B s0 s1 SH sn sh x2 x3 x4 X2 X3 X4 v5 L :=
  ⟨h.bel.trans (hb.mono h.bel.size), h.ba.below hb, h.bb.below hb, h.res.below hb, h.osh.below hb, h.box.below hb, h.o2.below hb, h.o3.below hb, h.o4.below hb, h.o5.below hb, h.lt⟩

theorem PS.alloc (h : PS w W bo A B s0 s1 SH sn sh x2 x3 x4 X2 X3 X4 v5 L) (o : Obj) : PS w (W.alloc o) bo A B s0 s1 SH sn sh x2 x3 x4 X2 X3 X4 v5 L :=
  h.below ((Below.refl _ _).alloc (Nat.le_refl _) _)

theorem PS.drew (h : PS w W bo A B s0 s1 SH sn sh x2 x3 x4 X2 X3 X4 v5 L) : PS w W.drew bo A B s0 s1 SH sn sh x2 x3 x4 X2 X3 X4 v5 L :=
  ⟨h.bel.drew, h.ba, h.bb, h.res, h.osh, h.box, h.o2, h.o3, h.o4, h.o5, h.lt⟩

theorem PS.put {v' : Value} {n' : Nat} {L' : List St} (h : PS w W bo A B s0 s1 SH sn sh x2 x3 x4 X2 X3 X4 v5 L) (hb : Below W.heap.size W W') (ho : OwnsS 48 W' w.heap.size v' n' L') :
    PS w (W'.setCell ⟨bo, 5, none⟩ v') bo A B s0 s1 SH sn sh x2 x3 x4 X2 X3 X4 v' L' := by
  have k := h.below hb
  have hg := grown_set1 W' bo 5 v'
  have hlt := k.lt
  have e := ho.length
  rw [← e] at ho
  refine ⟨k.bel.setCell (show w.heap.size ≤ bo by omega) _, k.ba.other (by omega) _, k.bb.other (by omega) _, k.res.other (by omega) _, k.osh.keep hg (fun b hb' he => own_var k.osh k.box (by decide) (hb'.trans he)), k.box.set 5 v', k.o2.keep hg (fun b hb' he => own_var k.o2 k.box (by decide) (hb'.trans he)),
    k.o3.keep hg (fun b hb' he => own_var k.o3 k.box (by decide) (hb'.trans he)), k.o4.keep hg (fun b hb' he => own_var k.o4 k.box (by decide) (hb'.trans he)), ho.keep hg (fun b hb' he => own_var ho k.box (by decide) (hb'.trans he)), k.lt⟩

end

end Go.Proofs.YtdbgjgeglgipiaaGreat

/-
  The contract of the model's Product. Conditions: the lists have at most 2^20 elements.
-/
namespace Go.Proofs.YtdbgjgeglgipiaaGreat
open Go.RowKit

theorem near_of {x y z : Int} (h1 : -1000000 ≤ x ∧ x ≤ 1000000) (h2 : -1000000 ≤ y ∧ y ≤ 1000000) (h3 : -1000000 ≤ z ∧ z ≤ 1000000) : Near (x, y, z) := by
  unfold Near
  simp only
  omega

theorem act_low {a : IaD} (h : iaOkB a = true) : ∀ x ∈ a.steps, 0 ≤ x.2.1 ∧ x.2.1 ≤ 11 := by
  intro x hx
  obtain ⟨s1, s2, s3⟩ := iaOk_sets h
  rcases (iaOk_ends h x hx).2.2 with k | k | k
  · exact setOk_low s1 _ k
  · exact setOk_low s2 _ k
  · exact setOk_low s3 _ k

/-- The three sets' lists are there, empty ones, too. -/
def NoNil (v : Value) : Prop := ∃ (g2 n2 c2 g3 n3 c3 g4 n4 c4 : Nat) (x0 x1 x5 : Value), v = .agg #[x0, x1, .slice (some ⟨g2, 0, none⟩) n2 c2, .slice (some ⟨g3, 0, none⟩) n3 c3, .slice (some ⟨g4, 0, none⟩) n4 c4, x5]

def NoNilIf (b : Bool) (v : Value) : Prop := b = true → NoNil v

set_option maxRecDepth 20000 in
set_option maxHeartbeats 40000000 in
theorem specProductN_any (a b : IaD) (v u : Value) (w : World) (h : IaRow w a v) (k : IaRow w b u) (fa : Small a) (fb : Small b) :
    Calls Tryz.prog 19 #[v, u] w fun e w' => ∃ v', e = .returned (.tuple #[v', .bool (prodB a b)]) ∧ IaHigh w' w.heap.size (prodIa a b) v' ∧ NoNilIf (prodB a b) v' ∧ Below w.heap.size w w' := by
  have CF : Hid (∀ W, Below w.heap.size w W → Calls Tryz.prog 40 #[v, u] W fun e w' => e = .returned (.bool (fitB a b)) ∧ Below W.heap.size W w') := fun W hW => specFit_any a b v u W (h.below hW) (k.below hW) fa fb
  have CSH0 : Hid (∀ W, Below w.heap.size w W → Calls Tryz.prog 41 #[v, u] W (OwnRes W W.heap.size (sharedOf a b))) := fun W hW => specShared_any a b v u W (h.below hW) (k.below hW) fa fb
  obtain ⟨q, hq⟩ : ∃ q, q = fitB a b := ⟨_, rfl⟩
  have HOK : Hid (q = true → iaOkB a = true ∧ iaOkB b = true ∧ a.states * b.states ≤ 40) := fun e => fitB_ok (by rw [← hq]; exact e)
  have HSL : Hid (q = true → (shOf a b).length ≤ 12) := fun e => sh_low (fitB_ok (by rw [← hq]; exact e)).1
  have HSE : Hid (q = true → sharedOf a b = shOf a b) := fun e => by unfold sharedOf; rw [← hq, e]; rfl
  obtain ⟨PL, hPL⟩ : ∃ l, l = prodL a b := ⟨_, rfl⟩
  obtain ⟨PT, hPT⟩ : ∃ l, l = prodSteps a b := ⟨_, rfl⟩
  have HPT : Hid (q = true → PT.Pairwise Ahead) := fun e => by rw [hPT]; exact prodSteps_ahead (by rw [← hq]; exact e)
  have HPM : Hid (∀ u, u ∈ PT ↔ u ∈ PL) := fun u => by rw [hPT, hPL]; exact mem_prodSteps
  have HPN : Hid (PT.length = PL.length) := by unfold Hid; rw [hPT, hPL]; exact sortS_len _
  have HPS : Hid (q = true → ∀ u, u ∈ putsA (shOf a b) b.states b.states.toNat a.steps b.steps ++ aloneB (shOf a b) b.states a.states.toNat b.steps ↔ u ∈ PL) := fun e u => by rw [hPL]; exact puts_same (by rw [← hq]; exact e) u
  have HNL : Hid (q = true → PL.length ≤ 192000) := fun e => by
    obtain ⟨h1, h2, _⟩ := HOK.out e
    have s1 := iaOk_states h1
    have s2 := iaOk_states h2
    have l1 := iaOk_len h1
    have l2 := iaOk_len h2
    have m1 := aloneA_len (shOf a b) b.states b.states.toNat a.steps
    have m2 := aloneB_len (shOf a b) b.states a.states.toNat b.steps
    have m3 := togetherL_len (shOf a b) b.states b.steps a.steps
    have p1 : a.steps.length * b.states.toNat ≤ 400 * 40 := Nat.mul_le_mul l1 (by omega)
    have p2 : b.steps.length * a.states.toNat ≤ 400 * 40 := Nat.mul_le_mul l2 (by omega)
    have p3 : a.steps.length * b.steps.length ≤ 400 * 400 := Nat.mul_le_mul l1 l2
    rw [hPL]
    unfold prodL
    rw [List.length_append, List.length_append]
    omega
  obtain ⟨ok, hok⟩ : ∃ r, r = prodB a b := ⟨_, rfl⟩
  obtain ⟨I, hI⟩ : ∃ I, I = prodIa a b := ⟨_, rfl⟩
  have HI : Hid (I = if ok then ⟨a.states * b.states, stOf b.states (a.init, b.init), lessOf (joinOf a.ins b.ins) (shOf a b), lessOf (joinOf a.outs b.outs) (shOf a b), joinOf (joinOf a.hids b.hids) (shOf a b), PT⟩ else noIa) := by unfold Hid; rw [hI, hok, hPT]; rfl
  have HB_ : Hid (ok = (q && decide (PL.length ≤ 400))) := by unfold Hid; rw [hok, hq, hPL]; rfl
  rw [← hok, ← hI]
  rw [← hq] at CF
  clear hq hok hI hPL hPT
  obtain ⟨a2, n2, c2, a3, n3, c3, a4, n4, c4, a5, n5, c5, rfl, r2, r3, r4, r5⟩ := h
  obtain ⟨b2, m2, d2, b3, m3, d3, b4, m4, d4, b5, m5, d5, rfl, q2, q3, q4, q5⟩ := k
  obtain ⟨st, it, ins, outs, hids, steps⟩ := a
  obtain ⟨su, iu, jns, juts, jids, jteps⟩ := b
  obtain ⟨f2, f3, f4, f5⟩ := fa
  obtain ⟨g2, g3, g4, g5⟩ := fb
  simp only at r2 r3 r4 r5 q2 q3 q4 q5 f2 f3 f4 f5 g2 g3 g4 g5
  have HA : Hid (∀ W, Below w.heap.size w W → IaRow W ⟨st, it, ins, outs, hids, steps⟩ (.agg #[.int .i64 st, .int .i64 it, .slice a2 n2 c2, .slice a3 n3 c3, .slice a4 n4 c4, .slice a5 n5 c5])) := fun W hW => IaRow.below ⟨a2, n2, c2, a3, n3, c3, a4, n4, c4, a5, n5, c5, rfl, r2, r3, r4, r5⟩ hW
  have HB : Hid (∀ W, Below w.heap.size w W → IaRow W ⟨su, iu, jns, juts, jids, jteps⟩ (.agg #[.int .i64 su, .int .i64 iu, .slice b2 m2 d2, .slice b3 m3 d3, .slice b4 m4 d4, .slice b5 m5 d5])) := fun W hW => IaRow.below ⟨b2, m2, d2, b3, m3, d3, b4, m4, d4, b5, m5, d5, rfl, q2, q3, q4, q5⟩ hW
  have S0 := Lib.hid (Box2.start w (iaC st it a2 n2 c2 a3 n3 c3 a4 n4 c4 a5 n5 c5) (iaC su iu b2 m2 d2 b3 m3 d3 b4 m4 d4 b5 m5 d5) 31)
  have e2 := r2.1
  have e3 := r3.1
  have e4 := r4.1
  have k2 := q2.1
  have k3 := q3.1
  have k4 := q4.1
  rw [e2] at f2
  rw [e3] at f3
  rw [e4] at f4
  rw [k2] at g2
  rw [k3] at g3
  rw [k4] at g4
  have R2 := Lib.hid r2
  have R3 := Lib.hid r3
  have R4 := Lib.hid r4
  have R5 := Lib.hid r5
  have Q2 := Lib.hid q2
  have Q3 := Lib.hid q3
  have Q4 := Lib.hid q4
  have Q5 := Lib.hid q5
  clear r2 r3 r4 r5 q2 q3 q4 q5
  clear HA HB
  simp only at HOK HSL HSE HI HPS CSH0
  obtain ⟨sh, hsh⟩ : ∃ l, l = shOf ⟨st, it, ins, outs, hids, steps⟩ ⟨su, iu, jns, juts, jids, jteps⟩ := ⟨_, rfl⟩
  rw [← hsh] at HSL HSE HI HPS
  clear hsh
  have S0x := S0.out.alloc (.cells #[.int .i64 0, .int .i64 0, .slice none 0 0, .slice none 0 0, .slice none 0 0, .slice none 0 0] 31)
  have S0 := Lib.hid S0x
  have TZ : Hid (VarIs (((w.alloc (.cells #[.int .i64 st, .int .i64 it, .slice a2 n2 c2, .slice a3 n3 c3, .slice a4 n4 c4, .slice a5 n5 c5] 31)).alloc (.cells #[.int .i64 su, .int .i64 iu, .slice b2 m2 d2, .slice b3 m3 d3, .slice b4 m4 d4, .slice b5 m5 d5] 31)).alloc (.cells #[.int .i64 0, .int .i64 0, .slice none 0 0, .slice none 0 0, .slice none 0 0, .slice none 0 0] 31)) (w.heap.size + 2) #[.int .i64 0, .int .i64 0, .slice none 0 0, .slice none 0 0, .slice none 0 0, .slice none 0 0] 31) := VarIs.new ((w.alloc (.cells #[.int .i64 st, .int .i64 it, .slice a2 n2 c2, .slice a3 n3 c3, .slice a4 n4 c4, .slice a5 n5 c5] 31)).alloc (.cells #[.int .i64 su, .int .i64 iu, .slice b2 m2 d2, .slice b3 m3 d3, .slice b4 m4 d4, .slice b5 m5 d5] 31)) #[.int .i64 0, .int .i64 0, .slice none 0 0, .slice none 0 0, .slice none 0 0, .slice none 0 0] 31 (by simp)
  clear S0x
  have ca0 := S0.out.2.1.cell (j := 0) (u := .int .i64 st) rfl
  have ca1 := S0.out.2.1.cell (j := 1) (u := .int .i64 it) rfl
  have ca2 := S0.out.2.1.cell (j := 2) (u := .slice a2 n2 c2) rfl
  have ca3 := S0.out.2.1.cell (j := 3) (u := .slice a3 n3 c3) rfl
  have ca4 := S0.out.2.1.cell (j := 4) (u := .slice a4 n4 c4) rfl
  have ca5 := S0.out.2.1.cell (j := 5) (u := .slice a5 n5 c5) rfl
  have cb0 := S0.out.2.2.cell (j := 0) (u := .int .i64 su) rfl
  have cb1 := S0.out.2.2.cell (j := 1) (u := .int .i64 iu) rfl
  have cb2 := S0.out.2.2.cell (j := 2) (u := .slice b2 m2 d2) rfl
  have cb3 := S0.out.2.2.cell (j := 3) (u := .slice b3 m3 d3) rfl
  have cb4 := S0.out.2.2.cell (j := 4) (u := .slice b4 m4 d4) rfl
  have cb5 := S0.out.2.2.cell (j := 5) (u := .slice b5 m5 d5) rfl
  go_enter Tryz.func19, Tryz.ntmps19
  go_wp2_with fail
  clear ca0 ca1 ca2 ca3 ca4 ca5 cb0 cb1 cb2 cb3 cb4 cb5
  refine (CF.out _ S0.out.1).mono ?_
  rintro e w1 ⟨rfl, hb⟩
  have S1 := Lib.hid (S0.out.below hb)
  have T1 := Lib.hid (TZ.out.below hb)
  clear hb S0 TZ CF
  cases q with
  | false =>
    have HOF : ok = false := by rw [HB_.out]; rfl
    subst HOF
    have THX : Hid (w1.there (w.heap.size + 2) 0 6) := T1.out.there rfl
    have RGX : Hid ((w1.setCells (w.heap.size + 2) 0 [.int .i64 0, .int .i64 0, .slice none 0 0, .slice none 0 0, .slice none 0 0, .slice none 0 0]).rangeAt (w.heap.size + 2) 0 [.int .i64 0, .int .i64 0, .slice none 0 0, .slice none 0 0, .slice none 0 0, .slice none 0 0]) := World.rangeAt_setCells_same w1 (w.heap.size + 2) 0 [.int .i64 0, .int .i64 0, .slice none 0 0, .slice none 0 0, .slice none 0 0, .slice none 0 0] (by simpa using THX.out)
    have GX := Lib.hid (grown_setCells (w.heap.size + 2) [.int .i64 0, .int .i64 0, .slice none 0 0, .slice none 0 0, .slice none 0 0, .slice none 0 0] 0 w1)
    have BX : Hid (Below w.heap.size w (w1.setCells (w.heap.size + 2) 0 [.int .i64 0, .int .i64 0, .slice none 0 0, .slice none 0 0, .slice none 0 0, .slice none 0 0])) := S1.out.1.grown GX.out S1.out.1.size (fun q hq => by have h1 := Option.some.inj hq; omega)
    have HIN : Hid (I = noIa) := HI.out
    go_wp2_with (refine wpList_store_mid rfl _ _ _ rfl (w.heap.size + 2) 0 #[.int .i64 0, .int .i64 0, .slice none 0 0, .slice none 0 0, .slice none 0 0, .slice none 0 0] rfl rfl THX.out (by kernel_rfl) (ia_one _ _ _ _ _ _ _ _ _ _ _ _ _ _) ?_)
    refine bodyPost_ret (v := .tuple #[.agg #[.int .i64 0, .int .i64 0, .slice none 0 0, .slice none 0 0, .slice none 0 0, .slice none 0 0], .bool false]) ?_ rfl ⟨.agg #[.int .i64 0, .int .i64 0, .slice none 0 0, .slice none 0 0, .slice none 0 0, .slice none 0 0], rfl, by rw [HIN.out]; exact high_none _ _, (fun e => by cases e), BX.out⟩
    have HC0 := RGX.out 0 _ rfl
    have HC1 := RGX.out 1 _ rfl
    have HC2 := RGX.out 2 _ rfl
    have HC3 := RGX.out 3 _ rfl
    have HC4 := RGX.out 4 _ rfl
    have HC5 := RGX.out 5 _ rfl
    simp only [Nat.zero_add] at HC0 HC1 HC2 HC3 HC4 HC5
    simp [results, Tryz.results19, go_sem, HC0, HC1, HC2, HC3, HC4, HC5]
  | true =>
    have hok := HOK.out (by simp)
    have hsl := HSL.out (by simp)
    have hnl := HNL.out (by simp)
    have HPS2 := Lib.hid (HPS.out (by simp))
    have HPT2 := Lib.hid (HPT.out (by simp))
    have HSE2 := Lib.hid (HSE.out (by simp))
    have hsA := iaOk_states hok.1
    have hsB := iaOk_states hok.2.1
    have hiA := iaOk_init hok.1
    have hiB := iaOk_init hok.2.1
    have hlA := iaOk_len hok.1
    have hlB := iaOk_len hok.2.1
    have HEA := Lib.hid (iaOk_ends hok.1)
    have HEB := Lib.hid (iaOk_ends hok.2.1)
    have HTA := Lib.hid (act_low hok.1)
    have HTB := Lib.hid (act_low hok.2.1)
    simp only at hsA hsB hiA hiB hlA hlB HEA HEB HTA HTB
    have HMUL : 0 ≤ st * su ∧ st * su ≤ 1600 := mul_low40 (by omega) (by omega)
    have HMUI : (0 ≤ it * su ∧ it * su ≤ 1600) ∧ 0 ≤ iu ∧ iu ≤ 40 := ⟨mul_low40 (by omega) (by omega), by omega⟩
    clear HOK HSL HNL hok HPS HPT HSE
    have ca0 := S1.out.2.1.cell (j := 0) (u := .int .i64 st) rfl
    have ca1 := S1.out.2.1.cell (j := 1) (u := .int .i64 it) rfl
    have ca2 := S1.out.2.1.cell (j := 2) (u := .slice a2 n2 c2) rfl
    have ca3 := S1.out.2.1.cell (j := 3) (u := .slice a3 n3 c3) rfl
    have ca4 := S1.out.2.1.cell (j := 4) (u := .slice a4 n4 c4) rfl
    have ca5 := S1.out.2.1.cell (j := 5) (u := .slice a5 n5 c5) rfl
    have cb0 := S1.out.2.2.cell (j := 0) (u := .int .i64 su) rfl
    have cb1 := S1.out.2.2.cell (j := 1) (u := .int .i64 iu) rfl
    have cb2 := S1.out.2.2.cell (j := 2) (u := .slice b2 m2 d2) rfl
    have cb3 := S1.out.2.2.cell (j := 3) (u := .slice b3 m3 d3) rfl
    have cb4 := S1.out.2.2.cell (j := 4) (u := .slice b4 m4 d4) rfl
    have cb5 := S1.out.2.2.cell (j := 5) (u := .slice b5 m5 d5) rfl
    go_wp2_with fail
    clear ca0 ca1 ca2 ca3 ca4 ca5 cb0 cb1 cb2 cb3 cb4 cb5
    obtain ⟨sn, hsn⟩ : ∃ n, n = sh.length := ⟨_, rfl⟩
    have CSH : Hid (∀ W, Below w.heap.size w W → Calls Tryz.prog 41 #[.agg #[.int .i64 st, .int .i64 it, .slice a2 n2 c2, .slice a3 n3 c3, .slice a4 n4 c4, .slice a5 n5 c5], .agg #[.int .i64 su, .int .i64 iu, .slice b2 m2 d2, .slice b3 m3 d3, .slice b4 m4 d4, .slice b5 m5 d5]] W fun e w' => ∃ g c, e = .returned (.slice (some ⟨g, 0, none⟩) sn c) ∧ Owns w' W.heap.size (.slice (some ⟨g, 0, none⟩) sn c) sn sh ∧ Below W.heap.size W w') := fun W hW => by
      have := CSH0.out W hW
      rw [HSE2.out] at this
      rw [hsn]
      exact this
    rw [← hsn] at hsl
    refine (CSH.out _ S1.out.1).mono ?_
    rintro e w2 ⟨gs, cs, rfl, ho, hb⟩
    have S2 := Lib.hid (S1.out.below hb)
    have T2 := Lib.hid (T1.out.below hb)
    have P2 := Lib.hid (ho.mono (base := w.heap.size) S1.out.1.size)
    obtain ⟨ini, hini⟩ : ∃ x, x = it * su + iu := ⟨_, rfl⟩
    have HINI := Lib.hid hini
    have HIN0 : Hid (ok = false → I = noIa) := fun e => by
      have h1 := HI.out
      rw [e] at h1
      exact h1
    have HIT : Hid (ok = true → I = ⟨st * su, ini, lessOf (joinOf ins jns) sh, lessOf (joinOf outs juts) sh, joinOf (joinOf hids jids) sh, PT⟩) := fun e => by
      have h1 := HI.out
      rw [e] at h1
      rw [hini]
      exact h1
    obtain ⟨LJ1, hLJ1⟩ : ∃ l, l = joinOf ins jns := ⟨_, rfl⟩
    obtain ⟨LJ2, hLJ2⟩ : ∃ l, l = joinOf outs juts := ⟨_, rfl⟩
    obtain ⟨LJ3, hLJ3⟩ : ∃ l, l = joinOf hids jids := ⟨_, rfl⟩
    rw [← hLJ1, ← hLJ2, ← hLJ3] at HIT
    obtain ⟨LX2, hLX2⟩ : ∃ l, l = lessOf LJ1 sh := ⟨_, rfl⟩
    obtain ⟨LX3, hLX3⟩ : ∃ l, l = lessOf LJ2 sh := ⟨_, rfl⟩
    obtain ⟨LX4, hLX4⟩ : ∃ l, l = joinOf LJ3 sh := ⟨_, rfl⟩
    rw [← hLX2, ← hLX3, ← hLX4] at HIT
    have hl1 : LJ1.length ≤ 2097152 := by rw [hLJ1]; have := join_len ins jns; omega
    have hl2 : LJ2.length ≤ 2097152 := by rw [hLJ2]; have := join_len outs juts; omega
    have hl3 : LJ3.length ≤ 2097152 := by rw [hLJ3]; have := join_len hids jids; omega
    clear hb ho hsn S1 T1 CSH0 CSH HSE2 hini HI
    have CJ1 : Hid (∀ W, Box2 w W w.heap.size (w.heap.size + 1) 31 (iaC st it a2 n2 c2 a3 n3 c3 a4 n4 c4 a5 n5 c5) (iaC su iu b2 m2 d2 b3 m3 d3 b4 m4 d4 b5 m5 d5) → Calls Tryz.prog 43 #[.slice a2 n2 c2, .slice b2 m2 d2] W fun e w' => ∃ g cc, e = .returned (.slice (some ⟨g, 0, none⟩) LJ1.length cc) ∧ Owns w' W.heap.size (.slice (some ⟨g, 0, none⟩) LJ1.length cc) LJ1.length LJ1 ∧ Below W.heap.size W w') := fun W hW => by
      rw [hLJ1]
      exact specSetJoin_any a2 b2 n2 c2 m2 d2 ins jns W (R2.out.below hW.1) (Q2.out.below hW.1) (by omega) (by omega)
    have CJ2 : Hid (∀ W, Box2 w W w.heap.size (w.heap.size + 1) 31 (iaC st it a2 n2 c2 a3 n3 c3 a4 n4 c4 a5 n5 c5) (iaC su iu b2 m2 d2 b3 m3 d3 b4 m4 d4 b5 m5 d5) → Calls Tryz.prog 43 #[.slice a3 n3 c3, .slice b3 m3 d3] W fun e w' => ∃ g cc, e = .returned (.slice (some ⟨g, 0, none⟩) LJ2.length cc) ∧ Owns w' W.heap.size (.slice (some ⟨g, 0, none⟩) LJ2.length cc) LJ2.length LJ2 ∧ Below W.heap.size W w') := fun W hW => by
      rw [hLJ2]
      exact specSetJoin_any a3 b3 n3 c3 m3 d3 outs juts W (R3.out.below hW.1) (Q3.out.below hW.1) (by omega) (by omega)
    have CJ3 : Hid (∀ W, Box2 w W w.heap.size (w.heap.size + 1) 31 (iaC st it a2 n2 c2 a3 n3 c3 a4 n4 c4 a5 n5 c5) (iaC su iu b2 m2 d2 b3 m3 d3 b4 m4 d4 b5 m5 d5) → Calls Tryz.prog 43 #[.slice a4 n4 c4, .slice b4 m4 d4] W fun e w' => ∃ g cc, e = .returned (.slice (some ⟨g, 0, none⟩) LJ3.length cc) ∧ Owns w' W.heap.size (.slice (some ⟨g, 0, none⟩) LJ3.length cc) LJ3.length LJ3 ∧ Below W.heap.size W w') := fun W hW => by
      rw [hLJ3]
      exact specSetJoin_any a4 b4 n4 c4 m4 d4 hids jids W (R4.out.below hW.1) (Q4.out.below hW.1) (by omega) (by omega)
    have CL1 : Hid (∀ W g cc, Owns W w.heap.size (.slice (some ⟨g, 0, none⟩) LJ1.length cc) LJ1.length LJ1 → Owns W w.heap.size (.slice (some ⟨gs, 0, none⟩) sn cs) sn sh → Calls Tryz.prog 42 #[.slice (some ⟨g, 0, none⟩) LJ1.length cc, .slice (some ⟨gs, 0, none⟩) sn cs] W fun e w' => ∃ g cc, e = .returned (.slice (some ⟨g, 0, none⟩) LX2.length cc) ∧ Owns w' W.heap.size (.slice (some ⟨g, 0, none⟩) LX2.length cc) LX2.length LX2 ∧ Below W.heap.size W w') := fun W g cc h1 h2 => by
      rw [hLX2]
      exact specSetLess_any (some ⟨g, 0, none⟩) (some ⟨gs, 0, none⟩) LJ1.length cc sn cs LJ1 sh W h1.row.2.2.2 h2.row.2.2.2 (by omega) (by omega)
    have CL2 : Hid (∀ W g cc, Owns W w.heap.size (.slice (some ⟨g, 0, none⟩) LJ2.length cc) LJ2.length LJ2 → Owns W w.heap.size (.slice (some ⟨gs, 0, none⟩) sn cs) sn sh → Calls Tryz.prog 42 #[.slice (some ⟨g, 0, none⟩) LJ2.length cc, .slice (some ⟨gs, 0, none⟩) sn cs] W fun e w' => ∃ g cc, e = .returned (.slice (some ⟨g, 0, none⟩) LX3.length cc) ∧ Owns w' W.heap.size (.slice (some ⟨g, 0, none⟩) LX3.length cc) LX3.length LX3 ∧ Below W.heap.size W w') := fun W g cc h1 h2 => by
      rw [hLX3]
      exact specSetLess_any (some ⟨g, 0, none⟩) (some ⟨gs, 0, none⟩) LJ2.length cc sn cs LJ2 sh W h1.row.2.2.2 h2.row.2.2.2 (by omega) (by omega)
    have CL3 : Hid (∀ W g cc, Owns W w.heap.size (.slice (some ⟨g, 0, none⟩) LJ3.length cc) LJ3.length LJ3 → Owns W w.heap.size (.slice (some ⟨gs, 0, none⟩) sn cs) sn sh → Calls Tryz.prog 43 #[.slice (some ⟨g, 0, none⟩) LJ3.length cc, .slice (some ⟨gs, 0, none⟩) sn cs] W fun e w' => ∃ g cc, e = .returned (.slice (some ⟨g, 0, none⟩) LX4.length cc) ∧ Owns w' W.heap.size (.slice (some ⟨g, 0, none⟩) LX4.length cc) LX4.length LX4 ∧ Below W.heap.size W w') := fun W g cc h1 h2 => by
      rw [hLX4]
      exact specSetJoin_any (some ⟨g, 0, none⟩) (some ⟨gs, 0, none⟩) LJ3.length cc sn cs LJ3 sh W h1.row.2.2.2 h2.row.2.2.2 (by omega) (by omega)
    clear hLJ1 hLJ2 hLJ3 hLX2 hLX3 hLX4
    go_wp2_with fail
    have SD := S2.out.drew
    have TD : Hid (VarIs w2.drew (w.heap.size + 2) #[.int .i64 0, .int .i64 0, .slice none 0 0, .slice none 0 0, .slice none 0 0, .slice none 0 0] 31) := T2.out
    have PD : Hid (Owns w2.drew w.heap.size (.slice (some ⟨gs, 0, none⟩) sn cs) sn sh) := P2.out
    clear S2 T2 P2
    refine wp_region_tf (S := fun w' => Box2 w w' w.heap.size (w.heap.size + 1) 31 (iaC st it a2 n2 c2 a3 n3 c3 a4 n4 c4 a5 n5 c5) (iaC su iu b2 m2 d2 b3 m3 d3 b4 m4 d4 b5 m5 d5)) 37 (by kernel_rfl) (by kernel_rfl) (by kernel_rfl) SD (fun hHeld => ?_)
    refine fast1 0 24 (.pointer (some ⟨w.heap.size, 0, none⟩)) (.tmp 2) (.pointer (some ⟨w.heap.size, 0, none⟩)) (fuel := 36) rfl rfl (by kernel_rfl) (by kernel_rfl) (by kernel_rfl) (fun _ _ _ h => h) (by kernel_rfl) (by kernel_rfl) (fun ρ hr0 _ w hSw => by simp [go_sem, hr0]) hHeld (tf 1 37) (by kernel_rfl) (fun K hK => ?_)
    go_big_move
    refine hK.out _ ?_
    clear hK K
    refine fast1 1 25 (.int .i64 st) (.tmp 24) (.pointer (some ⟨w.heap.size, 0, none⟩)) (fuel := 35) rfl rfl (by kernel_rfl) (by kernel_rfl) (by kernel_rfl) (fun _ _ _ h => h) (by kernel_rfl) (by kernel_rfl) (fun ρ hr0 _ w hSw => by have m := hSw.2.1.cell (j := 0) (u := .int .i64 st) rfl; simp [go_sem, hr0, m]) hHeld (tf 3 37) (by kernel_rfl) (fun K hK => ?_)
    go_big_move
    refine hK.out _ ?_
    clear hK K
    refine fast1 2 26 (.pointer (some ⟨w.heap.size + 1, 0, none⟩)) (.tmp 3) (.pointer (some ⟨w.heap.size + 1, 0, none⟩)) (fuel := 34) rfl rfl (by kernel_rfl) (by kernel_rfl) (by kernel_rfl) (fun _ _ _ h => h) (by kernel_rfl) (by kernel_rfl) (fun ρ hr0 _ w hSw => by simp [go_sem, hr0]) hHeld (tf 7 37) (by kernel_rfl) (fun K hK => ?_)
    go_big_move
    refine hK.out _ ?_
    clear hK K
    refine fast1 3 27 (.int .i64 su) (.tmp 26) (.pointer (some ⟨w.heap.size + 1, 0, none⟩)) (fuel := 33) rfl rfl (by kernel_rfl) (by kernel_rfl) (by kernel_rfl) (fun _ _ _ h => h) (by kernel_rfl) (by kernel_rfl) (fun ρ hr0 _ w hSw => by have m := hSw.2.2.cell (j := 0) (u := .int .i64 su) rfl; simp [go_sem, hr0, m]) hHeld (tf 15 37) (by kernel_rfl) (fun K hK => ?_)
    go_big_move
    refine hK.out _ ?_
    clear hK K
    refine fast2 4 28 (.int .i64 (st * su)) (.tmp 25) (.int .i64 st) (.tmp 27) (.int .i64 su) (fuel := 32) rfl rfl (by kernel_rfl) (by kernel_rfl) (by kernel_rfl) (fun _ _ _ h => h) (by kernel_rfl) (by kernel_rfl) (by kernel_rfl) (fun ρ hr0 hr1 _ w hSw => by simp [go_sem, hr0, hr1]; exact Go.IntWalk.i64_in _ (by have h1 := HMUL; omega)) hHeld (tf 31 37) (by kernel_rfl) (fun K hK => ?_)
    go_big_move
    refine hK.out _ ?_
    clear hK K
    refine fast1 5 29 (.pointer (some ⟨w.heap.size, 1, none⟩)) (.tmp 2) (.pointer (some ⟨w.heap.size, 0, none⟩)) (fuel := 31) rfl rfl (by kernel_rfl) (by kernel_rfl) (by kernel_rfl) (fun _ _ _ h => h) (by kernel_rfl) (by kernel_rfl) (fun ρ hr0 _ w hSw => by simp [go_sem, hr0]) hHeld (tf 63 37) (by kernel_rfl) (fun K hK => ?_)
    go_big_move
    refine hK.out _ ?_
    clear hK K
    refine fast1 6 30 (.int .i64 it) (.tmp 29) (.pointer (some ⟨w.heap.size, 1, none⟩)) (fuel := 30) rfl rfl (by kernel_rfl) (by kernel_rfl) (by kernel_rfl) (fun _ _ _ h => h) (by kernel_rfl) (by kernel_rfl) (fun ρ hr0 _ w hSw => by have m := hSw.2.1.cell (j := 1) (u := .int .i64 it) rfl; simp [go_sem, hr0, m]) hHeld (tf 127 37) (by kernel_rfl) (fun K hK => ?_)
    go_big_move
    refine hK.out _ ?_
    clear hK K
    refine fast1 7 31 (.pointer (some ⟨w.heap.size + 1, 0, none⟩)) (.tmp 3) (.pointer (some ⟨w.heap.size + 1, 0, none⟩)) (fuel := 29) rfl rfl (by kernel_rfl) (by kernel_rfl) (by kernel_rfl) (fun _ _ _ h => h) (by kernel_rfl) (by kernel_rfl) (fun ρ hr0 _ w hSw => by simp [go_sem, hr0]) hHeld (tf 255 37) (by kernel_rfl) (fun K hK => ?_)
    go_big_move
    refine hK.out _ ?_
    clear hK K
    refine fast1 8 32 (.int .i64 su) (.tmp 31) (.pointer (some ⟨w.heap.size + 1, 0, none⟩)) (fuel := 28) rfl rfl (by kernel_rfl) (by kernel_rfl) (by kernel_rfl) (fun _ _ _ h => h) (by kernel_rfl) (by kernel_rfl) (fun ρ hr0 _ w hSw => by have m := hSw.2.2.cell (j := 0) (u := .int .i64 su) rfl; simp [go_sem, hr0, m]) hHeld (tf 511 37) (by kernel_rfl) (fun K hK => ?_)
    go_big_move
    refine hK.out _ ?_
    clear hK K
    refine fast2 9 33 (.int .i64 (it * su)) (.tmp 30) (.int .i64 it) (.tmp 32) (.int .i64 su) (fuel := 27) rfl rfl (by kernel_rfl) (by kernel_rfl) (by kernel_rfl) (fun _ _ _ h => h) (by kernel_rfl) (by kernel_rfl) (by kernel_rfl) (fun ρ hr0 hr1 _ w hSw => by simp [go_sem, hr0, hr1]; exact Go.IntWalk.i64_in _ (by have h1 := HMUI; omega)) hHeld (tf 1023 37) (by kernel_rfl) (fun K hK => ?_)
    go_big_move
    refine hK.out _ ?_
    clear hK K
    refine fast1 10 34 (.pointer (some ⟨w.heap.size + 1, 1, none⟩)) (.tmp 3) (.pointer (some ⟨w.heap.size + 1, 0, none⟩)) (fuel := 26) rfl rfl (by kernel_rfl) (by kernel_rfl) (by kernel_rfl) (fun _ _ _ h => h) (by kernel_rfl) (by kernel_rfl) (fun ρ hr0 _ w hSw => by simp [go_sem, hr0]) hHeld (tf 2047 37) (by kernel_rfl) (fun K hK => ?_)
    go_big_move
    refine hK.out _ ?_
    clear hK K
    refine fast1 11 35 (.int .i64 iu) (.tmp 34) (.pointer (some ⟨w.heap.size + 1, 1, none⟩)) (fuel := 25) rfl rfl (by kernel_rfl) (by kernel_rfl) (by kernel_rfl) (fun _ _ _ h => h) (by kernel_rfl) (by kernel_rfl) (fun ρ hr0 _ w hSw => by have m := hSw.2.2.cell (j := 1) (u := .int .i64 iu) rfl; simp [go_sem, hr0, m]) hHeld (tf 4095 37) (by kernel_rfl) (fun K hK => ?_)
    go_big_move
    refine hK.out _ ?_
    clear hK K
    refine fast2 12 36 (.int .i64 ini) (.tmp 33) (.int .i64 (it * su)) (.tmp 35) (.int .i64 iu) (fuel := 24) rfl rfl (by kernel_rfl) (by kernel_rfl) (by kernel_rfl) (fun _ _ _ h => h) (by kernel_rfl) (by kernel_rfl) (by kernel_rfl) (fun ρ hr0 hr1 _ w hSw => by simp [go_sem, hr0, hr1]; rw [HINI.out]; exact Go.IntWalk.i64_in _ (by have h1 := HMUI; omega)) hHeld (tf 8191 37) (by kernel_rfl) (fun K hK => ?_)
    go_big_move
    refine hK.out _ ?_
    clear hK K
    refine fast1 13 37 (.pointer (some ⟨w.heap.size, 2, none⟩)) (.tmp 2) (.pointer (some ⟨w.heap.size, 0, none⟩)) (fuel := 23) rfl rfl (by kernel_rfl) (by kernel_rfl) (by kernel_rfl) (fun _ _ _ h => h) (by kernel_rfl) (by kernel_rfl) (fun ρ hr0 _ w hSw => by simp [go_sem, hr0]) hHeld (tf 16383 37) (by kernel_rfl) (fun K hK => ?_)
    go_big_move
    refine hK.out _ ?_
    clear hK K
    refine fast1 14 38 (.slice a2 n2 c2) (.tmp 37) (.pointer (some ⟨w.heap.size, 2, none⟩)) (fuel := 22) rfl rfl (by kernel_rfl) (by kernel_rfl) (by kernel_rfl) (fun _ _ _ h => h) (by kernel_rfl) (by kernel_rfl) (fun ρ hr0 _ w hSw => by have m := hSw.2.1.cell (j := 2) (u := .slice a2 n2 c2) rfl; simp [go_sem, hr0, m]) hHeld (tf 32767 37) (by kernel_rfl) (fun K hK => ?_)
    go_big_move
    refine hK.out _ ?_
    clear hK K
    refine fast1 15 39 (.pointer (some ⟨w.heap.size + 1, 2, none⟩)) (.tmp 3) (.pointer (some ⟨w.heap.size + 1, 0, none⟩)) (fuel := 21) rfl rfl (by kernel_rfl) (by kernel_rfl) (by kernel_rfl) (fun _ _ _ h => h) (by kernel_rfl) (by kernel_rfl) (fun ρ hr0 _ w hSw => by simp [go_sem, hr0]) hHeld (tf 65535 37) (by kernel_rfl) (fun K hK => ?_)
    go_big_move
    refine hK.out _ ?_
    clear hK K
    refine fast1 16 40 (.slice b2 m2 d2) (.tmp 39) (.pointer (some ⟨w.heap.size + 1, 2, none⟩)) (fuel := 20) rfl rfl (by kernel_rfl) (by kernel_rfl) (by kernel_rfl) (fun _ _ _ h => h) (by kernel_rfl) (by kernel_rfl) (fun ρ hr0 _ w hSw => by have m := hSw.2.2.cell (j := 2) (u := .slice b2 m2 d2) rfl; simp [go_sem, hr0, m]) hHeld (tf 131071 37) (by kernel_rfl) (fun K hK => ?_)
    go_big_move
    refine hK.out _ ?_
    clear hK K
    refine fast_move 18 42 (.slice (some ⟨gs, 0, none⟩) sn cs) (.tmp 6) (fuel := 19) rfl rfl (by kernel_rfl) (by kernel_rfl) (by kernel_rfl) (fun _ _ _ h => h) (by kernel_rfl) (by kernel_rfl) (by first | exact Or.inl rfl | exact Or.inr rfl) hHeld (tf 393215 37) (by kernel_rfl) (fun K hK => ?_)
    go_big_move
    refine hK.out _ ?_
    clear hK K
    refine fast1 20 44 (.pointer (some ⟨w.heap.size, 3, none⟩)) (.tmp 2) (.pointer (some ⟨w.heap.size, 0, none⟩)) (fuel := 18) rfl rfl (by kernel_rfl) (by kernel_rfl) (by kernel_rfl) (fun _ _ _ h => h) (by kernel_rfl) (by kernel_rfl) (fun ρ hr0 _ w hSw => by simp [go_sem, hr0]) hHeld (tf 1441791 37) (by kernel_rfl) (fun K hK => ?_)
    go_big_move
    refine hK.out _ ?_
    clear hK K
    refine fast1 21 45 (.slice a3 n3 c3) (.tmp 44) (.pointer (some ⟨w.heap.size, 3, none⟩)) (fuel := 17) rfl rfl (by kernel_rfl) (by kernel_rfl) (by kernel_rfl) (fun _ _ _ h => h) (by kernel_rfl) (by kernel_rfl) (fun ρ hr0 _ w hSw => by have m := hSw.2.1.cell (j := 3) (u := .slice a3 n3 c3) rfl; simp [go_sem, hr0, m]) hHeld (tf 3538943 37) (by kernel_rfl) (fun K hK => ?_)
    go_big_move
    refine hK.out _ ?_
    clear hK K
    refine fast1 22 46 (.pointer (some ⟨w.heap.size + 1, 3, none⟩)) (.tmp 3) (.pointer (some ⟨w.heap.size + 1, 0, none⟩)) (fuel := 16) rfl rfl (by kernel_rfl) (by kernel_rfl) (by kernel_rfl) (fun _ _ _ h => h) (by kernel_rfl) (by kernel_rfl) (fun ρ hr0 _ w hSw => by simp [go_sem, hr0]) hHeld (tf 7733247 37) (by kernel_rfl) (fun K hK => ?_)
    go_big_move
    refine hK.out _ ?_
    clear hK K
    refine fast1 23 47 (.slice b3 m3 d3) (.tmp 46) (.pointer (some ⟨w.heap.size + 1, 3, none⟩)) (fuel := 15) rfl rfl (by kernel_rfl) (by kernel_rfl) (by kernel_rfl) (fun _ _ _ h => h) (by kernel_rfl) (by kernel_rfl) (fun ρ hr0 _ w hSw => by have m := hSw.2.2.cell (j := 3) (u := .slice b3 m3 d3) rfl; simp [go_sem, hr0, m]) hHeld (tf 16121855 37) (by kernel_rfl) (fun K hK => ?_)
    go_big_move
    refine hK.out _ ?_
    clear hK K
    refine fast_move 25 49 (.slice (some ⟨gs, 0, none⟩) sn cs) (.tmp 6) (fuel := 14) rfl rfl (by kernel_rfl) (by kernel_rfl) (by kernel_rfl) (fun _ _ _ h => h) (by kernel_rfl) (by kernel_rfl) (by first | exact Or.inl rfl | exact Or.inr rfl) hHeld (tf 49676287 37) (by kernel_rfl) (fun K hK => ?_)
    go_big_move
    refine hK.out _ ?_
    clear hK K
    refine fast1 27 51 (.pointer (some ⟨w.heap.size, 4, none⟩)) (.tmp 2) (.pointer (some ⟨w.heap.size, 0, none⟩)) (fuel := 13) rfl rfl (by kernel_rfl) (by kernel_rfl) (by kernel_rfl) (fun _ _ _ h => h) (by kernel_rfl) (by kernel_rfl) (fun ρ hr0 _ w hSw => by simp [go_sem, hr0]) hHeld (tf 183894015 37) (by kernel_rfl) (fun K hK => ?_)
    go_big_move
    refine hK.out _ ?_
    clear hK K
    refine fast1 28 52 (.slice a4 n4 c4) (.tmp 51) (.pointer (some ⟨w.heap.size, 4, none⟩)) (fuel := 12) rfl rfl (by kernel_rfl) (by kernel_rfl) (by kernel_rfl) (fun _ _ _ h => h) (by kernel_rfl) (by kernel_rfl) (fun ρ hr0 _ w hSw => by have m := hSw.2.1.cell (j := 4) (u := .slice a4 n4 c4) rfl; simp [go_sem, hr0, m]) hHeld (tf 452329471 37) (by kernel_rfl) (fun K hK => ?_)
    go_big_move
    refine hK.out _ ?_
    clear hK K
    refine fast1 29 53 (.pointer (some ⟨w.heap.size + 1, 4, none⟩)) (.tmp 3) (.pointer (some ⟨w.heap.size + 1, 0, none⟩)) (fuel := 11) rfl rfl (by kernel_rfl) (by kernel_rfl) (by kernel_rfl) (fun _ _ _ h => h) (by kernel_rfl) (by kernel_rfl) (fun ρ hr0 _ w hSw => by simp [go_sem, hr0]) hHeld (tf 989200383 37) (by kernel_rfl) (fun K hK => ?_)
    go_big_move
    refine hK.out _ ?_
    clear hK K
    refine fast1 30 54 (.slice b4 m4 d4) (.tmp 53) (.pointer (some ⟨w.heap.size + 1, 4, none⟩)) (fuel := 10) rfl rfl (by kernel_rfl) (by kernel_rfl) (by kernel_rfl) (fun _ _ _ h => h) (by kernel_rfl) (by kernel_rfl) (fun ρ hr0 _ w hSw => by have m := hSw.2.2.cell (j := 4) (u := .slice b4 m4 d4) rfl; simp [go_sem, hr0, m]) hHeld (tf 2062942207 37) (by kernel_rfl) (fun K hK => ?_)
    go_big_move
    refine hK.out _ ?_
    clear hK K
    refine fast_move 32 56 (.slice (some ⟨gs, 0, none⟩) sn cs) (.tmp 6) (fuel := 9) rfl rfl (by kernel_rfl) (by kernel_rfl) (by kernel_rfl) (fun _ _ _ h => h) (by kernel_rfl) (by kernel_rfl) (by first | exact Or.inl rfl | exact Or.inr rfl) hHeld (tf 6357909503 37) (by kernel_rfl) (fun K hK => ?_)
    go_big_move
    refine hK.out _ ?_
    clear hK K
    refine join_gen (ι := Nat × Nat × Nat × Nat × Nat × Nat × Nat × Nat × Nat × Nat × Nat × Nat × Nat) (fun i => ⟨#[.agg #[.int .i64 st, .int .i64 it, .slice a2 n2 c2, .slice a3 n3 c3, .slice a4 n4 c4, .slice a5 n5 c5], .agg #[.int .i64 su, .int .i64 iu, .slice b2 m2 d2, .slice b3 m3 d3, .slice b4 m4 d4, .slice b5 m5 d5], .pointer (some ⟨w.heap.size, 0, none⟩), .pointer (some ⟨w.heap.size + 1, 0, none⟩), .pointer (some ⟨w.heap.size + 2, 0, none⟩), .bool false, .slice (some ⟨gs, 0, none⟩) sn cs, .pointer (some ⟨i.1, 0, none⟩), undef, undef, undef, undef, undef, undef, undef, undef, .agg #[.int .i64 st, .int .i64 it, .slice a2 n2 c2, .slice a3 n3 c3, .slice a4 n4 c4, .slice a5 n5 c5], .agg #[.int .i64 su, .int .i64 iu, .slice b2 m2 d2, .slice b3 m3 d3, .slice b4 m4 d4, .slice b5 m5 d5], .bool true, .bool false, undef, .agg #[.int .i64 st, .int .i64 it, .slice a2 n2 c2, .slice a3 n3 c3, .slice a4 n4 c4, .slice a5 n5 c5], .agg #[.int .i64 su, .int .i64 iu, .slice b2 m2 d2, .slice b3 m3 d3, .slice b4 m4 d4, .slice b5 m5 d5], .slice (some ⟨gs, 0, none⟩) sn cs, .pointer (some ⟨w.heap.size, 0, none⟩), .int .i64 st, .pointer (some ⟨w.heap.size + 1, 0, none⟩), .int .i64 su, .int .i64 (st * su), .pointer (some ⟨w.heap.size, 1, none⟩), .int .i64 it, .pointer (some ⟨w.heap.size + 1, 0, none⟩), .int .i64 su, .int .i64 (it * su), .pointer (some ⟨w.heap.size + 1, 1, none⟩), .int .i64 iu, .int .i64 ini, .pointer (some ⟨w.heap.size, 2, none⟩), .slice a2 n2 c2, .pointer (some ⟨w.heap.size + 1, 2, none⟩), .slice b2 m2 d2, .slice (some ⟨i.2.1, 0, none⟩) LJ1.length i.2.2.1, .slice (some ⟨gs, 0, none⟩) sn cs, .slice (some ⟨i.2.2.2.1, 0, none⟩) LX2.length i.2.2.2.2.1, .pointer (some ⟨w.heap.size, 3, none⟩), .slice a3 n3 c3, .pointer (some ⟨w.heap.size + 1, 3, none⟩), .slice b3 m3 d3, .slice (some ⟨i.2.2.2.2.2.1, 0, none⟩) LJ2.length i.2.2.2.2.2.2.1, .slice (some ⟨gs, 0, none⟩) sn cs, .slice (some ⟨i.2.2.2.2.2.2.2.1, 0, none⟩) LX3.length i.2.2.2.2.2.2.2.2.1, .pointer (some ⟨w.heap.size, 4, none⟩), .slice a4 n4 c4, .pointer (some ⟨w.heap.size + 1, 4, none⟩), .slice b4 m4 d4, .slice (some ⟨i.2.2.2.2.2.2.2.2.2.1, 0, none⟩) LJ3.length i.2.2.2.2.2.2.2.2.2.2.1, .slice (some ⟨gs, 0, none⟩) sn cs, .slice (some ⟨i.2.2.2.2.2.2.2.2.2.2.2.1, 0, none⟩) LX4.length i.2.2.2.2.2.2.2.2.2.2.2.2, .agg #[.int .i64 (st * su), .int .i64 ini, .slice (some ⟨i.2.2.2.1, 0, none⟩) LX2.length i.2.2.2.2.1, .slice (some ⟨i.2.2.2.2.2.2.2.1, 0, none⟩) LX3.length i.2.2.2.2.2.2.2.2.1, .slice (some ⟨i.2.2.2.2.2.2.2.2.2.2.2.1, 0, none⟩) LX4.length i.2.2.2.2.2.2.2.2.2.2.2.2, .slice none 0 0], undef, undef, undef, undef, undef, undef, undef, undef, undef, undef, undef, undef, undef, undef, undef, undef, undef, undef, undef, undef, undef, undef, undef, undef, undef, undef, undef, undef, undef, undef, undef, undef, undef, undef, undef, undef, undef, undef, undef, undef, undef, undef, undef, undef, undef, undef, undef, undef, undef, undef, undef, undef, undef, undef, undef, undef, undef, undef, undef, undef, undef, undef, undef, undef, undef, undef, undef, undef, undef, undef, undef, undef, undef, undef, undef, undef, undef, undef, undef, undef, undef, undef, undef, undef, undef, undef, undef, undef, undef, undef, undef, undef, undef, undef, undef, undef, undef, undef, undef, undef, undef, undef, undef, undef, undef, undef, undef, undef, undef, undef, undef, undef, undef, undef, undef, undef, undef, undef, undef, undef, undef, undef, undef, undef, undef, undef, undef, undef, undef, undef, undef], []⟩) (fun i we => Box2 w we w.heap.size (w.heap.size + 1) 31 (iaC st it a2 n2 c2 a3 n3 c3 a4 n4 c4 a5 n5 c5) (iaC su iu b2 m2 d2 b3 m3 d3 b4 m4 d4 b5 m5 d5) ∧ VarIs we (w.heap.size + 2) #[.int .i64 0, .int .i64 0, .slice none 0 0, .slice none 0 0, .slice none 0 0, .slice none 0 0] 31 ∧ Owns we w.heap.size (.slice (some ⟨gs, 0, none⟩) sn cs) sn sh ∧ VarIs we i.1 #[.int .i64 (st * su), .int .i64 ini, .slice (some ⟨i.2.2.2.1, 0, none⟩) LX2.length i.2.2.2.2.1, .slice (some ⟨i.2.2.2.2.2.2.2.1, 0, none⟩) LX3.length i.2.2.2.2.2.2.2.2.1, .slice (some ⟨i.2.2.2.2.2.2.2.2.2.2.2.1, 0, none⟩) LX4.length i.2.2.2.2.2.2.2.2.2.2.2.2, .slice none 0 0] 31 ∧ Owns we w.heap.size (.slice (some ⟨i.2.2.2.1, 0, none⟩) LX2.length i.2.2.2.2.1) LX2.length LX2 ∧ Owns we w.heap.size (.slice (some ⟨i.2.2.2.2.2.2.2.1, 0, none⟩) LX3.length i.2.2.2.2.2.2.2.2.1) LX3.length LX3 ∧ Owns we w.heap.size (.slice (some ⟨i.2.2.2.2.2.2.2.2.2.2.2.1, 0, none⟩) LX4.length i.2.2.2.2.2.2.2.2.2.2.2.2) LX4.length LX4 ∧ w.heap.size + 2 < i.1) ?_ (fun REST => ?_)
    · rintro ⟨bo, j1g, j1c, g2, e2x, j2g, j2c, g3, e3x, j3g, j3c, g4, e4x⟩ we ⟨hS, hr, hs, hv, h2, h3, h4, hbo⟩
      simp only at hS hr hs hv h2 h3 h4 hbo ⊢
      clear hHeld SD TD PD CJ1 CJ2 CJ3 CL1 CL2 CL3
      have BE := Lib.hid hS.1
      obtain ⟨AA, hAA⟩ : ∃ x, x = (iaC st it a2 n2 c2 a3 n3 c3 a4 n4 c4 a5 n5 c5) := ⟨_, rfl⟩
      obtain ⟨BB, hBB⟩ : ∃ x, x = (iaC su iu b2 m2 d2 b3 m3 d3 b4 m4 d4 b5 m5 d5) := ⟨_, rfl⟩
      have HA5 : Hid (AA[5]? = some (.slice a5 n5 c5)) := by unfold Hid; rw [hAA]; rfl
      have HA0 : Hid (AA[0]? = some (.int .i64 st)) := by unfold Hid; rw [hAA]; rfl
      have HB0 : Hid (BB[0]? = some (.int .i64 su)) := by unfold Hid; rw [hBB]; rfl
      have HB1 : Hid (BB[1]? = some (.int .i64 iu)) := by unfold Hid; rw [hBB]; rfl
      have HB2 : Hid (BB[2]? = some (.slice b2 m2 d2)) := by unfold Hid; rw [hBB]; rfl
      have HB3 : Hid (BB[3]? = some (.slice b3 m3 d3)) := by unfold Hid; rw [hBB]; rfl
      have HB4 : Hid (BB[4]? = some (.slice b4 m4 d4)) := by unfold Hid; rw [hBB]; rfl
      have HB5 : Hid (BB[5]? = some (.slice b5 m5 d5)) := by unfold Hid; rw [hBB]; rfl
      rw [← hAA, ← hBB] at hS
      have P0 : Hid (PS w we bo AA BB (st * su) ini (.slice (some ⟨gs, 0, none⟩) sn cs) sn sh (.slice (some ⟨g2, 0, none⟩) LX2.length e2x) (.slice (some ⟨g3, 0, none⟩) LX3.length e3x) (.slice (some ⟨g4, 0, none⟩) LX4.length e4x) LX2 LX3 LX4 (.slice none 0 0) []) := ⟨hS.1, hS.2.1, hS.2.2, hr, hs, hv, h2, h3, h4, World.ownsRow_nil _ _ _ _, hbo⟩
      clear hAA hBB hS hr hs hv h2 h3 h4 hbo BE
      obtain ⟨nA, hnA⟩ : ∃ n : Nat, n = st.toNat := ⟨_, rfl⟩
      obtain ⟨nB, hnB⟩ : ∃ n : Nat, n = su.toNat := ⟨_, rfl⟩
      rw [← hnA, ← hnB] at HPS2
      have hA40 : nA ≤ 40 := by omega
      have hB40 : nB ≤ 40 := by omega
      have HNA := Lib.hid hnA
      have HNB := Lib.hid hnB
      have HMA : Hid (∀ x ∈ steps, ∀ q : Nat, q < nB → ∀ u ∈ putsAt sh su jteps x (q : Int), u ∈ PL) := fun x hx q hq u hu => (HPS2.out u).1 (List.mem_append.2 (.inl (by
        unfold putsA
        rw [List.mem_flatMap]
        exact ⟨x, hx, mem_putsRow.2 ⟨q, hq, hu⟩⟩)))
      have HMB : Hid (∀ y ∈ jteps, hasB sh y.2.1 = false → ∀ q : Nat, q < nA → ((q : Int) * su + y.1, y.2.1, (q : Int) * su + y.2.2) ∈ PL) := fun y hy hs q hq => (HPS2.out _).1 (List.mem_append.2 (.inr (mem_aloneB.2 ⟨y, hy, hs, mem_besideB.2 ⟨q, hq, rfl⟩⟩)))
      clear hnA hnB
      have pa5 := P0.out.ba.cell (j := 5) HA5.out
      go_wp2_with fail
      clear pa5
      go_loopw [8] (fun iv wr => ∃ (k : Nat) (v5 : Value) (L : List St), k ≤ n5 ∧ iv = .int .i64 (k : Int) ∧ Hid (PS w wr bo AA BB (st * su) ini (.slice (some ⟨gs, 0, none⟩) sn cs) sn sh (.slice (some ⟨g2, 0, none⟩) LX2.length e2x) (.slice (some ⟨g3, 0, none⟩) LX3.length e3x) (.slice (some ⟨g4, 0, none⟩) LX4.length e4x) LX2 LX3 LX4 (v5) L) ∧ Hid (Good PL (putsA sh su nB (steps.take k) jteps) L)) (fun iv _ => n5 - (intOf iv).toNat)
      case atStart => exact ⟨0, _, [], Nat.zero_le _, rfl, P0.out, Good.start PL⟩
      case round =>
        clear P0
        obtain ⟨k, v5, L, hk, rfl, HP, HG⟩ := hrel
        by_cases hlt : k < n5
        · obtain ⟨b, off, rfl, hbx, hcell⟩ := R5.out.2 (by omega)
          have hkx : k < steps.length := by rw [R5.out.1]; exact hlt
          obtain ⟨⟨xf, xa, xt⟩, hs⟩ : ∃ t, t = steps[k] := ⟨_, rfl⟩
          obtain ⟨e0, e1, e2⟩ := hcell k steps[k] (List.getElem?_eq_getElem hkx)
          have hin := HEA.out steps[k] (List.getElem_mem hkx)
          have hact := HTA.out steps[k] (List.getElem_mem hkx)
          have HMX := Lib.hid (HMA.out steps[k] (List.getElem_mem hkx))
          rw [← hs] at e0 e1 e2 hin hact HMX
          simp only at hin hact
          have g0 := (HP.out.bel.cell (p := ⟨b, off + k * 3, none⟩) hbx).trans e0
          have g1 := (HP.out.bel.cell (p := ⟨b, off + k * 3 + 1, none⟩) hbx).trans e1
          have g2 := (HP.out.bel.cell (p := ⟨b, off + k * 3 + 2, none⟩) hbx).trans e2
          simp only at g0 g1 g2
          have pa5 := HP.out.ba.cell (j := 5) HA5.out
          have P1 := Lib.hid (HP.out.alloc (.cells #[.int .i64 xf, .int .i64 xa, .int .i64 xt] 48))
          have X1 := Lib.hid (VarIs.new wr #[.int .i64 xf, .int .i64 xa, .int .i64 xt] 48 rfl)
          have HBO : Hid (bo < wr.heap.size) := HP.out.box.lt
          obtain ⟨w8, hw8⟩ : ∃ x, x = wr := ⟨_, rfl⟩
          have HW8 := Lib.hid hw8
          clear hw8
          have HJ : Hid (putsA sh su nB (steps.take (k + 1)) jteps = putsA sh su nB (steps.take k) jteps ++ putsRow sh su jteps (xf, xa, xt) nB) := by unfold Hid; rw [putsA_take hkx, ← hs]
          have HMXF : 0 ≤ xf * su ∧ xf * su ≤ 1600 := mul_low40 (by omega) (by omega)
          have HMXT : 0 ≤ xt * su ∧ xt * su ≤ 1600 := mul_low40 (by omega) (by omega)
          clear e0 e1 e2 hs hcell
          go_wp2_with fail
          clear pa5 g0 g1 g2
          go_loopw [10] (fun qv wr2 => ∃ (q : Nat) (v5 : Value) (L : List St), q ≤ nB ∧ qv = .int .i64 (q : Int) ∧ Hid (PS w wr2 bo AA BB (st * su) ini (.slice (some ⟨gs, 0, none⟩) sn cs) sn sh (.slice (some ⟨g2, 0, none⟩) LX2.length e2x) (.slice (some ⟨g3, 0, none⟩) LX3.length e3x) (.slice (some ⟨g4, 0, none⟩) LX4.length e4x) LX2 LX3 LX4 (v5) L) ∧ Hid (Good PL (putsA sh su nB (steps.take k) jteps ++ putsRow sh su jteps (xf, xa, xt) q) L) ∧ Hid (VarIs wr2 wr.heap.size #[.int .i64 xf, .int .i64 xa, .int .i64 xt] 48)) (fun qv _ => nB - (intOf qv).toNat)
          case atStart => exact ⟨0, v5, L, Nat.zero_le _, rfl, P1.out, by unfold Hid putsRow; simpa using HG.out, X1.out⟩
          case round =>
            clear P1 X1 HP HG
            obtain ⟨q, v5, L, hq, rfl, HP, HG, HX⟩ := hrel
            have pb0 := HP.out.bb.cell (j := 0) HB0.out
            by_cases hltq : (q : Int) < su
            · have hqn : q < nB := by have h1 := HNB.out; omega
              obtain ⟨sb, hsb⟩ : ∃ s, s = hasB sh xa := ⟨_, rfl⟩
              have CHS : Hid (∀ W, Row W (some ⟨gs, 0, none⟩) sn sh → Calls Tryz.prog 20 #[.slice (some ⟨gs, 0, none⟩) sn cs, .int .i64 xa] W fun e w' => e = .returned (.bool sb) ∧ W = w') := fun W hW => by
                rw [hsb]
                exact (specSetHas_any (some ⟨gs, 0, none⟩) sn cs xa sh W hW (by omega)).mono fun e w' h => ⟨h.1, h.2.symm⟩
              have HSB := Lib.hid hsb
              clear hsb
              have xc0 := HX.out.cell (j := 0) (u := .int .i64 xf) rfl
              have xc1 := HX.out.cell (j := 1) (u := .int .i64 xa) rfl
              have xc2 := HX.out.cell (j := 2) (u := .int .i64 xt) rfl
              have po5 := HP.out.box.cell (j := 5) (u := v5) rfl
              go_wp2_with fail
              refine (CHS.out _ HP.out.osh.row.2.2.2).mono ?_
              rintro e wq ⟨rfl, rfl⟩
              cases sb with
              | false =>
                have HJ2 : Hid (putsRow sh su jteps (xf, xa, xt) (q + 1) = putsRow sh su jteps (xf, xa, xt) q ++ [(xf * su + (q : Int), xa, xt * su + (q : Int))]) := by
                  unfold Hid
                  rw [putsRow_succ]
                  unfold putsAt
                  rw [← HSB.out]
                  rfl
                have hmem : (xf * su + (q : Int), xa, xt * su + (q : Int)) ∈ PL := HMX.out q hqn _ (by unfold putsAt; rw [← HSB.out]; simp)
                have CLS : Hid (∀ W, Below wr.heap.size wr W → Calls Tryz.prog 44 #[v5, .agg #[.int .i64 (xf * su + (q : Int)), .int .i64 xa, .int .i64 (xt * su + (q : Int))]] W (PutRes W w.heap.size L (xf * su + (q : Int), xa, xt * su + (q : Int)))) := fun W hW => stepVal_any v5 L.length L _ _ _ w.heap.size W (HP.out.below hW).o5 (near_of (by omega) (by omega) (by omega)) HG.out.2.1 (by have h1 := HG.out.len; omega) (HP.out.below hW).bel.size
                go_wp2_with fail
                clear pb0 xc0 xc1 xc2 po5
                refine (CLS.out _ (Below.refl _ _)).mono ?_
                rintro e w3 ⟨v6, n6, L6, rfl, ho, hnear, hput, hb⟩
                obtain ⟨a6, c6, rfl⟩ := ho.form
                have PX := Lib.hid (HP.out.put hb ho)
                have GX := Lib.hid (HG.out.put hnear hput hmem)
                have XX := Lib.hid ((HX.out.below hb).other (j := 5) (Nat.ne_of_gt HBO.out) (.slice a6 n6 c6))
                have fz := (HP.out.below hb).box.frozen 5
                have c5n := (HP.out.below hb).box.cell (j := 5) rfl
                clear hb ho hnear hput CLS
                have GX2 : Hid (Good PL (putsA sh su nB (steps.take k) jteps ++ putsRow sh su jteps (xf, xa, xt) (q + 1)) L6) := by unfold Hid; rw [HJ2.out, ← List.append_assoc]; exact GX.out
                go_wp2_with fail
                go_roundw
                case rel => exact ⟨q + 1, _, L6, by omega, by go_num, PX.out, GX2.out, XX.out⟩
                case measure => simp [intOf]; omega
              | true =>
                obtain rfl := HW8.out
                obtain ⟨T, hT⟩ : ∃ l, l = afterL jteps (q : Int) xa := ⟨_, rfl⟩
                have HJ2 : Hid (putsRow sh su jteps (xf, xa, xt) (q + 1) = putsRow sh su jteps (xf, xa, xt) q ++ T.map fun t => (xf * su + (q : Int), xa, xt * su + t)) := by
                  unfold Hid
                  rw [putsRow_succ]
                  unfold putsAt
                  rw [← HSB.out, hT]
                  rfl
                have HMQ : Hid (∀ t ∈ T, (xf * su + (q : Int), xa, xt * su + t) ∈ PL) := fun t ht => HMX.out q hqn _ (by
                  unfold putsAt
                  rw [← HSB.out]
                  simp only [if_true, List.mem_map]
                  exact ⟨t, by rw [← hT]; exact ht, rfl⟩)
                have HTL : Hid (∀ t ∈ T, 0 ≤ t ∧ t ≤ 40) := fun t ht => by
                  rw [hT, mem_afterL] at ht
                  have := (HEB.out _ ht).2.1
                  simp only at this
                  omega
                obtain ⟨lt, hlt8⟩ : ∃ n, n = T.length := ⟨_, rfl⟩
                have CAF : Hid (∀ W, Below w.heap.size w W → Calls Tryz.prog 45 #[.agg #[.int .i64 su, .int .i64 iu, .slice b2 m2 d2, .slice b3 m3 d3, .slice b4 m4 d4, .slice b5 m5 d5], .int .i64 (q : Int), .int .i64 xa] W fun e w' => ∃ g c, e = .returned (.slice (some ⟨g, 0, none⟩) lt c) ∧ Owns w' W.heap.size (.slice (some ⟨g, 0, none⟩) lt c) lt T ∧ Below W.heap.size W w') := fun W hW => by
                  rw [hlt8, hT]
                  exact after_any su iu q xa _ _ _ b5 m5 d5 jteps W (Q5.out.below hW) (by have h1 := Q5.out.1; omega)
                have hltb : lt ≤ 400 := by
                  rw [hlt8, hT]
                  unfold afterL
                  have h1 := putAll_len ((jteps.filter fun x => decide (x.1 = (q : Int)) && decide (x.2.1 = xa)).map fun x => x.2.2) []
                  have h2 := List.length_filter_le (fun x : St => decide (x.1 = (q : Int)) && decide (x.2.1 = xa)) jteps
                  simp only [List.length_nil, List.length_map] at h1
                  omega
                have HLT8 := Lib.hid hlt8
                clear hT hlt8
                have cb0 := HP.out.bb.cell (j := 0) HB0.out
                have cb1 := HP.out.bb.cell (j := 1) HB1.out
                have cb2 := HP.out.bb.cell (j := 2) HB2.out
                have cb3 := HP.out.bb.cell (j := 3) HB3.out
                have cb4 := HP.out.bb.cell (j := 4) HB4.out
                have cb5 := HP.out.bb.cell (j := 5) HB5.out
                go_wp2_with fail
                clear pb0 cb0 cb1 cb2 cb3 cb4 cb5 xc0 xc1 xc2 po5
                refine (CAF.out _ HP.out.bel).mono ?_
                rintro e w3 ⟨gT, cT, rfl, ho, hb⟩
                have P3 := Lib.hid (HP.out.below hb)
                have X3 := Lib.hid (HX.out.below hb)
                have T3 := Lib.hid (ho.mono (base := w.heap.size) HP.out.bel.size)
                clear ho hb HP HX CAF CHS
                go_wp2_with fail
                go_loopw [12] (fun kv wr3 => ∃ (m : Nat) (v5 : Value) (L : List St), m ≤ lt ∧ kv = .int .i64 (m : Int) ∧ Hid (PS w wr3 bo AA BB (st * su) ini (.slice (some ⟨gs, 0, none⟩) sn cs) sn sh (.slice (some ⟨g2, 0, none⟩) LX2.length e2x) (.slice (some ⟨g3, 0, none⟩) LX3.length e3x) (.slice (some ⟨g4, 0, none⟩) LX4.length e4x) LX2 LX3 LX4 (v5) L) ∧ Hid (Good PL ((putsA sh su nB (steps.take k) jteps ++ putsRow sh su jteps (xf, xa, xt) q) ++ (T.take m).map fun t => (xf * su + (q : Int), xa, xt * su + t)) L) ∧ Hid (VarIs wr3 w8.heap.size #[.int .i64 xf, .int .i64 xa, .int .i64 xt] 48) ∧ Hid (Owns wr3 w.heap.size (.slice (some ⟨gT, 0, none⟩) lt cT) lt T)) (fun kv _ => lt - (intOf kv).toNat)
                case atStart => exact ⟨0, v5, L, Nat.zero_le _, rfl, P3.out, by unfold Hid; simpa using HG.out, X3.out, T3.out⟩
                case round =>
                  clear P3 X3 T3 HG
                  obtain ⟨m, v5, L, hm, rfl, HP, HG, HX, HTO⟩ := hrel
                  by_cases hmt : m < lt
                  · have hmT : m < T.length := by rw [← HLT8.out]; exact hmt
                    obtain ⟨t, htt⟩ : ∃ t, t = T[m] := ⟨_, rfl⟩
                    have htb : 0 ≤ t ∧ t ≤ 40 := by rw [htt]; exact HTL.out _ (List.getElem_mem hmT)
                    have hmem : (xf * su + (q : Int), xa, xt * su + t) ∈ PL := HMQ.out t (by rw [htt]; exact List.getElem_mem hmT)
                    have HTT := Lib.hid htt
                    clear htt
                    have CLS : Hid (Calls Tryz.prog 44 #[v5, .agg #[.int .i64 (xf * su + (q : Int)), .int .i64 xa, .int .i64 (xt * su + t)]] wr.drew (PutRes wr.drew w.heap.size L (xf * su + (q : Int), xa, xt * su + t))) := stepVal_any v5 L.length L _ _ _ w.heap.size wr.drew HP.out.drew.o5 (near_of (by omega) (by omega) (by omega)) HG.out.2.1 (by have h1 := HG.out.len; omega) HP.out.drew.bel.size
                    have po5 := HP.out.drew.box.cell (j := 5) (u := v5) rfl
                    have SD8 : VarIs wr.drew w8.heap.size #[.int .i64 xf, .int .i64 xa, .int .i64 xt] 48 ∧ VarIs wr.drew (w.heap.size + 1) BB 31 ∧ wr.drew.cell? ⟨gT, m, none⟩ = some (.int .i64 t) := ⟨HX.out.drew, HP.out.drew.bb, by
                      have := HTO.out.cells.2 m hmt
                      rw [getD_eq T m hmT, ← HTT.out] at this
                      exact this⟩
                    go_wp2_with fail
                    refine wp_region_tf (S := fun w' => VarIs w' w8.heap.size #[.int .i64 xf, .int .i64 xa, .int .i64 xt] 48 ∧ VarIs w' (w.heap.size + 1) BB 31 ∧ w'.cell? ⟨gT, m, none⟩ = some (.int .i64 t)) 25 (by kernel_rfl) (by kernel_rfl) (by kernel_rfl) SD8 (fun hHeld => ?_)
                    refine fast1 0 114 (.pointer (some ⟨bo, 5, none⟩)) (.tmp 7) (.pointer (some ⟨bo, 0, none⟩)) (fuel := 24) rfl rfl (by kernel_rfl) (by kernel_rfl) (by kernel_rfl) (fun _ _ _ h => h) (by kernel_rfl) (by kernel_rfl) (fun ρ hr0 _ w hSw => by simp [go_sem, hr0]) hHeld (tf 1 25) (by kernel_rfl) (fun K hK => ?_)
                    go_big_move
                    refine hK.out _ ?_
                    clear hK K
                    refine fast1 2 116 (.pointer (some ⟨w8.heap.size, 0, none⟩)) (.tmp 9) (.pointer (some ⟨w8.heap.size, 0, none⟩)) (fuel := 23) rfl rfl (by kernel_rfl) (by kernel_rfl) (by kernel_rfl) (fun _ _ _ h => h) (by kernel_rfl) (by kernel_rfl) (fun ρ hr0 _ w hSw => by simp [go_sem, hr0]) hHeld (tf 5 25) (by kernel_rfl) (fun K hK => ?_)
                    go_big_move
                    refine hK.out _ ?_
                    clear hK K
                    refine fast1 3 117 (.int .i64 xf) (.tmp 116) (.pointer (some ⟨w8.heap.size, 0, none⟩)) (fuel := 22) rfl rfl (by kernel_rfl) (by kernel_rfl) (by kernel_rfl) (fun _ _ _ h => h) (by kernel_rfl) (by kernel_rfl) (fun ρ hr0 _ w hSw => by have m := hSw.1.cell (j := 0) (u := .int .i64 xf) rfl; simp [go_sem, hr0, m]) hHeld (tf 13 25) (by kernel_rfl) (fun K hK => ?_)
                    go_big_move
                    refine hK.out _ ?_
                    clear hK K
                    refine fast1 4 118 (.pointer (some ⟨w.heap.size + 1, 0, none⟩)) (.tmp 3) (.pointer (some ⟨w.heap.size + 1, 0, none⟩)) (fuel := 21) rfl rfl (by kernel_rfl) (by kernel_rfl) (by kernel_rfl) (fun _ _ _ h => h) (by kernel_rfl) (by kernel_rfl) (fun ρ hr0 _ w hSw => by simp [go_sem, hr0]) hHeld (tf 29 25) (by kernel_rfl) (fun K hK => ?_)
                    go_big_move
                    refine hK.out _ ?_
                    clear hK K
                    refine fast1 5 119 (.int .i64 su) (.tmp 118) (.pointer (some ⟨w.heap.size + 1, 0, none⟩)) (fuel := 20) rfl rfl (by kernel_rfl) (by kernel_rfl) (by kernel_rfl) (fun _ _ _ h => h) (by kernel_rfl) (by kernel_rfl) (fun ρ hr0 _ w hSw => by have m := hSw.2.1.cell (j := 0) HB0.out; simp [go_sem, hr0, m]) hHeld (tf 61 25) (by kernel_rfl) (fun K hK => ?_)
                    go_big_move
                    refine hK.out _ ?_
                    clear hK K
                    refine fast2 6 120 (.int .i64 (xf * su)) (.tmp 117) (.int .i64 xf) (.tmp 119) (.int .i64 su) (fuel := 19) rfl rfl (by kernel_rfl) (by kernel_rfl) (by kernel_rfl) (fun _ _ _ h => h) (by kernel_rfl) (by kernel_rfl) (by kernel_rfl) (fun ρ hr0 hr1 _ w hSw => by simp [go_sem, hr0, hr1]; exact Go.IntWalk.i64_in _ (by have h1 := HMXF; have h2 := HMXT; have h3 := htb; omega)) hHeld (tf 125 25) (by kernel_rfl) (fun K hK => ?_)
                    go_big_move
                    refine hK.out _ ?_
                    clear hK K
                    refine fast_move 7 121 (.int .i64 (q : Int)) (.tmp 10) (fuel := 18) rfl rfl (by kernel_rfl) (by kernel_rfl) (by kernel_rfl) (fun _ _ _ h => h) (by kernel_rfl) (by kernel_rfl) (by first | exact Or.inl rfl | exact Or.inr rfl) hHeld (tf 253 25) (by kernel_rfl) (fun K hK => ?_)
                    go_big_move
                    refine hK.out _ ?_
                    clear hK K
                    refine fast2 8 122 (.int .i64 (xf * su + (q : Int))) (.tmp 120) (.int .i64 (xf * su)) (.tmp 121) (.int .i64 (q : Int)) (fuel := 17) rfl rfl (by kernel_rfl) (by kernel_rfl) (by kernel_rfl) (fun _ _ _ h => h) (by kernel_rfl) (by kernel_rfl) (by kernel_rfl) (fun ρ hr0 hr1 _ w hSw => by simp [go_sem, hr0, hr1]; exact Go.IntWalk.i64_in _ (by have h1 := HMXF; have h2 := HMXT; have h3 := htb; omega)) hHeld (tf 509 25) (by kernel_rfl) (fun K hK => ?_)
                    go_big_move
                    refine hK.out _ ?_
                    clear hK K
                    refine fast1 9 123 (.pointer (some ⟨w8.heap.size, 1, none⟩)) (.tmp 9) (.pointer (some ⟨w8.heap.size, 0, none⟩)) (fuel := 16) rfl rfl (by kernel_rfl) (by kernel_rfl) (by kernel_rfl) (fun _ _ _ h => h) (by kernel_rfl) (by kernel_rfl) (fun ρ hr0 _ w hSw => by simp [go_sem, hr0]) hHeld (tf 1021 25) (by kernel_rfl) (fun K hK => ?_)
                    go_big_move
                    refine hK.out _ ?_
                    clear hK K
                    refine fast1 10 124 (.int .i64 xa) (.tmp 123) (.pointer (some ⟨w8.heap.size, 1, none⟩)) (fuel := 15) rfl rfl (by kernel_rfl) (by kernel_rfl) (by kernel_rfl) (fun _ _ _ h => h) (by kernel_rfl) (by kernel_rfl) (fun ρ hr0 _ w hSw => by have m := hSw.1.cell (j := 1) (u := .int .i64 xa) rfl; simp [go_sem, hr0, m]) hHeld (tf 2045 25) (by kernel_rfl) (fun K hK => ?_)
                    go_big_move
                    refine hK.out _ ?_
                    clear hK K
                    refine fast1 11 125 (.pointer (some ⟨w8.heap.size, 2, none⟩)) (.tmp 9) (.pointer (some ⟨w8.heap.size, 0, none⟩)) (fuel := 14) rfl rfl (by kernel_rfl) (by kernel_rfl) (by kernel_rfl) (fun _ _ _ h => h) (by kernel_rfl) (by kernel_rfl) (fun ρ hr0 _ w hSw => by simp [go_sem, hr0]) hHeld (tf 4093 25) (by kernel_rfl) (fun K hK => ?_)
                    go_big_move
                    refine hK.out _ ?_
                    clear hK K
                    refine fast1 12 126 (.int .i64 xt) (.tmp 125) (.pointer (some ⟨w8.heap.size, 2, none⟩)) (fuel := 13) rfl rfl (by kernel_rfl) (by kernel_rfl) (by kernel_rfl) (fun _ _ _ h => h) (by kernel_rfl) (by kernel_rfl) (fun ρ hr0 _ w hSw => by have m := hSw.1.cell (j := 2) (u := .int .i64 xt) rfl; simp [go_sem, hr0, m]) hHeld (tf 8189 25) (by kernel_rfl) (fun K hK => ?_)
                    go_big_move
                    refine hK.out _ ?_
                    clear hK K
                    refine fast1 13 127 (.pointer (some ⟨w.heap.size + 1, 0, none⟩)) (.tmp 3) (.pointer (some ⟨w.heap.size + 1, 0, none⟩)) (fuel := 12) rfl rfl (by kernel_rfl) (by kernel_rfl) (by kernel_rfl) (fun _ _ _ h => h) (by kernel_rfl) (by kernel_rfl) (fun ρ hr0 _ w hSw => by simp [go_sem, hr0]) hHeld (tf 16381 25) (by kernel_rfl) (fun K hK => ?_)
                    go_big_move
                    refine hK.out _ ?_
                    clear hK K
                    refine fast1 14 128 (.int .i64 su) (.tmp 127) (.pointer (some ⟨w.heap.size + 1, 0, none⟩)) (fuel := 11) rfl rfl (by kernel_rfl) (by kernel_rfl) (by kernel_rfl) (fun _ _ _ h => h) (by kernel_rfl) (by kernel_rfl) (fun ρ hr0 _ w hSw => by have m := hSw.2.1.cell (j := 0) HB0.out; simp [go_sem, hr0, m]) hHeld (tf 32765 25) (by kernel_rfl) (fun K hK => ?_)
                    go_big_move
                    refine hK.out _ ?_
                    clear hK K
                    refine fast2 15 129 (.int .i64 (xt * su)) (.tmp 126) (.int .i64 xt) (.tmp 128) (.int .i64 su) (fuel := 10) rfl rfl (by kernel_rfl) (by kernel_rfl) (by kernel_rfl) (fun _ _ _ h => h) (by kernel_rfl) (by kernel_rfl) (by kernel_rfl) (fun ρ hr0 hr1 _ w hSw => by simp [go_sem, hr0, hr1]; exact Go.IntWalk.i64_in _ (by have h1 := HMXF; have h2 := HMXT; have h3 := htb; omega)) hHeld (tf 65533 25) (by kernel_rfl) (fun K hK => ?_)
                    go_big_move
                    refine hK.out _ ?_
                    clear hK K
                    refine fast_move 16 130 (.slice (some ⟨gT, 0, none⟩) lt cT) (.tmp 11) (fuel := 9) rfl rfl (by kernel_rfl) (by kernel_rfl) (by kernel_rfl) (fun _ _ _ h => h) (by kernel_rfl) (by kernel_rfl) (by first | exact Or.inl rfl | exact Or.inr rfl) hHeld (tf 131069 25) (by kernel_rfl) (fun K hK => ?_)
                    go_big_move
                    refine hK.out _ ?_
                    clear hK K
                    refine fast_move 17 131 (.int .i64 (m : Int)) (.tmp 12) (fuel := 8) rfl rfl (by kernel_rfl) (by kernel_rfl) (by kernel_rfl) (fun _ _ _ h => h) (by kernel_rfl) (by kernel_rfl) (by first | exact Or.inl rfl | exact Or.inr rfl) hHeld (tf 262141 25) (by kernel_rfl) (fun K hK => ?_)
                    go_big_move
                    refine hK.out _ ?_
                    clear hK K
                    refine fast2 18 132 (.pointer (some ⟨gT, m, none⟩)) (.tmp 130) (.slice (some ⟨gT, 0, none⟩) lt cT) (.tmp 131) (.int .i64 (m : Int)) (fuel := 7) rfl rfl (by kernel_rfl) (by kernel_rfl) (by kernel_rfl) (fun _ _ _ h => h) (by kernel_rfl) (by kernel_rfl) (by kernel_rfl) (fun ρ hr0 hr1 _ w hSw => by have h1 : (m : Int) < (lt : Int) := (by omega); simp [go_sem, hr0, hr1, h1]) hHeld (tf 524285 25) (by kernel_rfl) (fun K hK => ?_)
                    go_big_move
                    refine hK.out _ ?_
                    clear hK K
                    refine fast1 19 133 (.int .i64 t) (.tmp 132) (.pointer (some ⟨gT, m, none⟩)) (fuel := 6) rfl rfl (by kernel_rfl) (by kernel_rfl) (by kernel_rfl) (fun _ _ _ h => h) (by kernel_rfl) (by kernel_rfl) (fun ρ hr0 _ w hSw => by have m := hSw.2.2; simp [go_sem, hr0, m]) hHeld (tf 1048573 25) (by kernel_rfl) (fun K hK => ?_)
                    go_big_move
                    refine hK.out _ ?_
                    clear hK K
                    refine fast2 20 134 (.int .i64 (xt * su + t)) (.tmp 129) (.int .i64 (xt * su)) (.tmp 133) (.int .i64 t) (fuel := 5) rfl rfl (by kernel_rfl) (by kernel_rfl) (by kernel_rfl) (fun _ _ _ h => h) (by kernel_rfl) (by kernel_rfl) (by kernel_rfl) (fun ρ hr0 hr1 _ w hSw => by simp [go_sem, hr0, hr1]; exact Go.IntWalk.i64_in _ (by have h1 := HMXF; have h2 := HMXT; have h3 := htb; omega)) hHeld (tf 2097149 25) (by kernel_rfl) (fun K hK => ?_)
                    go_big_move
                    refine hK.out _ ?_
                    clear hK K
                    refine fastE 21 135 (.agg #[.int .i64 (xf * su + (q : Int)), .int .i64 xa, .int .i64 (xt * su + t)]) (fuel := 4) (fun ρ => ρ (.tmp 122) = .int .i64 (xf * su + (q : Int)) ∧ ρ (.tmp 124) = .int .i64 xa ∧ ρ (.tmp 134) = .int .i64 (xt * su + t)) rfl rfl (by kernel_rfl) (by kernel_rfl) (by kernel_rfl) (fun _ _ _ h => h) (by kernel_rfl) ⟨by kernel_rfl, by kernel_rfl, by kernel_rfl⟩ (fun ρ hF _ w hSw => by obtain ⟨hr0, hr1, hr2⟩ := hF; simp [go_sem, hr0, hr1, hr2]) hHeld (tf 4194301 25) (by kernel_rfl) (fun K hK => ?_)
                    go_big_move
                    refine hK.out _ ?_
                    clear hK K
                    refine wpAnyH_ready (rs := [1]) (fuel := 3) (by kernel_rfl) (by simp) ?_
                    refine ready_want rfl (by kernel_rfl) (tf 4194303 25) (by kernel_rfl) (fun K hK => ?_) AllReadyH.nil
                    simp only [List.getElem_toArray, List.getElem_cons_succ, List.getElem_cons_zero]
                    go_big_op
                    refine hK.out _ _ hHeld (fun hHeld => ?_)
                    clear hK K
                    refine wpAnyH_ready (rs := [22]) (fuel := 2) (by kernel_rfl) (by simp) ?_
                    refine ready_want rfl (by kernel_rfl) (tf 8388607 25) (by kernel_rfl) (fun K hK => ?_) AllReadyH.nil
                    simp only [List.getElem_toArray, List.getElem_cons_succ, List.getElem_cons_zero]
                    go_big_op
                    refine (CLS.out).mono ?_
                    rintro e w6 ⟨v6, n6, L6, rfl, ho, hnear, hput, hb⟩
                    obtain ⟨a6, c6, rfl⟩ := ho.form
                    have PX := Lib.hid (HP.out.drew.put hb ho)
                    have GX := Lib.hid (HG.out.put hnear hput hmem)
                    have XXn := Lib.hid ((HX.out.drew.below hb).other (j := 5) (Nat.ne_of_gt HBO.out) (.slice a6 n6 c6))
                    have fz := (HP.out.drew.below hb).box.frozen 5
                    have c5n := (HP.out.drew.below hb).box.cell (j := 5) rfl
                    have TXn := Lib.hid ((Owns.below (show Owns wr.drew w.heap.size (.slice (some ⟨gT, 0, none⟩) lt cT) lt T from HTO.out) hb).keep (grown_set1 w6 bo 5 (.slice a6 n6 c6)) (fun b hb' he => own_var (Owns.below (show Owns wr.drew w.heap.size (.slice (some ⟨gT, 0, none⟩) lt cT) lt T from HTO.out) hb) (HP.out.drew.below hb).box (by decide) (hb'.trans he)))
                    have hS6 : VarIs w6 w8.heap.size #[.int .i64 xf, .int .i64 xa, .int .i64 xt] 48 ∧ VarIs w6 (w.heap.size + 1) BB 31 ∧ w6.cell? ⟨gT, m, none⟩ = some (.int .i64 t) := ⟨HX.out.drew.below hb, (HP.out.drew.below hb).bb, by rw [(Owns.below (show Owns wr.drew w.heap.size (.slice (some ⟨gT, 0, none⟩) lt cT) lt T from HTO.out) hb).cells.2 m hmt, getD_eq T m hmT, ← HTT.out]⟩
                    have hS9 : VarIs (w6.setCell ⟨bo, 5, none⟩ (.slice a6 n6 c6)) w8.heap.size #[.int .i64 xf, .int .i64 xa, .int .i64 xt] 48 ∧ VarIs (w6.setCell ⟨bo, 5, none⟩ (.slice a6 n6 c6)) (w.heap.size + 1) BB 31 ∧ (w6.setCell ⟨bo, 5, none⟩ (.slice a6 n6 c6)).cell? ⟨gT, m, none⟩ = some (.int .i64 t) := ⟨XXn.out, PX.out.bb, by rw [TXn.out.cells.2 m hmt, getD_eq T m hmT, ← HTT.out]⟩
                    clear hb ho
                    refine hK.out _ _ hS6 (fun hHeld => ?_)
                    clear hK K
                    refine fast1 23 137 (.pointer (some ⟨bo, 5, none⟩)) (.tmp 7) (.pointer (some ⟨bo, 0, none⟩)) (fuel := 1) rfl rfl (by kernel_rfl) (by kernel_rfl) (by kernel_rfl) (fun _ _ _ h => h) (by kernel_rfl) (by kernel_rfl) (fun ρ hr0 _ w hSw => by simp [go_sem, hr0]) hHeld (tf 16777215 25) (by kernel_rfl) (fun K hK => ?_)
                    go_big_move
                    refine hK.out _ ?_
                    clear hK K
                    refine wpAnyH_ready (rs := [24]) (fuel := 0) (by kernel_rfl) (by simp) ?_
                    refine ready_want rfl (by kernel_rfl) (tf 33554431 25) (by kernel_rfl) (fun K hK => ?_) AllReadyH.nil
                    simp only [List.getElem_toArray, List.getElem_cons_succ, List.getElem_cons_zero]
                    go_big_op
                    refine hK.out _ _ hS9 (fun hHeld => ?_)
                    clear hK K
                    refine wpAnyH_done (by kernel_rfl) ?_ _

                    have GX2 : Hid (Good PL ((putsA sh su nB (steps.take k) jteps ++ putsRow sh su jteps (xf, xa, xt) q) ++ (T.take (m + 1)).map fun t => (xf * su + (q : Int), xa, xt * su + t)) L6) := by
                      unfold Hid
                      rw [List.take_succ_eq_append_getElem hmT, List.map_append, ← List.append_assoc, ← HTT.out]
                      exact GX.out
                    clear hHeld SD8
                    go_wp2_with fail
                    go_roundw
                    case rel => exact ⟨m + 1, _, L6, by omega, by go_num, PX.out, GX2.out, XXn.out, TXn.out⟩
                    case measure => simp [intOf]; omega
                  · have GX : Hid (Good PL (putsA sh su nB (steps.take k) jteps ++ putsRow sh su jteps (xf, xa, xt) (q + 1)) L) := by
                      have h1 := HG.out
                      rw [List.take_of_length_le (l := T) (by rw [← HLT8.out]; omega)] at h1
                      unfold Hid
                      rw [HJ2.out, ← List.append_assoc]
                      exact h1
                    go_wp2_with fail
                    go_roundw
                    case rel => exact ⟨q + 1, v5, L, by omega, by go_num, HP.out, GX.out, HX.out⟩
                    case measure => simp [intOf]; omega
            · obtain rfl : nB = q := by have h1 := HNB.out; omega
              have GX : Hid (Good PL (putsA sh su nB (steps.take (k + 1)) jteps) L) := by unfold Hid; rw [HJ.out]; exact HG.out
              go_wp2_with fail
              go_roundw
              case rel => exact ⟨k + 1, v5, L, by omega, by go_num, HP.out, GX.out⟩
              case measure => simp [intOf]; omega
        · have HGA : Hid (Good PL (putsA sh su nB steps jteps) L) := by
            have h1 := HG.out
            rw [List.take_of_length_le (by rw [R5.out.1]; omega)] at h1
            exact h1
          have pa5 := HP.out.ba.cell (j := 5) HA5.out
          have pb5 := HP.out.bb.cell (j := 5) HB5.out
          go_wp2_with fail
          clear pa5 pb5
          go_loopw [13] (fun iv wr => ∃ (k : Nat) (v5 : Value) (L : List St), k ≤ m5 ∧ iv = .int .i64 (k : Int) ∧ Hid (PS w wr bo AA BB (st * su) ini (.slice (some ⟨gs, 0, none⟩) sn cs) sn sh (.slice (some ⟨g2, 0, none⟩) LX2.length e2x) (.slice (some ⟨g3, 0, none⟩) LX3.length e3x) (.slice (some ⟨g4, 0, none⟩) LX4.length e4x) LX2 LX3 LX4 (v5) L) ∧ Hid (Good PL (putsA sh su nB steps jteps ++ aloneB sh su nA (jteps.take k)) L)) (fun iv _ => m5 - (intOf iv).toNat)
          case atStart => exact ⟨0, v5, L, Nat.zero_le _, rfl, HP.out, by unfold Hid aloneB; simpa using HGA.out⟩
          case round =>
            clear HP HG HGA
            obtain ⟨k, v5, L, hk, rfl, HP, HG⟩ := hrel
            have pb5 := HP.out.bb.cell (j := 5) HB5.out
            by_cases hlt : k < m5
            · obtain ⟨b, off, rfl, hbx, hcell⟩ := Q5.out.2 (by omega)
              have hkx : k < jteps.length := by rw [Q5.out.1]; exact hlt
              obtain ⟨⟨xf, xa, xt⟩, hs⟩ : ∃ t, t = jteps[k] := ⟨_, rfl⟩
              obtain ⟨e0, e1, e2⟩ := hcell k jteps[k] (List.getElem?_eq_getElem hkx)
              have hin := HEB.out jteps[k] (List.getElem_mem hkx)
              have hact := HTB.out jteps[k] (List.getElem_mem hkx)
              have HMX := Lib.hid (HMB.out jteps[k] (List.getElem_mem hkx))
              rw [← hs] at e0 e1 e2 hin hact HMX
              simp only at hin hact HMX
              have g0 := (HP.out.bel.cell (p := ⟨b, off + k * 3, none⟩) hbx).trans e0
              have g1 := (HP.out.bel.cell (p := ⟨b, off + k * 3 + 1, none⟩) hbx).trans e1
              have g2 := (HP.out.bel.cell (p := ⟨b, off + k * 3 + 2, none⟩) hbx).trans e2
              simp only at g0 g1 g2
              have P1 := Lib.hid (HP.out.alloc (.cells #[.int .i64 xf, .int .i64 xa, .int .i64 xt] 48))
              have X1 := Lib.hid (VarIs.new wr #[.int .i64 xf, .int .i64 xa, .int .i64 xt] 48 rfl)
              have HBO : Hid (bo < wr.heap.size) := HP.out.box.lt
              obtain ⟨sb, hsb⟩ : ∃ s, s = hasB sh xa := ⟨_, rfl⟩
              have HJ : Hid (aloneB sh su nA (jteps.take (k + 1)) = aloneB sh su nA (jteps.take k) ++ if sb then [] else besideB su nA (xf, xa, xt)) := by
                unfold Hid aloneB
                rw [List.take_succ_eq_append_getElem hkx, ← hs, List.flatMap_append, List.flatMap_singleton, hsb]
              have CHS : Hid (∀ W, Row W (some ⟨gs, 0, none⟩) sn sh → Calls Tryz.prog 20 #[.slice (some ⟨gs, 0, none⟩) sn cs, .int .i64 xa] W fun e w' => e = .returned (.bool sb) ∧ W = w') := fun W hW => by
                rw [hsb]
                exact (specSetHas_any (some ⟨gs, 0, none⟩) sn cs xa sh W hW (by omega)).mono fun e w' h => ⟨h.1, h.2.symm⟩
              have HSB := Lib.hid hsb
              clear e0 e1 e2 hs hcell hsb
              go_wp2_with fail
              clear pb5 g0 g1 g2
              go_loopw [15] (fun qv wr2 => ∃ (q : Nat) (v5 : Value) (L : List St), q ≤ nA ∧ qv = .int .i64 (q : Int) ∧ Hid (PS w wr2 bo AA BB (st * su) ini (.slice (some ⟨gs, 0, none⟩) sn cs) sn sh (.slice (some ⟨g2, 0, none⟩) LX2.length e2x) (.slice (some ⟨g3, 0, none⟩) LX3.length e3x) (.slice (some ⟨g4, 0, none⟩) LX4.length e4x) LX2 LX3 LX4 (v5) L) ∧ Hid (Good PL ((putsA sh su nB steps jteps ++ aloneB sh su nA (jteps.take k)) ++ besideB su q (xf, xa, xt)) L) ∧ Hid (VarIs wr2 wr.heap.size #[.int .i64 xf, .int .i64 xa, .int .i64 xt] 48) ∧ Hid (0 < q → sb = false)) (fun qv _ => nA - (intOf qv).toNat)
              case atStart => exact ⟨0, v5, L, Nat.zero_le _, rfl, P1.out, by unfold Hid besideB; simpa using HG.out, X1.out, fun h => absurd h (by omega)⟩
              case round =>
                clear P1 X1 HP HG
                obtain ⟨q, v5, L, hq, rfl, HP, HG, HX, HQ⟩ := hrel
                have pa0 := HP.out.ba.cell (j := 0) HA0.out
                have pb0 := HP.out.bb.cell (j := 0) HB0.out
                have xc0 := HX.out.cell (j := 0) (u := .int .i64 xf) rfl
                have xc1 := HX.out.cell (j := 1) (u := .int .i64 xa) rfl
                have xc2 := HX.out.cell (j := 2) (u := .int .i64 xt) rfl
                have po5 := HP.out.box.cell (j := 5) (u := v5) rfl
                by_cases hltq : (q : Int) < st
                · have hqn : q < nA := by have h1 := HNA.out; omega
                  have HMQF : 0 ≤ (q : Int) * su ∧ (q : Int) * su ≤ 1600 := mul_low40 (by omega) (by omega)
                  go_wp2_with fail
                  refine (CHS.out _ HP.out.osh.row.2.2.2).mono ?_
                  rintro e wq ⟨rfl, rfl⟩
                  cases sb with
                  | true =>
                    have hq0 : q = 0 := by
                      apply Classical.byContradiction
                      intro hne
                      have := HQ.out (by omega)
                      cases this
                    have GX : Hid (Good PL (putsA sh su nB steps jteps ++ aloneB sh su nA (jteps.take (k + 1))) L) := by
                      have h1 := HG.out
                      rw [hq0] at h1
                      unfold Hid
                      rw [HJ.out]
                      simpa [besideB] using h1
                    go_wp2_with fail
                    go_roundw
                    case rel => exact ⟨k + 1, v5, L, by omega, by go_num, HP.out, GX.out⟩
                    case measure => simp [intOf]; omega
                  | false =>
                    have hmem : ((q : Int) * su + xf, xa, (q : Int) * su + xt) ∈ PL := HMX.out HSB.out.symm q hqn
                    have CLS : Hid (∀ W, Below wr.heap.size wr W → Calls Tryz.prog 44 #[v5, .agg #[.int .i64 ((q : Int) * su + xf), .int .i64 xa, .int .i64 ((q : Int) * su + xt)]] W (PutRes W w.heap.size L ((q : Int) * su + xf, xa, (q : Int) * su + xt))) := fun W hW => stepVal_any v5 L.length L _ _ _ w.heap.size W (HP.out.below hW).o5 (near_of (by omega) (by omega) (by omega)) HG.out.2.1 (by have h1 := HG.out.len; omega) (HP.out.below hW).bel.size
                    go_wp2_with fail
                    clear pa0 pb0 xc0 xc1 xc2 po5
                    refine (CLS.out _ (Below.refl _ _)).mono ?_
                    rintro e w3 ⟨v6, n6, L6, rfl, ho, hnear, hput, hb⟩
                    obtain ⟨a6, c6, rfl⟩ := ho.form
                    have PX := Lib.hid (HP.out.put hb ho)
                    have GX := Lib.hid (HG.out.put hnear hput hmem)
                    have XX := Lib.hid ((HX.out.below hb).other (j := 5) (Nat.ne_of_gt HBO.out) (.slice a6 n6 c6))
                    have fz := (HP.out.below hb).box.frozen 5
                    have c5n := (HP.out.below hb).box.cell (j := 5) rfl
                    clear hb ho hnear hput CLS
                    have GX2 : Hid (Good PL ((putsA sh su nB steps jteps ++ aloneB sh su nA (jteps.take k)) ++ besideB su (q + 1) (xf, xa, xt)) L6) := by
                      have h1 : besideB su (q + 1) (xf, xa, xt) = besideB su q (xf, xa, xt) ++ [((q : Int) * su + xf, xa, (q : Int) * su + xt)] := by
                        unfold besideB
                        rw [List.range_succ, List.map_append]
                        rfl
                      unfold Hid
                      rw [h1, ← List.append_assoc]
                      exact GX.out
                    go_wp2_with fail
                    go_roundw
                    case rel => exact ⟨q + 1, _, L6, by omega, by go_num, PX.out, GX2.out, XX.out, fun _ => by trivial⟩
                    case measure => simp [intOf]; omega
                · have hqn : q = nA := by have h1 := HNA.out; omega
                  have hsbf : sb = false := HQ.out (by have h1 := HNA.out; omega)
                  have GX : Hid (Good PL (putsA sh su nB steps jteps ++ aloneB sh su nA (jteps.take (k + 1))) L) := by
                    have h1 := HG.out
                    rw [hqn] at h1
                    unfold Hid
                    rw [HJ.out, hsbf, ← List.append_assoc]
                    exact h1
                  clear hsbf
                  go_wp2_with fail
                  go_roundw
                  case rel => exact ⟨k + 1, v5, L, by omega, by go_num, HP.out, GX.out⟩
                  case measure => simp [intOf]; omega
            · have HGL : Hid (L = PT) := by
                have h1 := HG.out
                rw [List.take_of_length_le (by rw [Q5.out.1]; omega)] at h1
                exact ahead_eq h1.1 HPT2.out (fun u => by rw [h1.2.2.1 u, HPS2.out u, HPM.out u])
              obtain rfl := HGL.out
              have hLn : L.length = PL.length := HPN.out
              obtain ⟨a6, c6, rfl⟩ := HP.out.o5.form
              have po5 := HP.out.box.cell (j := 5) (u := .slice a6 L.length c6) rfl
              by_cases hlen : L.length ≤ 400
              · have hd : decide ((L.length : Int) > 400) = false := by simp; omega
                have HOT : ok = true := by rw [HB_.out]; simp; omega
                have HIF := Lib.hid (HIT.out HOT)
                subst HOT
                have RGO : Hid (wr.rangeAt bo 0 [.int .i64 (st * su), .int .i64 ini, .slice (some ⟨g2, 0, none⟩) LX2.length e2x, .slice (some ⟨g3, 0, none⟩) LX3.length e3x, .slice (some ⟨g4, 0, none⟩) LX4.length e4x, .slice a6 L.length c6]) := HP.out.box.range
                have THR : Hid (wr.there (w.heap.size + 2) 0 6) := HP.out.res.there rfl
                have G9 := Lib.hid (grown_setCells (w.heap.size + 2) [.int .i64 (st * su), .int .i64 ini, .slice (some ⟨g2, 0, none⟩) LX2.length e2x, .slice (some ⟨g3, 0, none⟩) LX3.length e3x, .slice (some ⟨g4, 0, none⟩) LX4.length e4x, .slice a6 L.length c6] 0 wr)
                have RG9 : Hid ((wr.setCells (w.heap.size + 2) 0 [.int .i64 (st * su), .int .i64 ini, .slice (some ⟨g2, 0, none⟩) LX2.length e2x, .slice (some ⟨g3, 0, none⟩) LX3.length e3x, .slice (some ⟨g4, 0, none⟩) LX4.length e4x, .slice a6 L.length c6]).rangeAt (w.heap.size + 2) 0 [.int .i64 (st * su), .int .i64 ini, .slice (some ⟨g2, 0, none⟩) LX2.length e2x, .slice (some ⟨g3, 0, none⟩) LX3.length e3x, .slice (some ⟨g4, 0, none⟩) LX4.length e4x, .slice a6 L.length c6]) := World.rangeAt_setCells_same wr (w.heap.size + 2) 0 [.int .i64 (st * su), .int .i64 ini, .slice (some ⟨g2, 0, none⟩) LX2.length e2x, .slice (some ⟨g3, 0, none⟩) LX3.length e3x, .slice (some ⟨g4, 0, none⟩) LX4.length e4x, .slice a6 L.length c6] (by simpa using THR.out)
                clear hLn hlen
                go_wp2_with (first | refine wpList_load_mid rfl _ _ rfl bo 0 rfl [.int .i64 (st * su), .int .i64 ini, .slice (some ⟨g2, 0, none⟩) LX2.length e2x, .slice (some ⟨g3, 0, none⟩) LX3.length e3x, .slice (some ⟨g4, 0, none⟩) LX4.length e4x, .slice a6 L.length c6] _ RGO.out Tryz.underlying31 rfl (by kernel_rfl) ?_ | refine wpList_store_mid rfl _ _ _ rfl (w.heap.size + 2) 0 #[.int .i64 (st * su), .int .i64 ini, .slice (some ⟨g2, 0, none⟩) LX2.length e2x, .slice (some ⟨g3, 0, none⟩) LX3.length e3x, .slice (some ⟨g4, 0, none⟩) LX4.length e4x, .slice a6 L.length c6] rfl rfl THR.out (by kernel_rfl) (ia_one _ _ _ _ _ _ _ _ _ _ _ _ _ _) ?_)
                refine bodyPost_ret (v := .tuple #[.agg #[.int .i64 (st * su), .int .i64 ini, .slice (some ⟨g2, 0, none⟩) LX2.length e2x, .slice (some ⟨g3, 0, none⟩) LX3.length e3x, .slice (some ⟨g4, 0, none⟩) LX4.length e4x, .slice a6 L.length c6], .bool true]) ?_ rfl ⟨.agg #[.int .i64 (st * su), .int .i64 ini, .slice (some ⟨g2, 0, none⟩) LX2.length e2x, .slice (some ⟨g3, 0, none⟩) LX3.length e3x, .slice (some ⟨g4, 0, none⟩) LX4.length e4x, .slice a6 L.length c6], rfl, ?_, (fun _ => ⟨_, _, _, _, _, _, _, _, _, _, _, _, rfl⟩), HP.out.bel.grown G9.out HP.out.bel.size (fun q hq => by have h1 := Option.some.inj hq; omega)⟩
                · have HC0 := RG9.out 0 _ rfl
                  have HC1 := RG9.out 1 _ rfl
                  have HC2 := RG9.out 2 _ rfl
                  have HC3 := RG9.out 3 _ rfl
                  have HC4 := RG9.out 4 _ rfl
                  have HC5 := RG9.out 5 _ rfl
                  simp only [Nat.zero_add] at HC0 HC1 HC2 HC3 HC4 HC5
                  simp [results, Tryz.results19, go_sem, HC0, HC1, HC2, HC3, HC4, HC5]
                · rw [HIF.out]
                  exact ⟨_, _, _, _, rfl, HP.out.o2.keepVar HP.out.res (by decide) G9.out, HP.out.o3.keepVar HP.out.res (by decide) G9.out, HP.out.o4.keepVar HP.out.res (by decide) G9.out, HP.out.o5.keep G9.out (fun k hk he => own_var HP.out.o5 HP.out.res (by decide) (hk.trans he))⟩
              · have hd : decide ((L.length : Int) > 400) = true := by simp; omega
                have HOF : ok = false := by rw [HB_.out]; simp; omega
                have HI := Lib.hid (HIN0.out HOF)
                subst HOF
                clear hLn hlen
                have THX : Hid (wr.there (w.heap.size + 2) 0 6) := HP.out.res.there rfl
                have RGX : Hid ((wr.setCells (w.heap.size + 2) 0 [.int .i64 0, .int .i64 0, .slice none 0 0, .slice none 0 0, .slice none 0 0, .slice none 0 0]).rangeAt (w.heap.size + 2) 0 [.int .i64 0, .int .i64 0, .slice none 0 0, .slice none 0 0, .slice none 0 0, .slice none 0 0]) := World.rangeAt_setCells_same wr (w.heap.size + 2) 0 [.int .i64 0, .int .i64 0, .slice none 0 0, .slice none 0 0, .slice none 0 0, .slice none 0 0] (by simpa using THX.out)
                have GX := Lib.hid (grown_setCells (w.heap.size + 2) [.int .i64 0, .int .i64 0, .slice none 0 0, .slice none 0 0, .slice none 0 0, .slice none 0 0] 0 wr)
                have BX : Hid (Below w.heap.size w (wr.setCells (w.heap.size + 2) 0 [.int .i64 0, .int .i64 0, .slice none 0 0, .slice none 0 0, .slice none 0 0, .slice none 0 0])) := HP.out.bel.grown GX.out HP.out.bel.size (fun q hq => by have h1 := Option.some.inj hq; omega)
                have HIN : Hid (I = noIa) := HI.out
                go_wp2_with (refine wpList_store_mid rfl _ _ _ rfl (w.heap.size + 2) 0 #[.int .i64 0, .int .i64 0, .slice none 0 0, .slice none 0 0, .slice none 0 0, .slice none 0 0] rfl rfl THX.out (by kernel_rfl) (ia_one _ _ _ _ _ _ _ _ _ _ _ _ _ _) ?_)
                refine bodyPost_ret (v := .tuple #[.agg #[.int .i64 0, .int .i64 0, .slice none 0 0, .slice none 0 0, .slice none 0 0, .slice none 0 0], .bool false]) ?_ rfl ⟨.agg #[.int .i64 0, .int .i64 0, .slice none 0 0, .slice none 0 0, .slice none 0 0, .slice none 0 0], rfl, by rw [HIN.out]; exact high_none _ _, (fun e => by cases e), BX.out⟩
                have HC0 := RGX.out 0 _ rfl
                have HC1 := RGX.out 1 _ rfl
                have HC2 := RGX.out 2 _ rfl
                have HC3 := RGX.out 3 _ rfl
                have HC4 := RGX.out 4 _ rfl
                have HC5 := RGX.out 5 _ rfl
                simp only [Nat.zero_add] at HC0 HC1 HC2 HC3 HC4 HC5
                simp [results, Tryz.results19, go_sem, HC0, HC1, HC2, HC3, HC4, HC5]

    refine wpAnyH_ready (rs := [17, 35]) (fuel := 8) (by kernel_rfl) (by simp) ?_
    refine ready_want rfl (by kernel_rfl) (tf 6358040575 37) (by kernel_rfl) (fun K hK => ?_) ?_
    · simp only [List.getElem_toArray, List.getElem_cons_succ, List.getElem_cons_zero]
      go_big_op
      refine (CJ1.out _ hHeld).mono ?_
      rintro e wp1 ⟨jag1, jac1, rfl, ho, hb⟩
      have s1 : Hid (Owns wp1 w.heap.size (.slice (some ⟨gs, 0, none⟩) sn cs) sn sh) := PD.out.below (hb)
      have r1 : Hid (VarIs wp1 (w.heap.size + 2) #[.int .i64 0, .int .i64 0, .slice none 0 0, .slice none 0 0, .slice none 0 0, .slice none 0 0] 31) := TD.out.below (hb)
      have ja1 : Hid (Owns wp1 w.heap.size (.slice (some ⟨jag1, 0, none⟩) LJ1.length jac1) LJ1.length LJ1) := ho.mono (base := w.heap.size) hHeld.1.size
      have hS1 := hHeld.below hb
      clear hb ho
      refine hK.out _ _ hS1 (fun hHeld => ?_)
      clear hK K hS1
      refine wpAnyH_ready (rs := [19, 35]) (fuel := 7) (by kernel_rfl) (by simp) ?_
      refine ready_want rfl (by kernel_rfl) (tf 6358564863 37) (by kernel_rfl) (fun K hK => ?_) ?_
      · simp only [List.getElem_toArray, List.getElem_cons_succ, List.getElem_cons_zero]
        go_big_op
        refine (CL1.out _ _ _ ja1.out s1.out).mono ?_
        rintro e wp2 ⟨xag2, xac2, rfl, ho, hb⟩
        have s2 : Hid (Owns wp2 w.heap.size (.slice (some ⟨gs, 0, none⟩) sn cs) sn sh) := s1.out.below (hb)
        have r2 : Hid (VarIs wp2 (w.heap.size + 2) #[.int .i64 0, .int .i64 0, .slice none 0 0, .slice none 0 0, .slice none 0 0, .slice none 0 0] 31) := r1.out.below (hb)
        have ja2 : Hid (Owns wp2 w.heap.size (.slice (some ⟨jag1, 0, none⟩) LJ1.length jac1) LJ1.length LJ1) := ja1.out.below (hb)
        have xa2 : Hid (Owns wp2 w.heap.size (.slice (some ⟨xag2, 0, none⟩) LX2.length xac2) LX2.length LX2) := ho.mono (base := w.heap.size) hHeld.1.size
        have hS2 := hHeld.below hb
        clear hb ho
        refine hK.out _ _ hS2 (fun hHeld => ?_)
        clear hK K hS2
        refine wpAnyH_ready (rs := [24, 35]) (fuel := 6) (by kernel_rfl) (by simp) ?_
        refine ready_want rfl (by kernel_rfl) (tf 6375342079 37) (by kernel_rfl) (fun K hK => ?_) ?_
        · simp only [List.getElem_toArray, List.getElem_cons_succ, List.getElem_cons_zero]
          go_big_op
          refine (CJ2.out _ hHeld).mono ?_
          rintro e wp3 ⟨jbg3, jbc3, rfl, ho, hb⟩
          have s3 : Hid (Owns wp3 w.heap.size (.slice (some ⟨gs, 0, none⟩) sn cs) sn sh) := s2.out.below (hb)
          have r3 : Hid (VarIs wp3 (w.heap.size + 2) #[.int .i64 0, .int .i64 0, .slice none 0 0, .slice none 0 0, .slice none 0 0, .slice none 0 0] 31) := r2.out.below (hb)
          have ja3 : Hid (Owns wp3 w.heap.size (.slice (some ⟨jag1, 0, none⟩) LJ1.length jac1) LJ1.length LJ1) := ja2.out.below (hb)
          have xa3 : Hid (Owns wp3 w.heap.size (.slice (some ⟨xag2, 0, none⟩) LX2.length xac2) LX2.length LX2) := xa2.out.below (hb)
          have jb3 : Hid (Owns wp3 w.heap.size (.slice (some ⟨jbg3, 0, none⟩) LJ2.length jbc3) LJ2.length LJ2) := ho.mono (base := w.heap.size) hHeld.1.size
          have hS3 := hHeld.below hb
          clear hb ho
          refine hK.out _ _ hS3 (fun hHeld => ?_)
          clear hK K hS3
          refine wpAnyH_ready (rs := [26, 35]) (fuel := 5) (by kernel_rfl) (by simp) ?_
          refine ready_want rfl (by kernel_rfl) (tf 6442450943 37) (by kernel_rfl) (fun K hK => ?_) ?_
          · simp only [List.getElem_toArray, List.getElem_cons_succ, List.getElem_cons_zero]
            go_big_op
            refine (CL2.out _ _ _ jb3.out s3.out).mono ?_
            rintro e wp4 ⟨xbg4, xbc4, rfl, ho, hb⟩
            have s4 : Hid (Owns wp4 w.heap.size (.slice (some ⟨gs, 0, none⟩) sn cs) sn sh) := s3.out.below (hb)
            have r4 : Hid (VarIs wp4 (w.heap.size + 2) #[.int .i64 0, .int .i64 0, .slice none 0 0, .slice none 0 0, .slice none 0 0, .slice none 0 0] 31) := r3.out.below (hb)
            have ja4 : Hid (Owns wp4 w.heap.size (.slice (some ⟨jag1, 0, none⟩) LJ1.length jac1) LJ1.length LJ1) := ja3.out.below (hb)
            have xa4 : Hid (Owns wp4 w.heap.size (.slice (some ⟨xag2, 0, none⟩) LX2.length xac2) LX2.length LX2) := xa3.out.below (hb)
            have jb4 : Hid (Owns wp4 w.heap.size (.slice (some ⟨jbg3, 0, none⟩) LJ2.length jbc3) LJ2.length LJ2) := jb3.out.below (hb)
            have xb4 : Hid (Owns wp4 w.heap.size (.slice (some ⟨xbg4, 0, none⟩) LX3.length xbc4) LX3.length LX3) := ho.mono (base := w.heap.size) hHeld.1.size
            have hS4 := hHeld.below hb
            clear hb ho
            refine hK.out _ _ hS4 (fun hHeld => ?_)
            clear hK K hS4
            refine wpAnyH_ready (rs := [31, 35]) (fuel := 4) (by kernel_rfl) (by simp) ?_
            refine ready_want rfl (by kernel_rfl) (tf 8589934591 37) (by kernel_rfl) (fun K hK => ?_) ?_
            · simp only [List.getElem_toArray, List.getElem_cons_succ, List.getElem_cons_zero]
              go_big_op
              refine (CJ3.out _ hHeld).mono ?_
              rintro e wp5 ⟨jcg5, jcc5, rfl, ho, hb⟩
              have s5 : Hid (Owns wp5 w.heap.size (.slice (some ⟨gs, 0, none⟩) sn cs) sn sh) := s4.out.below (hb)
              have r5 : Hid (VarIs wp5 (w.heap.size + 2) #[.int .i64 0, .int .i64 0, .slice none 0 0, .slice none 0 0, .slice none 0 0, .slice none 0 0] 31) := r4.out.below (hb)
              have ja5 : Hid (Owns wp5 w.heap.size (.slice (some ⟨jag1, 0, none⟩) LJ1.length jac1) LJ1.length LJ1) := ja4.out.below (hb)
              have xa5 : Hid (Owns wp5 w.heap.size (.slice (some ⟨xag2, 0, none⟩) LX2.length xac2) LX2.length LX2) := xa4.out.below (hb)
              have jb5 : Hid (Owns wp5 w.heap.size (.slice (some ⟨jbg3, 0, none⟩) LJ2.length jbc3) LJ2.length LJ2) := jb4.out.below (hb)
              have xb5 : Hid (Owns wp5 w.heap.size (.slice (some ⟨xbg4, 0, none⟩) LX3.length xbc4) LX3.length LX3) := xb4.out.below (hb)
              have jc5 : Hid (Owns wp5 w.heap.size (.slice (some ⟨jcg5, 0, none⟩) LJ3.length jcc5) LJ3.length LJ3) := ho.mono (base := w.heap.size) hHeld.1.size
              have hS5 := hHeld.below hb
              clear hb ho
              refine hK.out _ _ hS5 (fun hHeld => ?_)
              clear hK K hS5
              refine wpAnyH_ready (rs := [33, 35]) (fuel := 3) (by kernel_rfl) (by simp) ?_
              refine ready_want rfl (by kernel_rfl) (tf 17179869183 37) (by kernel_rfl) (fun K hK => ?_) ?_
              · simp only [List.getElem_toArray, List.getElem_cons_succ, List.getElem_cons_zero]
                go_big_op
                refine (CL3.out _ _ _ jc5.out s5.out).mono ?_
                rintro e wp6 ⟨xcg6, xcc6, rfl, ho, hb⟩
                have s6 : Hid (Owns wp6 w.heap.size (.slice (some ⟨gs, 0, none⟩) sn cs) sn sh) := s5.out.below (hb)
                have r6 : Hid (VarIs wp6 (w.heap.size + 2) #[.int .i64 0, .int .i64 0, .slice none 0 0, .slice none 0 0, .slice none 0 0, .slice none 0 0] 31) := r5.out.below (hb)
                have ja6 : Hid (Owns wp6 w.heap.size (.slice (some ⟨jag1, 0, none⟩) LJ1.length jac1) LJ1.length LJ1) := ja5.out.below (hb)
                have xa6 : Hid (Owns wp6 w.heap.size (.slice (some ⟨xag2, 0, none⟩) LX2.length xac2) LX2.length LX2) := xa5.out.below (hb)
                have jb6 : Hid (Owns wp6 w.heap.size (.slice (some ⟨jbg3, 0, none⟩) LJ2.length jbc3) LJ2.length LJ2) := jb5.out.below (hb)
                have xb6 : Hid (Owns wp6 w.heap.size (.slice (some ⟨xbg4, 0, none⟩) LX3.length xbc4) LX3.length LX3) := xb5.out.below (hb)
                have jc6 : Hid (Owns wp6 w.heap.size (.slice (some ⟨jcg5, 0, none⟩) LJ3.length jcc5) LJ3.length LJ3) := jc5.out.below (hb)
                have xc6 : Hid (Owns wp6 w.heap.size (.slice (some ⟨xcg6, 0, none⟩) LX4.length xcc6) LX4.length LX4) := ho.mono (base := w.heap.size) hHeld.1.size
                have hS6 := hHeld.below hb
                clear hb ho
                refine hK.out _ _ hS6 (fun hHeld => ?_)
                clear hK K hS6
                refine fastE 34 58 (.agg #[.int .i64 (st * su), .int .i64 ini, .slice (some ⟨xag2, 0, none⟩) LX2.length xac2, .slice (some ⟨xbg4, 0, none⟩) LX3.length xbc4, .slice (some ⟨xcg6, 0, none⟩) LX4.length xcc6, .slice none 0 0]) (fuel := 2) (fun ρ => ρ (.tmp 28) = .int .i64 (st * su) ∧ ρ (.tmp 36) = .int .i64 ini ∧ ρ (.tmp 43) = .slice (some ⟨xag2, 0, none⟩) LX2.length xac2 ∧ ρ (.tmp 50) = .slice (some ⟨xbg4, 0, none⟩) LX3.length xbc4 ∧ ρ (.tmp 57) = .slice (some ⟨xcg6, 0, none⟩) LX4.length xcc6) rfl rfl (by kernel_rfl) (by kernel_rfl) (by kernel_rfl) (fun _ _ _ h => h) (by kernel_rfl) ⟨by kernel_rfl, by kernel_rfl, by kernel_rfl, by kernel_rfl, by kernel_rfl⟩ (fun ρ hF _ w hSw => by obtain ⟨hr0, hr1, hr2, hr3, hr4⟩ := hF; simp [go_sem, hr0, hr1, hr2, hr3, hr4]) hHeld (tf 34359738367 37) (by kernel_rfl) (fun K hK => ?_)
                go_big_move
                refine hK.out _ ?_
                clear hK K
                refine wpAnyH_ready (rs := [35]) (fuel := 1) (by kernel_rfl) (by simp) ?_
                refine ready_want rfl (by kernel_rfl) (tf 68719476735 37) (by kernel_rfl) (fun K hK => ?_) AllReadyH.nil
                have s7 : Hid (Owns (wp6.alloc (.cells #[.int .i64 0, .int .i64 0, .slice none 0 0, .slice none 0 0, .slice none 0 0, .slice none 0 0] 31)) w.heap.size (.slice (some ⟨gs, 0, none⟩) sn cs) sn sh) := s6.out.below ((Below.refl _ wp6).alloc (Nat.le_refl _) (.cells #[.int .i64 0, .int .i64 0, .slice none 0 0, .slice none 0 0, .slice none 0 0, .slice none 0 0] 31))
                have r7 : Hid (VarIs (wp6.alloc (.cells #[.int .i64 0, .int .i64 0, .slice none 0 0, .slice none 0 0, .slice none 0 0, .slice none 0 0] 31)) (w.heap.size + 2) #[.int .i64 0, .int .i64 0, .slice none 0 0, .slice none 0 0, .slice none 0 0, .slice none 0 0] 31) := r6.out.below ((Below.refl _ wp6).alloc (Nat.le_refl _) (.cells #[.int .i64 0, .int .i64 0, .slice none 0 0, .slice none 0 0, .slice none 0 0, .slice none 0 0] 31))
                have ja7 : Hid (Owns (wp6.alloc (.cells #[.int .i64 0, .int .i64 0, .slice none 0 0, .slice none 0 0, .slice none 0 0, .slice none 0 0] 31)) w.heap.size (.slice (some ⟨jag1, 0, none⟩) LJ1.length jac1) LJ1.length LJ1) := ja6.out.below ((Below.refl _ wp6).alloc (Nat.le_refl _) (.cells #[.int .i64 0, .int .i64 0, .slice none 0 0, .slice none 0 0, .slice none 0 0, .slice none 0 0] 31))
                have xa7 : Hid (Owns (wp6.alloc (.cells #[.int .i64 0, .int .i64 0, .slice none 0 0, .slice none 0 0, .slice none 0 0, .slice none 0 0] 31)) w.heap.size (.slice (some ⟨xag2, 0, none⟩) LX2.length xac2) LX2.length LX2) := xa6.out.below ((Below.refl _ wp6).alloc (Nat.le_refl _) (.cells #[.int .i64 0, .int .i64 0, .slice none 0 0, .slice none 0 0, .slice none 0 0, .slice none 0 0] 31))
                have jb7 : Hid (Owns (wp6.alloc (.cells #[.int .i64 0, .int .i64 0, .slice none 0 0, .slice none 0 0, .slice none 0 0, .slice none 0 0] 31)) w.heap.size (.slice (some ⟨jbg3, 0, none⟩) LJ2.length jbc3) LJ2.length LJ2) := jb6.out.below ((Below.refl _ wp6).alloc (Nat.le_refl _) (.cells #[.int .i64 0, .int .i64 0, .slice none 0 0, .slice none 0 0, .slice none 0 0, .slice none 0 0] 31))
                have xb7 : Hid (Owns (wp6.alloc (.cells #[.int .i64 0, .int .i64 0, .slice none 0 0, .slice none 0 0, .slice none 0 0, .slice none 0 0] 31)) w.heap.size (.slice (some ⟨xbg4, 0, none⟩) LX3.length xbc4) LX3.length LX3) := xb6.out.below ((Below.refl _ wp6).alloc (Nat.le_refl _) (.cells #[.int .i64 0, .int .i64 0, .slice none 0 0, .slice none 0 0, .slice none 0 0, .slice none 0 0] 31))
                have jc7 : Hid (Owns (wp6.alloc (.cells #[.int .i64 0, .int .i64 0, .slice none 0 0, .slice none 0 0, .slice none 0 0, .slice none 0 0] 31)) w.heap.size (.slice (some ⟨jcg5, 0, none⟩) LJ3.length jcc5) LJ3.length LJ3) := jc6.out.below ((Below.refl _ wp6).alloc (Nat.le_refl _) (.cells #[.int .i64 0, .int .i64 0, .slice none 0 0, .slice none 0 0, .slice none 0 0, .slice none 0 0] 31))
                have xc7 : Hid (Owns (wp6.alloc (.cells #[.int .i64 0, .int .i64 0, .slice none 0 0, .slice none 0 0, .slice none 0 0, .slice none 0 0] 31)) w.heap.size (.slice (some ⟨xcg6, 0, none⟩) LX4.length xcc6) LX4.length LX4) := xc6.out.below ((Below.refl _ wp6).alloc (Nat.le_refl _) (.cells #[.int .i64 0, .int .i64 0, .slice none 0 0, .slice none 0 0, .slice none 0 0, .slice none 0 0] 31))
                have BL : Hid (w.heap.size + 2 < wp6.heap.size) := by have h1 := r6.out.lt; (try simp at h1); unfold Hid; omega
                have vn7 : Hid (VarIs (wp6.alloc (.cells #[.int .i64 0, .int .i64 0, .slice none 0 0, .slice none 0 0, .slice none 0 0, .slice none 0 0] 31)) (wp6.heap.size) #[.int .i64 0, .int .i64 0, .slice none 0 0, .slice none 0 0, .slice none 0 0, .slice none 0 0] 31) := VarIs.new wp6 #[.int .i64 0, .int .i64 0, .slice none 0 0, .slice none 0 0, .slice none 0 0, .slice none 0 0] 31 (by simp)
                simp only [List.getElem_toArray, List.getElem_cons_succ, List.getElem_cons_zero]
                go_big_op
                refine hK.out _ _ (hHeld.below ((Below.refl _ wp6).alloc (Nat.le_refl _) (.cells #[.int .i64 0, .int .i64 0, .slice none 0 0, .slice none 0 0, .slice none 0 0, .slice none 0 0] 31))) (fun hHeld => ?_)
                clear hK K
                have tZ : Hid ((wp6.alloc (.cells #[.int .i64 0, .int .i64 0, .slice none 0 0, .slice none 0 0, .slice none 0 0, .slice none 0 0] 31)).there (wp6.heap.size) 0 6) := vn7.out.there rfl
                have gZ := Lib.hid (grown_setCells (wp6.heap.size) [.int .i64 (st * su), .int .i64 ini, .slice (some ⟨xag2, 0, none⟩) LX2.length xac2, .slice (some ⟨xbg4, 0, none⟩) LX3.length xbc4, .slice (some ⟨xcg6, 0, none⟩) LX4.length xcc6, .slice none 0 0] 0 (wp6.alloc (.cells #[.int .i64 0, .int .i64 0, .slice none 0 0, .slice none 0 0, .slice none 0 0, .slice none 0 0] 31)))
                have hSZ : Hid (Box2 w ((wp6.alloc (.cells #[.int .i64 0, .int .i64 0, .slice none 0 0, .slice none 0 0, .slice none 0 0, .slice none 0 0] 31)).setCells (wp6.heap.size) 0 [.int .i64 (st * su), .int .i64 ini, .slice (some ⟨xag2, 0, none⟩) LX2.length xac2, .slice (some ⟨xbg4, 0, none⟩) LX3.length xbc4, .slice (some ⟨xcg6, 0, none⟩) LX4.length xcc6, .slice none 0 0]) w.heap.size (w.heap.size + 1) 31 (iaC st it a2 n2 c2 a3 n3 c3 a4 n4 c4 a5 n5 c5) (iaC su iu b2 m2 d2 b3 m3 d3 b4 m4 d4 b5 m5 d5)) := ⟨hHeld.1.grown gZ.out hHeld.1.size (fun q hq => by have h1 := Option.some.inj hq; have h2 := BL.out; omega), hHeld.2.1.grown gZ.out (fun e => by have h1 := Option.some.inj e; have h2 := BL.out; omega), hHeld.2.2.grown gZ.out (fun e => by have h1 := Option.some.inj e; have h2 := BL.out; omega)⟩
                have rZ := Lib.hid (r7.out.grown gZ.out (fun e => by have h1 := Option.some.inj e; have h2 := BL.out; omega))
                have vZ : Hid (VarIs ((wp6.alloc (.cells #[.int .i64 0, .int .i64 0, .slice none 0 0, .slice none 0 0, .slice none 0 0, .slice none 0 0] 31)).setCells (wp6.heap.size) 0 [.int .i64 (st * su), .int .i64 ini, .slice (some ⟨xag2, 0, none⟩) LX2.length xac2, .slice (some ⟨xbg4, 0, none⟩) LX3.length xbc4, .slice (some ⟨xcg6, 0, none⟩) LX4.length xcc6, .slice none 0 0]) (wp6.heap.size) #[.int .i64 (st * su), .int .i64 ini, .slice (some ⟨xag2, 0, none⟩) LX2.length xac2, .slice (some ⟨xbg4, 0, none⟩) LX3.length xbc4, .slice (some ⟨xcg6, 0, none⟩) LX4.length xcc6, .slice none 0 0] 31) := vn7.out.sets _ _ _ _ _ _
                have qs := Lib.hid (s7.out.keepVar vn7.out (by decide) gZ.out)
                have qxa := Lib.hid (xa7.out.keepVar vn7.out (by decide) gZ.out)
                have qxb := Lib.hid (xb7.out.keepVar vn7.out (by decide) gZ.out)
                have qxc := Lib.hid (xc7.out.keepVar vn7.out (by decide) gZ.out)
                refine wpAnyH_ready (rs := [36]) (fuel := 0) (by kernel_rfl) (by simp) ?_
                refine ready_want rfl (by kernel_rfl) (tf 137438953471 37) (by kernel_rfl) (fun K hK => ?_) AllReadyH.nil
                refine wp_store_mid _ _ _ rfl (wp6.heap.size) 0 #[.int .i64 (st * su), .int .i64 ini, .slice (some ⟨xag2, 0, none⟩) LX2.length xac2, .slice (some ⟨xbg4, 0, none⟩) LX3.length xbc4, .slice (some ⟨xcg6, 0, none⟩) LX4.length xcc6, .slice none 0 0] rfl rfl tZ.out (by kernel_rfl) (ia_one _ _ _ _ _ _ _ _ _ _ _ _ _ _) ?_
                refine hK.out _ _ hSZ.out (fun hHeld => ?_)
                clear hK K
                refine wpAnyH_done (by kernel_rfl) ?_ _
                exact REST.out (wp6.heap.size, jag1, jac1, xag2, xac2, jbg3, jbc3, xbg4, xbc4, jcg5, jcc5, xcg6, xcc6) _ ⟨hSZ.out, rZ.out, qs.out, vZ.out, qxa.out, qxb.out, qxc.out, BL.out⟩
              refine ready_want rfl (by kernel_rfl) (tf 42949672959 37) (by kernel_rfl) (fun K hK => ?_) AllReadyH.nil
              have s8 : Hid (Owns (wp5.alloc (.cells #[.int .i64 0, .int .i64 0, .slice none 0 0, .slice none 0 0, .slice none 0 0, .slice none 0 0] 31)) w.heap.size (.slice (some ⟨gs, 0, none⟩) sn cs) sn sh) := s5.out.below ((Below.refl _ wp5).alloc (Nat.le_refl _) (.cells #[.int .i64 0, .int .i64 0, .slice none 0 0, .slice none 0 0, .slice none 0 0, .slice none 0 0] 31))
              have r8 : Hid (VarIs (wp5.alloc (.cells #[.int .i64 0, .int .i64 0, .slice none 0 0, .slice none 0 0, .slice none 0 0, .slice none 0 0] 31)) (w.heap.size + 2) #[.int .i64 0, .int .i64 0, .slice none 0 0, .slice none 0 0, .slice none 0 0, .slice none 0 0] 31) := r5.out.below ((Below.refl _ wp5).alloc (Nat.le_refl _) (.cells #[.int .i64 0, .int .i64 0, .slice none 0 0, .slice none 0 0, .slice none 0 0, .slice none 0 0] 31))
              have ja8 : Hid (Owns (wp5.alloc (.cells #[.int .i64 0, .int .i64 0, .slice none 0 0, .slice none 0 0, .slice none 0 0, .slice none 0 0] 31)) w.heap.size (.slice (some ⟨jag1, 0, none⟩) LJ1.length jac1) LJ1.length LJ1) := ja5.out.below ((Below.refl _ wp5).alloc (Nat.le_refl _) (.cells #[.int .i64 0, .int .i64 0, .slice none 0 0, .slice none 0 0, .slice none 0 0, .slice none 0 0] 31))
              have xa8 : Hid (Owns (wp5.alloc (.cells #[.int .i64 0, .int .i64 0, .slice none 0 0, .slice none 0 0, .slice none 0 0, .slice none 0 0] 31)) w.heap.size (.slice (some ⟨xag2, 0, none⟩) LX2.length xac2) LX2.length LX2) := xa5.out.below ((Below.refl _ wp5).alloc (Nat.le_refl _) (.cells #[.int .i64 0, .int .i64 0, .slice none 0 0, .slice none 0 0, .slice none 0 0, .slice none 0 0] 31))
              have jb8 : Hid (Owns (wp5.alloc (.cells #[.int .i64 0, .int .i64 0, .slice none 0 0, .slice none 0 0, .slice none 0 0, .slice none 0 0] 31)) w.heap.size (.slice (some ⟨jbg3, 0, none⟩) LJ2.length jbc3) LJ2.length LJ2) := jb5.out.below ((Below.refl _ wp5).alloc (Nat.le_refl _) (.cells #[.int .i64 0, .int .i64 0, .slice none 0 0, .slice none 0 0, .slice none 0 0, .slice none 0 0] 31))
              have xb8 : Hid (Owns (wp5.alloc (.cells #[.int .i64 0, .int .i64 0, .slice none 0 0, .slice none 0 0, .slice none 0 0, .slice none 0 0] 31)) w.heap.size (.slice (some ⟨xbg4, 0, none⟩) LX3.length xbc4) LX3.length LX3) := xb5.out.below ((Below.refl _ wp5).alloc (Nat.le_refl _) (.cells #[.int .i64 0, .int .i64 0, .slice none 0 0, .slice none 0 0, .slice none 0 0, .slice none 0 0] 31))
              have jc8 : Hid (Owns (wp5.alloc (.cells #[.int .i64 0, .int .i64 0, .slice none 0 0, .slice none 0 0, .slice none 0 0, .slice none 0 0] 31)) w.heap.size (.slice (some ⟨jcg5, 0, none⟩) LJ3.length jcc5) LJ3.length LJ3) := jc5.out.below ((Below.refl _ wp5).alloc (Nat.le_refl _) (.cells #[.int .i64 0, .int .i64 0, .slice none 0 0, .slice none 0 0, .slice none 0 0, .slice none 0 0] 31))
              have BL : Hid (w.heap.size + 2 < wp5.heap.size) := by have h1 := r5.out.lt; (try simp at h1); unfold Hid; omega
              have vn8 : Hid (VarIs (wp5.alloc (.cells #[.int .i64 0, .int .i64 0, .slice none 0 0, .slice none 0 0, .slice none 0 0, .slice none 0 0] 31)) (wp5.heap.size) #[.int .i64 0, .int .i64 0, .slice none 0 0, .slice none 0 0, .slice none 0 0, .slice none 0 0] 31) := VarIs.new wp5 #[.int .i64 0, .int .i64 0, .slice none 0 0, .slice none 0 0, .slice none 0 0, .slice none 0 0] 31 (by simp)
              simp only [List.getElem_toArray, List.getElem_cons_succ, List.getElem_cons_zero]
              go_big_op
              refine hK.out _ _ (hHeld.below ((Below.refl _ wp5).alloc (Nat.le_refl _) (.cells #[.int .i64 0, .int .i64 0, .slice none 0 0, .slice none 0 0, .slice none 0 0, .slice none 0 0] 31))) (fun hHeld => ?_)
              clear hK K
              refine wpAnyH_ready (rs := [33]) (fuel := 2) (by kernel_rfl) (by simp) ?_
              refine ready_want rfl (by kernel_rfl) (tf 51539607551 37) (by kernel_rfl) (fun K hK => ?_) AllReadyH.nil
              simp only [List.getElem_toArray, List.getElem_cons_succ, List.getElem_cons_zero]
              go_big_op
              refine (CL3.out _ _ _ jc8.out s8.out).mono ?_
              rintro e wp9 ⟨xcg9, xcc9, rfl, ho, hb⟩
              have s9 : Hid (Owns wp9 w.heap.size (.slice (some ⟨gs, 0, none⟩) sn cs) sn sh) := s8.out.below (hb)
              have r9 : Hid (VarIs wp9 (w.heap.size + 2) #[.int .i64 0, .int .i64 0, .slice none 0 0, .slice none 0 0, .slice none 0 0, .slice none 0 0] 31) := r8.out.below (hb)
              have ja9 : Hid (Owns wp9 w.heap.size (.slice (some ⟨jag1, 0, none⟩) LJ1.length jac1) LJ1.length LJ1) := ja8.out.below (hb)
              have xa9 : Hid (Owns wp9 w.heap.size (.slice (some ⟨xag2, 0, none⟩) LX2.length xac2) LX2.length LX2) := xa8.out.below (hb)
              have jb9 : Hid (Owns wp9 w.heap.size (.slice (some ⟨jbg3, 0, none⟩) LJ2.length jbc3) LJ2.length LJ2) := jb8.out.below (hb)
              have xb9 : Hid (Owns wp9 w.heap.size (.slice (some ⟨xbg4, 0, none⟩) LX3.length xbc4) LX3.length LX3) := xb8.out.below (hb)
              have jc9 : Hid (Owns wp9 w.heap.size (.slice (some ⟨jcg5, 0, none⟩) LJ3.length jcc5) LJ3.length LJ3) := jc8.out.below (hb)
              have v9 : Hid (VarIs wp9 (wp5.heap.size) #[.int .i64 0, .int .i64 0, .slice none 0 0, .slice none 0 0, .slice none 0 0, .slice none 0 0] 31) := vn8.out.below (hb)
              have xc9 : Hid (Owns wp9 w.heap.size (.slice (some ⟨xcg9, 0, none⟩) LX4.length xcc9) LX4.length LX4) := ho.mono (base := w.heap.size) hHeld.1.size
              have hS9 := hHeld.below hb
              clear hb ho
              refine hK.out _ _ hS9 (fun hHeld => ?_)
              clear hK K hS9
              refine fastE 34 58 (.agg #[.int .i64 (st * su), .int .i64 ini, .slice (some ⟨xag2, 0, none⟩) LX2.length xac2, .slice (some ⟨xbg4, 0, none⟩) LX3.length xbc4, .slice (some ⟨xcg9, 0, none⟩) LX4.length xcc9, .slice none 0 0]) (fuel := 1) (fun ρ => ρ (.tmp 28) = .int .i64 (st * su) ∧ ρ (.tmp 36) = .int .i64 ini ∧ ρ (.tmp 43) = .slice (some ⟨xag2, 0, none⟩) LX2.length xac2 ∧ ρ (.tmp 50) = .slice (some ⟨xbg4, 0, none⟩) LX3.length xbc4 ∧ ρ (.tmp 57) = .slice (some ⟨xcg9, 0, none⟩) LX4.length xcc9) rfl rfl (by kernel_rfl) (by kernel_rfl) (by kernel_rfl) (fun _ _ _ h => h) (by kernel_rfl) ⟨by kernel_rfl, by kernel_rfl, by kernel_rfl, by kernel_rfl, by kernel_rfl⟩ (fun ρ hF _ w hSw => by obtain ⟨hr0, hr1, hr2, hr3, hr4⟩ := hF; simp [go_sem, hr0, hr1, hr2, hr3, hr4]) hHeld (tf 68719476735 37) (by kernel_rfl) (fun K hK => ?_)
              go_big_move
              refine hK.out _ ?_
              clear hK K
              have tZ : Hid (wp9.there (wp5.heap.size) 0 6) := v9.out.there rfl
              have gZ := Lib.hid (grown_setCells (wp5.heap.size) [.int .i64 (st * su), .int .i64 ini, .slice (some ⟨xag2, 0, none⟩) LX2.length xac2, .slice (some ⟨xbg4, 0, none⟩) LX3.length xbc4, .slice (some ⟨xcg9, 0, none⟩) LX4.length xcc9, .slice none 0 0] 0 wp9)
              have hSZ : Hid (Box2 w (wp9.setCells (wp5.heap.size) 0 [.int .i64 (st * su), .int .i64 ini, .slice (some ⟨xag2, 0, none⟩) LX2.length xac2, .slice (some ⟨xbg4, 0, none⟩) LX3.length xbc4, .slice (some ⟨xcg9, 0, none⟩) LX4.length xcc9, .slice none 0 0]) w.heap.size (w.heap.size + 1) 31 (iaC st it a2 n2 c2 a3 n3 c3 a4 n4 c4 a5 n5 c5) (iaC su iu b2 m2 d2 b3 m3 d3 b4 m4 d4 b5 m5 d5)) := ⟨hHeld.1.grown gZ.out hHeld.1.size (fun q hq => by have h1 := Option.some.inj hq; have h2 := BL.out; omega), hHeld.2.1.grown gZ.out (fun e => by have h1 := Option.some.inj e; have h2 := BL.out; omega), hHeld.2.2.grown gZ.out (fun e => by have h1 := Option.some.inj e; have h2 := BL.out; omega)⟩
              have rZ := Lib.hid (r9.out.grown gZ.out (fun e => by have h1 := Option.some.inj e; have h2 := BL.out; omega))
              have vZ : Hid (VarIs (wp9.setCells (wp5.heap.size) 0 [.int .i64 (st * su), .int .i64 ini, .slice (some ⟨xag2, 0, none⟩) LX2.length xac2, .slice (some ⟨xbg4, 0, none⟩) LX3.length xbc4, .slice (some ⟨xcg9, 0, none⟩) LX4.length xcc9, .slice none 0 0]) (wp5.heap.size) #[.int .i64 (st * su), .int .i64 ini, .slice (some ⟨xag2, 0, none⟩) LX2.length xac2, .slice (some ⟨xbg4, 0, none⟩) LX3.length xbc4, .slice (some ⟨xcg9, 0, none⟩) LX4.length xcc9, .slice none 0 0] 31) := v9.out.sets _ _ _ _ _ _
              have qs := Lib.hid (s9.out.keepVar v9.out (by decide) gZ.out)
              have qxa := Lib.hid (xa9.out.keepVar v9.out (by decide) gZ.out)
              have qxb := Lib.hid (xb9.out.keepVar v9.out (by decide) gZ.out)
              have qxc := Lib.hid (xc9.out.keepVar v9.out (by decide) gZ.out)
              refine wpAnyH_ready (rs := [36]) (fuel := 0) (by kernel_rfl) (by simp) ?_
              refine ready_want rfl (by kernel_rfl) (tf 137438953471 37) (by kernel_rfl) (fun K hK => ?_) AllReadyH.nil
              refine wp_store_mid _ _ _ rfl (wp5.heap.size) 0 #[.int .i64 (st * su), .int .i64 ini, .slice (some ⟨xag2, 0, none⟩) LX2.length xac2, .slice (some ⟨xbg4, 0, none⟩) LX3.length xbc4, .slice (some ⟨xcg9, 0, none⟩) LX4.length xcc9, .slice none 0 0] rfl rfl tZ.out (by kernel_rfl) (ia_one _ _ _ _ _ _ _ _ _ _ _ _ _ _) ?_
              refine hK.out _ _ hSZ.out (fun hHeld => ?_)
              clear hK K
              refine wpAnyH_done (by kernel_rfl) ?_ _
              exact REST.out (wp5.heap.size, jag1, jac1, xag2, xac2, jbg3, jbc3, xbg4, xbc4, jcg5, jcc5, xcg9, xcc9) _ ⟨hSZ.out, rZ.out, qs.out, vZ.out, qxa.out, qxb.out, qxc.out, BL.out⟩
            refine ready_want rfl (by kernel_rfl) (tf 40802189311 37) (by kernel_rfl) (fun K hK => ?_) AllReadyH.nil
            have s10 : Hid (Owns (wp4.alloc (.cells #[.int .i64 0, .int .i64 0, .slice none 0 0, .slice none 0 0, .slice none 0 0, .slice none 0 0] 31)) w.heap.size (.slice (some ⟨gs, 0, none⟩) sn cs) sn sh) := s4.out.below ((Below.refl _ wp4).alloc (Nat.le_refl _) (.cells #[.int .i64 0, .int .i64 0, .slice none 0 0, .slice none 0 0, .slice none 0 0, .slice none 0 0] 31))
            have r10 : Hid (VarIs (wp4.alloc (.cells #[.int .i64 0, .int .i64 0, .slice none 0 0, .slice none 0 0, .slice none 0 0, .slice none 0 0] 31)) (w.heap.size + 2) #[.int .i64 0, .int .i64 0, .slice none 0 0, .slice none 0 0, .slice none 0 0, .slice none 0 0] 31) := r4.out.below ((Below.refl _ wp4).alloc (Nat.le_refl _) (.cells #[.int .i64 0, .int .i64 0, .slice none 0 0, .slice none 0 0, .slice none 0 0, .slice none 0 0] 31))
            have ja10 : Hid (Owns (wp4.alloc (.cells #[.int .i64 0, .int .i64 0, .slice none 0 0, .slice none 0 0, .slice none 0 0, .slice none 0 0] 31)) w.heap.size (.slice (some ⟨jag1, 0, none⟩) LJ1.length jac1) LJ1.length LJ1) := ja4.out.below ((Below.refl _ wp4).alloc (Nat.le_refl _) (.cells #[.int .i64 0, .int .i64 0, .slice none 0 0, .slice none 0 0, .slice none 0 0, .slice none 0 0] 31))
            have xa10 : Hid (Owns (wp4.alloc (.cells #[.int .i64 0, .int .i64 0, .slice none 0 0, .slice none 0 0, .slice none 0 0, .slice none 0 0] 31)) w.heap.size (.slice (some ⟨xag2, 0, none⟩) LX2.length xac2) LX2.length LX2) := xa4.out.below ((Below.refl _ wp4).alloc (Nat.le_refl _) (.cells #[.int .i64 0, .int .i64 0, .slice none 0 0, .slice none 0 0, .slice none 0 0, .slice none 0 0] 31))
            have jb10 : Hid (Owns (wp4.alloc (.cells #[.int .i64 0, .int .i64 0, .slice none 0 0, .slice none 0 0, .slice none 0 0, .slice none 0 0] 31)) w.heap.size (.slice (some ⟨jbg3, 0, none⟩) LJ2.length jbc3) LJ2.length LJ2) := jb4.out.below ((Below.refl _ wp4).alloc (Nat.le_refl _) (.cells #[.int .i64 0, .int .i64 0, .slice none 0 0, .slice none 0 0, .slice none 0 0, .slice none 0 0] 31))
            have xb10 : Hid (Owns (wp4.alloc (.cells #[.int .i64 0, .int .i64 0, .slice none 0 0, .slice none 0 0, .slice none 0 0, .slice none 0 0] 31)) w.heap.size (.slice (some ⟨xbg4, 0, none⟩) LX3.length xbc4) LX3.length LX3) := xb4.out.below ((Below.refl _ wp4).alloc (Nat.le_refl _) (.cells #[.int .i64 0, .int .i64 0, .slice none 0 0, .slice none 0 0, .slice none 0 0, .slice none 0 0] 31))
            have BL : Hid (w.heap.size + 2 < wp4.heap.size) := by have h1 := r4.out.lt; (try simp at h1); unfold Hid; omega
            have vn10 : Hid (VarIs (wp4.alloc (.cells #[.int .i64 0, .int .i64 0, .slice none 0 0, .slice none 0 0, .slice none 0 0, .slice none 0 0] 31)) (wp4.heap.size) #[.int .i64 0, .int .i64 0, .slice none 0 0, .slice none 0 0, .slice none 0 0, .slice none 0 0] 31) := VarIs.new wp4 #[.int .i64 0, .int .i64 0, .slice none 0 0, .slice none 0 0, .slice none 0 0, .slice none 0 0] 31 (by simp)
            simp only [List.getElem_toArray, List.getElem_cons_succ, List.getElem_cons_zero]
            go_big_op
            refine hK.out _ _ (hHeld.below ((Below.refl _ wp4).alloc (Nat.le_refl _) (.cells #[.int .i64 0, .int .i64 0, .slice none 0 0, .slice none 0 0, .slice none 0 0, .slice none 0 0] 31))) (fun hHeld => ?_)
            clear hK K
            refine wpAnyH_ready (rs := [31]) (fuel := 3) (by kernel_rfl) (by simp) ?_
            refine ready_want rfl (by kernel_rfl) (tf 42949672959 37) (by kernel_rfl) (fun K hK => ?_) AllReadyH.nil
            simp only [List.getElem_toArray, List.getElem_cons_succ, List.getElem_cons_zero]
            go_big_op
            refine (CJ3.out _ hHeld).mono ?_
            rintro e wp11 ⟨jcg11, jcc11, rfl, ho, hb⟩
            have s11 : Hid (Owns wp11 w.heap.size (.slice (some ⟨gs, 0, none⟩) sn cs) sn sh) := s10.out.below (hb)
            have r11 : Hid (VarIs wp11 (w.heap.size + 2) #[.int .i64 0, .int .i64 0, .slice none 0 0, .slice none 0 0, .slice none 0 0, .slice none 0 0] 31) := r10.out.below (hb)
            have ja11 : Hid (Owns wp11 w.heap.size (.slice (some ⟨jag1, 0, none⟩) LJ1.length jac1) LJ1.length LJ1) := ja10.out.below (hb)
            have xa11 : Hid (Owns wp11 w.heap.size (.slice (some ⟨xag2, 0, none⟩) LX2.length xac2) LX2.length LX2) := xa10.out.below (hb)
            have jb11 : Hid (Owns wp11 w.heap.size (.slice (some ⟨jbg3, 0, none⟩) LJ2.length jbc3) LJ2.length LJ2) := jb10.out.below (hb)
            have xb11 : Hid (Owns wp11 w.heap.size (.slice (some ⟨xbg4, 0, none⟩) LX3.length xbc4) LX3.length LX3) := xb10.out.below (hb)
            have v11 : Hid (VarIs wp11 (wp4.heap.size) #[.int .i64 0, .int .i64 0, .slice none 0 0, .slice none 0 0, .slice none 0 0, .slice none 0 0] 31) := vn10.out.below (hb)
            have jc11 : Hid (Owns wp11 w.heap.size (.slice (some ⟨jcg11, 0, none⟩) LJ3.length jcc11) LJ3.length LJ3) := ho.mono (base := w.heap.size) hHeld.1.size
            have hS11 := hHeld.below hb
            clear hb ho
            refine hK.out _ _ hS11 (fun hHeld => ?_)
            clear hK K hS11
            refine wpAnyH_ready (rs := [33]) (fuel := 2) (by kernel_rfl) (by simp) ?_
            refine ready_want rfl (by kernel_rfl) (tf 51539607551 37) (by kernel_rfl) (fun K hK => ?_) AllReadyH.nil
            simp only [List.getElem_toArray, List.getElem_cons_succ, List.getElem_cons_zero]
            go_big_op
            refine (CL3.out _ _ _ jc11.out s11.out).mono ?_
            rintro e wp12 ⟨xcg12, xcc12, rfl, ho, hb⟩
            have s12 : Hid (Owns wp12 w.heap.size (.slice (some ⟨gs, 0, none⟩) sn cs) sn sh) := s11.out.below (hb)
            have r12 : Hid (VarIs wp12 (w.heap.size + 2) #[.int .i64 0, .int .i64 0, .slice none 0 0, .slice none 0 0, .slice none 0 0, .slice none 0 0] 31) := r11.out.below (hb)
            have ja12 : Hid (Owns wp12 w.heap.size (.slice (some ⟨jag1, 0, none⟩) LJ1.length jac1) LJ1.length LJ1) := ja11.out.below (hb)
            have xa12 : Hid (Owns wp12 w.heap.size (.slice (some ⟨xag2, 0, none⟩) LX2.length xac2) LX2.length LX2) := xa11.out.below (hb)
            have jb12 : Hid (Owns wp12 w.heap.size (.slice (some ⟨jbg3, 0, none⟩) LJ2.length jbc3) LJ2.length LJ2) := jb11.out.below (hb)
            have xb12 : Hid (Owns wp12 w.heap.size (.slice (some ⟨xbg4, 0, none⟩) LX3.length xbc4) LX3.length LX3) := xb11.out.below (hb)
            have v12 : Hid (VarIs wp12 (wp4.heap.size) #[.int .i64 0, .int .i64 0, .slice none 0 0, .slice none 0 0, .slice none 0 0, .slice none 0 0] 31) := v11.out.below (hb)
            have jc12 : Hid (Owns wp12 w.heap.size (.slice (some ⟨jcg11, 0, none⟩) LJ3.length jcc11) LJ3.length LJ3) := jc11.out.below (hb)
            have xc12 : Hid (Owns wp12 w.heap.size (.slice (some ⟨xcg12, 0, none⟩) LX4.length xcc12) LX4.length LX4) := ho.mono (base := w.heap.size) hHeld.1.size
            have hS12 := hHeld.below hb
            clear hb ho
            refine hK.out _ _ hS12 (fun hHeld => ?_)
            clear hK K hS12
            refine fastE 34 58 (.agg #[.int .i64 (st * su), .int .i64 ini, .slice (some ⟨xag2, 0, none⟩) LX2.length xac2, .slice (some ⟨xbg4, 0, none⟩) LX3.length xbc4, .slice (some ⟨xcg12, 0, none⟩) LX4.length xcc12, .slice none 0 0]) (fuel := 1) (fun ρ => ρ (.tmp 28) = .int .i64 (st * su) ∧ ρ (.tmp 36) = .int .i64 ini ∧ ρ (.tmp 43) = .slice (some ⟨xag2, 0, none⟩) LX2.length xac2 ∧ ρ (.tmp 50) = .slice (some ⟨xbg4, 0, none⟩) LX3.length xbc4 ∧ ρ (.tmp 57) = .slice (some ⟨xcg12, 0, none⟩) LX4.length xcc12) rfl rfl (by kernel_rfl) (by kernel_rfl) (by kernel_rfl) (fun _ _ _ h => h) (by kernel_rfl) ⟨by kernel_rfl, by kernel_rfl, by kernel_rfl, by kernel_rfl, by kernel_rfl⟩ (fun ρ hF _ w hSw => by obtain ⟨hr0, hr1, hr2, hr3, hr4⟩ := hF; simp [go_sem, hr0, hr1, hr2, hr3, hr4]) hHeld (tf 68719476735 37) (by kernel_rfl) (fun K hK => ?_)
            go_big_move
            refine hK.out _ ?_
            clear hK K
            have tZ : Hid (wp12.there (wp4.heap.size) 0 6) := v12.out.there rfl
            have gZ := Lib.hid (grown_setCells (wp4.heap.size) [.int .i64 (st * su), .int .i64 ini, .slice (some ⟨xag2, 0, none⟩) LX2.length xac2, .slice (some ⟨xbg4, 0, none⟩) LX3.length xbc4, .slice (some ⟨xcg12, 0, none⟩) LX4.length xcc12, .slice none 0 0] 0 wp12)
            have hSZ : Hid (Box2 w (wp12.setCells (wp4.heap.size) 0 [.int .i64 (st * su), .int .i64 ini, .slice (some ⟨xag2, 0, none⟩) LX2.length xac2, .slice (some ⟨xbg4, 0, none⟩) LX3.length xbc4, .slice (some ⟨xcg12, 0, none⟩) LX4.length xcc12, .slice none 0 0]) w.heap.size (w.heap.size + 1) 31 (iaC st it a2 n2 c2 a3 n3 c3 a4 n4 c4 a5 n5 c5) (iaC su iu b2 m2 d2 b3 m3 d3 b4 m4 d4 b5 m5 d5)) := ⟨hHeld.1.grown gZ.out hHeld.1.size (fun q hq => by have h1 := Option.some.inj hq; have h2 := BL.out; omega), hHeld.2.1.grown gZ.out (fun e => by have h1 := Option.some.inj e; have h2 := BL.out; omega), hHeld.2.2.grown gZ.out (fun e => by have h1 := Option.some.inj e; have h2 := BL.out; omega)⟩
            have rZ := Lib.hid (r12.out.grown gZ.out (fun e => by have h1 := Option.some.inj e; have h2 := BL.out; omega))
            have vZ : Hid (VarIs (wp12.setCells (wp4.heap.size) 0 [.int .i64 (st * su), .int .i64 ini, .slice (some ⟨xag2, 0, none⟩) LX2.length xac2, .slice (some ⟨xbg4, 0, none⟩) LX3.length xbc4, .slice (some ⟨xcg12, 0, none⟩) LX4.length xcc12, .slice none 0 0]) (wp4.heap.size) #[.int .i64 (st * su), .int .i64 ini, .slice (some ⟨xag2, 0, none⟩) LX2.length xac2, .slice (some ⟨xbg4, 0, none⟩) LX3.length xbc4, .slice (some ⟨xcg12, 0, none⟩) LX4.length xcc12, .slice none 0 0] 31) := v12.out.sets _ _ _ _ _ _
            have qs := Lib.hid (s12.out.keepVar v12.out (by decide) gZ.out)
            have qxa := Lib.hid (xa12.out.keepVar v12.out (by decide) gZ.out)
            have qxb := Lib.hid (xb12.out.keepVar v12.out (by decide) gZ.out)
            have qxc := Lib.hid (xc12.out.keepVar v12.out (by decide) gZ.out)
            refine wpAnyH_ready (rs := [36]) (fuel := 0) (by kernel_rfl) (by simp) ?_
            refine ready_want rfl (by kernel_rfl) (tf 137438953471 37) (by kernel_rfl) (fun K hK => ?_) AllReadyH.nil
            refine wp_store_mid _ _ _ rfl (wp4.heap.size) 0 #[.int .i64 (st * su), .int .i64 ini, .slice (some ⟨xag2, 0, none⟩) LX2.length xac2, .slice (some ⟨xbg4, 0, none⟩) LX3.length xbc4, .slice (some ⟨xcg12, 0, none⟩) LX4.length xcc12, .slice none 0 0] rfl rfl tZ.out (by kernel_rfl) (ia_one _ _ _ _ _ _ _ _ _ _ _ _ _ _) ?_
            refine hK.out _ _ hSZ.out (fun hHeld => ?_)
            clear hK K
            refine wpAnyH_done (by kernel_rfl) ?_ _
            exact REST.out (wp4.heap.size, jag1, jac1, xag2, xac2, jbg3, jbc3, xbg4, xbc4, jcg11, jcc11, xcg12, xcc12) _ ⟨hSZ.out, rZ.out, qs.out, vZ.out, qxa.out, qxb.out, qxc.out, BL.out⟩
          refine ready_want rfl (by kernel_rfl) (tf 40735080447 37) (by kernel_rfl) (fun K hK => ?_) AllReadyH.nil
          have s13 : Hid (Owns (wp3.alloc (.cells #[.int .i64 0, .int .i64 0, .slice none 0 0, .slice none 0 0, .slice none 0 0, .slice none 0 0] 31)) w.heap.size (.slice (some ⟨gs, 0, none⟩) sn cs) sn sh) := s3.out.below ((Below.refl _ wp3).alloc (Nat.le_refl _) (.cells #[.int .i64 0, .int .i64 0, .slice none 0 0, .slice none 0 0, .slice none 0 0, .slice none 0 0] 31))
          have r13 : Hid (VarIs (wp3.alloc (.cells #[.int .i64 0, .int .i64 0, .slice none 0 0, .slice none 0 0, .slice none 0 0, .slice none 0 0] 31)) (w.heap.size + 2) #[.int .i64 0, .int .i64 0, .slice none 0 0, .slice none 0 0, .slice none 0 0, .slice none 0 0] 31) := r3.out.below ((Below.refl _ wp3).alloc (Nat.le_refl _) (.cells #[.int .i64 0, .int .i64 0, .slice none 0 0, .slice none 0 0, .slice none 0 0, .slice none 0 0] 31))
          have ja13 : Hid (Owns (wp3.alloc (.cells #[.int .i64 0, .int .i64 0, .slice none 0 0, .slice none 0 0, .slice none 0 0, .slice none 0 0] 31)) w.heap.size (.slice (some ⟨jag1, 0, none⟩) LJ1.length jac1) LJ1.length LJ1) := ja3.out.below ((Below.refl _ wp3).alloc (Nat.le_refl _) (.cells #[.int .i64 0, .int .i64 0, .slice none 0 0, .slice none 0 0, .slice none 0 0, .slice none 0 0] 31))
          have xa13 : Hid (Owns (wp3.alloc (.cells #[.int .i64 0, .int .i64 0, .slice none 0 0, .slice none 0 0, .slice none 0 0, .slice none 0 0] 31)) w.heap.size (.slice (some ⟨xag2, 0, none⟩) LX2.length xac2) LX2.length LX2) := xa3.out.below ((Below.refl _ wp3).alloc (Nat.le_refl _) (.cells #[.int .i64 0, .int .i64 0, .slice none 0 0, .slice none 0 0, .slice none 0 0, .slice none 0 0] 31))
          have jb13 : Hid (Owns (wp3.alloc (.cells #[.int .i64 0, .int .i64 0, .slice none 0 0, .slice none 0 0, .slice none 0 0, .slice none 0 0] 31)) w.heap.size (.slice (some ⟨jbg3, 0, none⟩) LJ2.length jbc3) LJ2.length LJ2) := jb3.out.below ((Below.refl _ wp3).alloc (Nat.le_refl _) (.cells #[.int .i64 0, .int .i64 0, .slice none 0 0, .slice none 0 0, .slice none 0 0, .slice none 0 0] 31))
          have BL : Hid (w.heap.size + 2 < wp3.heap.size) := by have h1 := r3.out.lt; (try simp at h1); unfold Hid; omega
          have vn13 : Hid (VarIs (wp3.alloc (.cells #[.int .i64 0, .int .i64 0, .slice none 0 0, .slice none 0 0, .slice none 0 0, .slice none 0 0] 31)) (wp3.heap.size) #[.int .i64 0, .int .i64 0, .slice none 0 0, .slice none 0 0, .slice none 0 0, .slice none 0 0] 31) := VarIs.new wp3 #[.int .i64 0, .int .i64 0, .slice none 0 0, .slice none 0 0, .slice none 0 0, .slice none 0 0] 31 (by simp)
          simp only [List.getElem_toArray, List.getElem_cons_succ, List.getElem_cons_zero]
          go_big_op
          refine hK.out _ _ (hHeld.below ((Below.refl _ wp3).alloc (Nat.le_refl _) (.cells #[.int .i64 0, .int .i64 0, .slice none 0 0, .slice none 0 0, .slice none 0 0, .slice none 0 0] 31))) (fun hHeld => ?_)
          clear hK K
          refine wpAnyH_ready (rs := [26]) (fuel := 4) (by kernel_rfl) (by simp) ?_
          refine ready_want rfl (by kernel_rfl) (tf 40802189311 37) (by kernel_rfl) (fun K hK => ?_) AllReadyH.nil
          simp only [List.getElem_toArray, List.getElem_cons_succ, List.getElem_cons_zero]
          go_big_op
          refine (CL2.out _ _ _ jb13.out s13.out).mono ?_
          rintro e wp14 ⟨xbg14, xbc14, rfl, ho, hb⟩
          have s14 : Hid (Owns wp14 w.heap.size (.slice (some ⟨gs, 0, none⟩) sn cs) sn sh) := s13.out.below (hb)
          have r14 : Hid (VarIs wp14 (w.heap.size + 2) #[.int .i64 0, .int .i64 0, .slice none 0 0, .slice none 0 0, .slice none 0 0, .slice none 0 0] 31) := r13.out.below (hb)
          have ja14 : Hid (Owns wp14 w.heap.size (.slice (some ⟨jag1, 0, none⟩) LJ1.length jac1) LJ1.length LJ1) := ja13.out.below (hb)
          have xa14 : Hid (Owns wp14 w.heap.size (.slice (some ⟨xag2, 0, none⟩) LX2.length xac2) LX2.length LX2) := xa13.out.below (hb)
          have jb14 : Hid (Owns wp14 w.heap.size (.slice (some ⟨jbg3, 0, none⟩) LJ2.length jbc3) LJ2.length LJ2) := jb13.out.below (hb)
          have v14 : Hid (VarIs wp14 (wp3.heap.size) #[.int .i64 0, .int .i64 0, .slice none 0 0, .slice none 0 0, .slice none 0 0, .slice none 0 0] 31) := vn13.out.below (hb)
          have xb14 : Hid (Owns wp14 w.heap.size (.slice (some ⟨xbg14, 0, none⟩) LX3.length xbc14) LX3.length LX3) := ho.mono (base := w.heap.size) hHeld.1.size
          have hS14 := hHeld.below hb
          clear hb ho
          refine hK.out _ _ hS14 (fun hHeld => ?_)
          clear hK K hS14
          refine wpAnyH_ready (rs := [31]) (fuel := 3) (by kernel_rfl) (by simp) ?_
          refine ready_want rfl (by kernel_rfl) (tf 42949672959 37) (by kernel_rfl) (fun K hK => ?_) AllReadyH.nil
          simp only [List.getElem_toArray, List.getElem_cons_succ, List.getElem_cons_zero]
          go_big_op
          refine (CJ3.out _ hHeld).mono ?_
          rintro e wp15 ⟨jcg15, jcc15, rfl, ho, hb⟩
          have s15 : Hid (Owns wp15 w.heap.size (.slice (some ⟨gs, 0, none⟩) sn cs) sn sh) := s14.out.below (hb)
          have r15 : Hid (VarIs wp15 (w.heap.size + 2) #[.int .i64 0, .int .i64 0, .slice none 0 0, .slice none 0 0, .slice none 0 0, .slice none 0 0] 31) := r14.out.below (hb)
          have ja15 : Hid (Owns wp15 w.heap.size (.slice (some ⟨jag1, 0, none⟩) LJ1.length jac1) LJ1.length LJ1) := ja14.out.below (hb)
          have xa15 : Hid (Owns wp15 w.heap.size (.slice (some ⟨xag2, 0, none⟩) LX2.length xac2) LX2.length LX2) := xa14.out.below (hb)
          have jb15 : Hid (Owns wp15 w.heap.size (.slice (some ⟨jbg3, 0, none⟩) LJ2.length jbc3) LJ2.length LJ2) := jb14.out.below (hb)
          have v15 : Hid (VarIs wp15 (wp3.heap.size) #[.int .i64 0, .int .i64 0, .slice none 0 0, .slice none 0 0, .slice none 0 0, .slice none 0 0] 31) := v14.out.below (hb)
          have xb15 : Hid (Owns wp15 w.heap.size (.slice (some ⟨xbg14, 0, none⟩) LX3.length xbc14) LX3.length LX3) := xb14.out.below (hb)
          have jc15 : Hid (Owns wp15 w.heap.size (.slice (some ⟨jcg15, 0, none⟩) LJ3.length jcc15) LJ3.length LJ3) := ho.mono (base := w.heap.size) hHeld.1.size
          have hS15 := hHeld.below hb
          clear hb ho
          refine hK.out _ _ hS15 (fun hHeld => ?_)
          clear hK K hS15
          refine wpAnyH_ready (rs := [33]) (fuel := 2) (by kernel_rfl) (by simp) ?_
          refine ready_want rfl (by kernel_rfl) (tf 51539607551 37) (by kernel_rfl) (fun K hK => ?_) AllReadyH.nil
          simp only [List.getElem_toArray, List.getElem_cons_succ, List.getElem_cons_zero]
          go_big_op
          refine (CL3.out _ _ _ jc15.out s15.out).mono ?_
          rintro e wp16 ⟨xcg16, xcc16, rfl, ho, hb⟩
          have s16 : Hid (Owns wp16 w.heap.size (.slice (some ⟨gs, 0, none⟩) sn cs) sn sh) := s15.out.below (hb)
          have r16 : Hid (VarIs wp16 (w.heap.size + 2) #[.int .i64 0, .int .i64 0, .slice none 0 0, .slice none 0 0, .slice none 0 0, .slice none 0 0] 31) := r15.out.below (hb)
          have ja16 : Hid (Owns wp16 w.heap.size (.slice (some ⟨jag1, 0, none⟩) LJ1.length jac1) LJ1.length LJ1) := ja15.out.below (hb)
          have xa16 : Hid (Owns wp16 w.heap.size (.slice (some ⟨xag2, 0, none⟩) LX2.length xac2) LX2.length LX2) := xa15.out.below (hb)
          have jb16 : Hid (Owns wp16 w.heap.size (.slice (some ⟨jbg3, 0, none⟩) LJ2.length jbc3) LJ2.length LJ2) := jb15.out.below (hb)
          have v16 : Hid (VarIs wp16 (wp3.heap.size) #[.int .i64 0, .int .i64 0, .slice none 0 0, .slice none 0 0, .slice none 0 0, .slice none 0 0] 31) := v15.out.below (hb)
          have xb16 : Hid (Owns wp16 w.heap.size (.slice (some ⟨xbg14, 0, none⟩) LX3.length xbc14) LX3.length LX3) := xb15.out.below (hb)
          have jc16 : Hid (Owns wp16 w.heap.size (.slice (some ⟨jcg15, 0, none⟩) LJ3.length jcc15) LJ3.length LJ3) := jc15.out.below (hb)
          have xc16 : Hid (Owns wp16 w.heap.size (.slice (some ⟨xcg16, 0, none⟩) LX4.length xcc16) LX4.length LX4) := ho.mono (base := w.heap.size) hHeld.1.size
          have hS16 := hHeld.below hb
          clear hb ho
          refine hK.out _ _ hS16 (fun hHeld => ?_)
          clear hK K hS16
          refine fastE 34 58 (.agg #[.int .i64 (st * su), .int .i64 ini, .slice (some ⟨xag2, 0, none⟩) LX2.length xac2, .slice (some ⟨xbg14, 0, none⟩) LX3.length xbc14, .slice (some ⟨xcg16, 0, none⟩) LX4.length xcc16, .slice none 0 0]) (fuel := 1) (fun ρ => ρ (.tmp 28) = .int .i64 (st * su) ∧ ρ (.tmp 36) = .int .i64 ini ∧ ρ (.tmp 43) = .slice (some ⟨xag2, 0, none⟩) LX2.length xac2 ∧ ρ (.tmp 50) = .slice (some ⟨xbg14, 0, none⟩) LX3.length xbc14 ∧ ρ (.tmp 57) = .slice (some ⟨xcg16, 0, none⟩) LX4.length xcc16) rfl rfl (by kernel_rfl) (by kernel_rfl) (by kernel_rfl) (fun _ _ _ h => h) (by kernel_rfl) ⟨by kernel_rfl, by kernel_rfl, by kernel_rfl, by kernel_rfl, by kernel_rfl⟩ (fun ρ hF _ w hSw => by obtain ⟨hr0, hr1, hr2, hr3, hr4⟩ := hF; simp [go_sem, hr0, hr1, hr2, hr3, hr4]) hHeld (tf 68719476735 37) (by kernel_rfl) (fun K hK => ?_)
          go_big_move
          refine hK.out _ ?_
          clear hK K
          have tZ : Hid (wp16.there (wp3.heap.size) 0 6) := v16.out.there rfl
          have gZ := Lib.hid (grown_setCells (wp3.heap.size) [.int .i64 (st * su), .int .i64 ini, .slice (some ⟨xag2, 0, none⟩) LX2.length xac2, .slice (some ⟨xbg14, 0, none⟩) LX3.length xbc14, .slice (some ⟨xcg16, 0, none⟩) LX4.length xcc16, .slice none 0 0] 0 wp16)
          have hSZ : Hid (Box2 w (wp16.setCells (wp3.heap.size) 0 [.int .i64 (st * su), .int .i64 ini, .slice (some ⟨xag2, 0, none⟩) LX2.length xac2, .slice (some ⟨xbg14, 0, none⟩) LX3.length xbc14, .slice (some ⟨xcg16, 0, none⟩) LX4.length xcc16, .slice none 0 0]) w.heap.size (w.heap.size + 1) 31 (iaC st it a2 n2 c2 a3 n3 c3 a4 n4 c4 a5 n5 c5) (iaC su iu b2 m2 d2 b3 m3 d3 b4 m4 d4 b5 m5 d5)) := ⟨hHeld.1.grown gZ.out hHeld.1.size (fun q hq => by have h1 := Option.some.inj hq; have h2 := BL.out; omega), hHeld.2.1.grown gZ.out (fun e => by have h1 := Option.some.inj e; have h2 := BL.out; omega), hHeld.2.2.grown gZ.out (fun e => by have h1 := Option.some.inj e; have h2 := BL.out; omega)⟩
          have rZ := Lib.hid (r16.out.grown gZ.out (fun e => by have h1 := Option.some.inj e; have h2 := BL.out; omega))
          have vZ : Hid (VarIs (wp16.setCells (wp3.heap.size) 0 [.int .i64 (st * su), .int .i64 ini, .slice (some ⟨xag2, 0, none⟩) LX2.length xac2, .slice (some ⟨xbg14, 0, none⟩) LX3.length xbc14, .slice (some ⟨xcg16, 0, none⟩) LX4.length xcc16, .slice none 0 0]) (wp3.heap.size) #[.int .i64 (st * su), .int .i64 ini, .slice (some ⟨xag2, 0, none⟩) LX2.length xac2, .slice (some ⟨xbg14, 0, none⟩) LX3.length xbc14, .slice (some ⟨xcg16, 0, none⟩) LX4.length xcc16, .slice none 0 0] 31) := v16.out.sets _ _ _ _ _ _
          have qs := Lib.hid (s16.out.keepVar v16.out (by decide) gZ.out)
          have qxa := Lib.hid (xa16.out.keepVar v16.out (by decide) gZ.out)
          have qxb := Lib.hid (xb16.out.keepVar v16.out (by decide) gZ.out)
          have qxc := Lib.hid (xc16.out.keepVar v16.out (by decide) gZ.out)
          refine wpAnyH_ready (rs := [36]) (fuel := 0) (by kernel_rfl) (by simp) ?_
          refine ready_want rfl (by kernel_rfl) (tf 137438953471 37) (by kernel_rfl) (fun K hK => ?_) AllReadyH.nil
          refine wp_store_mid _ _ _ rfl (wp3.heap.size) 0 #[.int .i64 (st * su), .int .i64 ini, .slice (some ⟨xag2, 0, none⟩) LX2.length xac2, .slice (some ⟨xbg14, 0, none⟩) LX3.length xbc14, .slice (some ⟨xcg16, 0, none⟩) LX4.length xcc16, .slice none 0 0] rfl rfl tZ.out (by kernel_rfl) (ia_one _ _ _ _ _ _ _ _ _ _ _ _ _ _) ?_
          refine hK.out _ _ hSZ.out (fun hHeld => ?_)
          clear hK K
          refine wpAnyH_done (by kernel_rfl) ?_ _
          exact REST.out (wp3.heap.size, jag1, jac1, xag2, xac2, jbg3, jbc3, xbg14, xbc14, jcg15, jcc15, xcg16, xcc16) _ ⟨hSZ.out, rZ.out, qs.out, vZ.out, qxa.out, qxb.out, qxc.out, BL.out⟩
        refine ready_want rfl (by kernel_rfl) (tf 40718303231 37) (by kernel_rfl) (fun K hK => ?_) AllReadyH.nil
        have s17 : Hid (Owns (wp2.alloc (.cells #[.int .i64 0, .int .i64 0, .slice none 0 0, .slice none 0 0, .slice none 0 0, .slice none 0 0] 31)) w.heap.size (.slice (some ⟨gs, 0, none⟩) sn cs) sn sh) := s2.out.below ((Below.refl _ wp2).alloc (Nat.le_refl _) (.cells #[.int .i64 0, .int .i64 0, .slice none 0 0, .slice none 0 0, .slice none 0 0, .slice none 0 0] 31))
        have r17 : Hid (VarIs (wp2.alloc (.cells #[.int .i64 0, .int .i64 0, .slice none 0 0, .slice none 0 0, .slice none 0 0, .slice none 0 0] 31)) (w.heap.size + 2) #[.int .i64 0, .int .i64 0, .slice none 0 0, .slice none 0 0, .slice none 0 0, .slice none 0 0] 31) := r2.out.below ((Below.refl _ wp2).alloc (Nat.le_refl _) (.cells #[.int .i64 0, .int .i64 0, .slice none 0 0, .slice none 0 0, .slice none 0 0, .slice none 0 0] 31))
        have ja17 : Hid (Owns (wp2.alloc (.cells #[.int .i64 0, .int .i64 0, .slice none 0 0, .slice none 0 0, .slice none 0 0, .slice none 0 0] 31)) w.heap.size (.slice (some ⟨jag1, 0, none⟩) LJ1.length jac1) LJ1.length LJ1) := ja2.out.below ((Below.refl _ wp2).alloc (Nat.le_refl _) (.cells #[.int .i64 0, .int .i64 0, .slice none 0 0, .slice none 0 0, .slice none 0 0, .slice none 0 0] 31))
        have xa17 : Hid (Owns (wp2.alloc (.cells #[.int .i64 0, .int .i64 0, .slice none 0 0, .slice none 0 0, .slice none 0 0, .slice none 0 0] 31)) w.heap.size (.slice (some ⟨xag2, 0, none⟩) LX2.length xac2) LX2.length LX2) := xa2.out.below ((Below.refl _ wp2).alloc (Nat.le_refl _) (.cells #[.int .i64 0, .int .i64 0, .slice none 0 0, .slice none 0 0, .slice none 0 0, .slice none 0 0] 31))
        have BL : Hid (w.heap.size + 2 < wp2.heap.size) := by have h1 := r2.out.lt; (try simp at h1); unfold Hid; omega
        have vn17 : Hid (VarIs (wp2.alloc (.cells #[.int .i64 0, .int .i64 0, .slice none 0 0, .slice none 0 0, .slice none 0 0, .slice none 0 0] 31)) (wp2.heap.size) #[.int .i64 0, .int .i64 0, .slice none 0 0, .slice none 0 0, .slice none 0 0, .slice none 0 0] 31) := VarIs.new wp2 #[.int .i64 0, .int .i64 0, .slice none 0 0, .slice none 0 0, .slice none 0 0, .slice none 0 0] 31 (by simp)
        simp only [List.getElem_toArray, List.getElem_cons_succ, List.getElem_cons_zero]
        go_big_op
        refine hK.out _ _ (hHeld.below ((Below.refl _ wp2).alloc (Nat.le_refl _) (.cells #[.int .i64 0, .int .i64 0, .slice none 0 0, .slice none 0 0, .slice none 0 0, .slice none 0 0] 31))) (fun hHeld => ?_)
        clear hK K
        refine wpAnyH_ready (rs := [24]) (fuel := 5) (by kernel_rfl) (by simp) ?_
        refine ready_want rfl (by kernel_rfl) (tf 40735080447 37) (by kernel_rfl) (fun K hK => ?_) AllReadyH.nil
        simp only [List.getElem_toArray, List.getElem_cons_succ, List.getElem_cons_zero]
        go_big_op
        refine (CJ2.out _ hHeld).mono ?_
        rintro e wp18 ⟨jbg18, jbc18, rfl, ho, hb⟩
        have s18 : Hid (Owns wp18 w.heap.size (.slice (some ⟨gs, 0, none⟩) sn cs) sn sh) := s17.out.below (hb)
        have r18 : Hid (VarIs wp18 (w.heap.size + 2) #[.int .i64 0, .int .i64 0, .slice none 0 0, .slice none 0 0, .slice none 0 0, .slice none 0 0] 31) := r17.out.below (hb)
        have ja18 : Hid (Owns wp18 w.heap.size (.slice (some ⟨jag1, 0, none⟩) LJ1.length jac1) LJ1.length LJ1) := ja17.out.below (hb)
        have xa18 : Hid (Owns wp18 w.heap.size (.slice (some ⟨xag2, 0, none⟩) LX2.length xac2) LX2.length LX2) := xa17.out.below (hb)
        have v18 : Hid (VarIs wp18 (wp2.heap.size) #[.int .i64 0, .int .i64 0, .slice none 0 0, .slice none 0 0, .slice none 0 0, .slice none 0 0] 31) := vn17.out.below (hb)
        have jb18 : Hid (Owns wp18 w.heap.size (.slice (some ⟨jbg18, 0, none⟩) LJ2.length jbc18) LJ2.length LJ2) := ho.mono (base := w.heap.size) hHeld.1.size
        have hS18 := hHeld.below hb
        clear hb ho
        refine hK.out _ _ hS18 (fun hHeld => ?_)
        clear hK K hS18
        refine wpAnyH_ready (rs := [26]) (fuel := 4) (by kernel_rfl) (by simp) ?_
        refine ready_want rfl (by kernel_rfl) (tf 40802189311 37) (by kernel_rfl) (fun K hK => ?_) AllReadyH.nil
        simp only [List.getElem_toArray, List.getElem_cons_succ, List.getElem_cons_zero]
        go_big_op
        refine (CL2.out _ _ _ jb18.out s18.out).mono ?_
        rintro e wp19 ⟨xbg19, xbc19, rfl, ho, hb⟩
        have s19 : Hid (Owns wp19 w.heap.size (.slice (some ⟨gs, 0, none⟩) sn cs) sn sh) := s18.out.below (hb)
        have r19 : Hid (VarIs wp19 (w.heap.size + 2) #[.int .i64 0, .int .i64 0, .slice none 0 0, .slice none 0 0, .slice none 0 0, .slice none 0 0] 31) := r18.out.below (hb)
        have ja19 : Hid (Owns wp19 w.heap.size (.slice (some ⟨jag1, 0, none⟩) LJ1.length jac1) LJ1.length LJ1) := ja18.out.below (hb)
        have xa19 : Hid (Owns wp19 w.heap.size (.slice (some ⟨xag2, 0, none⟩) LX2.length xac2) LX2.length LX2) := xa18.out.below (hb)
        have v19 : Hid (VarIs wp19 (wp2.heap.size) #[.int .i64 0, .int .i64 0, .slice none 0 0, .slice none 0 0, .slice none 0 0, .slice none 0 0] 31) := v18.out.below (hb)
        have jb19 : Hid (Owns wp19 w.heap.size (.slice (some ⟨jbg18, 0, none⟩) LJ2.length jbc18) LJ2.length LJ2) := jb18.out.below (hb)
        have xb19 : Hid (Owns wp19 w.heap.size (.slice (some ⟨xbg19, 0, none⟩) LX3.length xbc19) LX3.length LX3) := ho.mono (base := w.heap.size) hHeld.1.size
        have hS19 := hHeld.below hb
        clear hb ho
        refine hK.out _ _ hS19 (fun hHeld => ?_)
        clear hK K hS19
        refine wpAnyH_ready (rs := [31]) (fuel := 3) (by kernel_rfl) (by simp) ?_
        refine ready_want rfl (by kernel_rfl) (tf 42949672959 37) (by kernel_rfl) (fun K hK => ?_) AllReadyH.nil
        simp only [List.getElem_toArray, List.getElem_cons_succ, List.getElem_cons_zero]
        go_big_op
        refine (CJ3.out _ hHeld).mono ?_
        rintro e wp20 ⟨jcg20, jcc20, rfl, ho, hb⟩
        have s20 : Hid (Owns wp20 w.heap.size (.slice (some ⟨gs, 0, none⟩) sn cs) sn sh) := s19.out.below (hb)
        have r20 : Hid (VarIs wp20 (w.heap.size + 2) #[.int .i64 0, .int .i64 0, .slice none 0 0, .slice none 0 0, .slice none 0 0, .slice none 0 0] 31) := r19.out.below (hb)
        have ja20 : Hid (Owns wp20 w.heap.size (.slice (some ⟨jag1, 0, none⟩) LJ1.length jac1) LJ1.length LJ1) := ja19.out.below (hb)
        have xa20 : Hid (Owns wp20 w.heap.size (.slice (some ⟨xag2, 0, none⟩) LX2.length xac2) LX2.length LX2) := xa19.out.below (hb)
        have v20 : Hid (VarIs wp20 (wp2.heap.size) #[.int .i64 0, .int .i64 0, .slice none 0 0, .slice none 0 0, .slice none 0 0, .slice none 0 0] 31) := v19.out.below (hb)
        have jb20 : Hid (Owns wp20 w.heap.size (.slice (some ⟨jbg18, 0, none⟩) LJ2.length jbc18) LJ2.length LJ2) := jb19.out.below (hb)
        have xb20 : Hid (Owns wp20 w.heap.size (.slice (some ⟨xbg19, 0, none⟩) LX3.length xbc19) LX3.length LX3) := xb19.out.below (hb)
        have jc20 : Hid (Owns wp20 w.heap.size (.slice (some ⟨jcg20, 0, none⟩) LJ3.length jcc20) LJ3.length LJ3) := ho.mono (base := w.heap.size) hHeld.1.size
        have hS20 := hHeld.below hb
        clear hb ho
        refine hK.out _ _ hS20 (fun hHeld => ?_)
        clear hK K hS20
        refine wpAnyH_ready (rs := [33]) (fuel := 2) (by kernel_rfl) (by simp) ?_
        refine ready_want rfl (by kernel_rfl) (tf 51539607551 37) (by kernel_rfl) (fun K hK => ?_) AllReadyH.nil
        simp only [List.getElem_toArray, List.getElem_cons_succ, List.getElem_cons_zero]
        go_big_op
        refine (CL3.out _ _ _ jc20.out s20.out).mono ?_
        rintro e wp21 ⟨xcg21, xcc21, rfl, ho, hb⟩
        have s21 : Hid (Owns wp21 w.heap.size (.slice (some ⟨gs, 0, none⟩) sn cs) sn sh) := s20.out.below (hb)
        have r21 : Hid (VarIs wp21 (w.heap.size + 2) #[.int .i64 0, .int .i64 0, .slice none 0 0, .slice none 0 0, .slice none 0 0, .slice none 0 0] 31) := r20.out.below (hb)
        have ja21 : Hid (Owns wp21 w.heap.size (.slice (some ⟨jag1, 0, none⟩) LJ1.length jac1) LJ1.length LJ1) := ja20.out.below (hb)
        have xa21 : Hid (Owns wp21 w.heap.size (.slice (some ⟨xag2, 0, none⟩) LX2.length xac2) LX2.length LX2) := xa20.out.below (hb)
        have v21 : Hid (VarIs wp21 (wp2.heap.size) #[.int .i64 0, .int .i64 0, .slice none 0 0, .slice none 0 0, .slice none 0 0, .slice none 0 0] 31) := v20.out.below (hb)
        have jb21 : Hid (Owns wp21 w.heap.size (.slice (some ⟨jbg18, 0, none⟩) LJ2.length jbc18) LJ2.length LJ2) := jb20.out.below (hb)
        have xb21 : Hid (Owns wp21 w.heap.size (.slice (some ⟨xbg19, 0, none⟩) LX3.length xbc19) LX3.length LX3) := xb20.out.below (hb)
        have jc21 : Hid (Owns wp21 w.heap.size (.slice (some ⟨jcg20, 0, none⟩) LJ3.length jcc20) LJ3.length LJ3) := jc20.out.below (hb)
        have xc21 : Hid (Owns wp21 w.heap.size (.slice (some ⟨xcg21, 0, none⟩) LX4.length xcc21) LX4.length LX4) := ho.mono (base := w.heap.size) hHeld.1.size
        have hS21 := hHeld.below hb
        clear hb ho
        refine hK.out _ _ hS21 (fun hHeld => ?_)
        clear hK K hS21
        refine fastE 34 58 (.agg #[.int .i64 (st * su), .int .i64 ini, .slice (some ⟨xag2, 0, none⟩) LX2.length xac2, .slice (some ⟨xbg19, 0, none⟩) LX3.length xbc19, .slice (some ⟨xcg21, 0, none⟩) LX4.length xcc21, .slice none 0 0]) (fuel := 1) (fun ρ => ρ (.tmp 28) = .int .i64 (st * su) ∧ ρ (.tmp 36) = .int .i64 ini ∧ ρ (.tmp 43) = .slice (some ⟨xag2, 0, none⟩) LX2.length xac2 ∧ ρ (.tmp 50) = .slice (some ⟨xbg19, 0, none⟩) LX3.length xbc19 ∧ ρ (.tmp 57) = .slice (some ⟨xcg21, 0, none⟩) LX4.length xcc21) rfl rfl (by kernel_rfl) (by kernel_rfl) (by kernel_rfl) (fun _ _ _ h => h) (by kernel_rfl) ⟨by kernel_rfl, by kernel_rfl, by kernel_rfl, by kernel_rfl, by kernel_rfl⟩ (fun ρ hF _ w hSw => by obtain ⟨hr0, hr1, hr2, hr3, hr4⟩ := hF; simp [go_sem, hr0, hr1, hr2, hr3, hr4]) hHeld (tf 68719476735 37) (by kernel_rfl) (fun K hK => ?_)
        go_big_move
        refine hK.out _ ?_
        clear hK K
        have tZ : Hid (wp21.there (wp2.heap.size) 0 6) := v21.out.there rfl
        have gZ := Lib.hid (grown_setCells (wp2.heap.size) [.int .i64 (st * su), .int .i64 ini, .slice (some ⟨xag2, 0, none⟩) LX2.length xac2, .slice (some ⟨xbg19, 0, none⟩) LX3.length xbc19, .slice (some ⟨xcg21, 0, none⟩) LX4.length xcc21, .slice none 0 0] 0 wp21)
        have hSZ : Hid (Box2 w (wp21.setCells (wp2.heap.size) 0 [.int .i64 (st * su), .int .i64 ini, .slice (some ⟨xag2, 0, none⟩) LX2.length xac2, .slice (some ⟨xbg19, 0, none⟩) LX3.length xbc19, .slice (some ⟨xcg21, 0, none⟩) LX4.length xcc21, .slice none 0 0]) w.heap.size (w.heap.size + 1) 31 (iaC st it a2 n2 c2 a3 n3 c3 a4 n4 c4 a5 n5 c5) (iaC su iu b2 m2 d2 b3 m3 d3 b4 m4 d4 b5 m5 d5)) := ⟨hHeld.1.grown gZ.out hHeld.1.size (fun q hq => by have h1 := Option.some.inj hq; have h2 := BL.out; omega), hHeld.2.1.grown gZ.out (fun e => by have h1 := Option.some.inj e; have h2 := BL.out; omega), hHeld.2.2.grown gZ.out (fun e => by have h1 := Option.some.inj e; have h2 := BL.out; omega)⟩
        have rZ := Lib.hid (r21.out.grown gZ.out (fun e => by have h1 := Option.some.inj e; have h2 := BL.out; omega))
        have vZ : Hid (VarIs (wp21.setCells (wp2.heap.size) 0 [.int .i64 (st * su), .int .i64 ini, .slice (some ⟨xag2, 0, none⟩) LX2.length xac2, .slice (some ⟨xbg19, 0, none⟩) LX3.length xbc19, .slice (some ⟨xcg21, 0, none⟩) LX4.length xcc21, .slice none 0 0]) (wp2.heap.size) #[.int .i64 (st * su), .int .i64 ini, .slice (some ⟨xag2, 0, none⟩) LX2.length xac2, .slice (some ⟨xbg19, 0, none⟩) LX3.length xbc19, .slice (some ⟨xcg21, 0, none⟩) LX4.length xcc21, .slice none 0 0] 31) := v21.out.sets _ _ _ _ _ _
        have qs := Lib.hid (s21.out.keepVar v21.out (by decide) gZ.out)
        have qxa := Lib.hid (xa21.out.keepVar v21.out (by decide) gZ.out)
        have qxb := Lib.hid (xb21.out.keepVar v21.out (by decide) gZ.out)
        have qxc := Lib.hid (xc21.out.keepVar v21.out (by decide) gZ.out)
        refine wpAnyH_ready (rs := [36]) (fuel := 0) (by kernel_rfl) (by simp) ?_
        refine ready_want rfl (by kernel_rfl) (tf 137438953471 37) (by kernel_rfl) (fun K hK => ?_) AllReadyH.nil
        refine wp_store_mid _ _ _ rfl (wp2.heap.size) 0 #[.int .i64 (st * su), .int .i64 ini, .slice (some ⟨xag2, 0, none⟩) LX2.length xac2, .slice (some ⟨xbg19, 0, none⟩) LX3.length xbc19, .slice (some ⟨xcg21, 0, none⟩) LX4.length xcc21, .slice none 0 0] rfl rfl tZ.out (by kernel_rfl) (ia_one _ _ _ _ _ _ _ _ _ _ _ _ _ _) ?_
        refine hK.out _ _ hSZ.out (fun hHeld => ?_)
        clear hK K
        refine wpAnyH_done (by kernel_rfl) ?_ _
        exact REST.out (wp2.heap.size, jag1, jac1, xag2, xac2, jbg18, jbc18, xbg19, xbc19, jcg20, jcc20, xcg21, xcc21) _ ⟨hSZ.out, rZ.out, qs.out, vZ.out, qxa.out, qxb.out, qxc.out, BL.out⟩
      refine ready_want rfl (by kernel_rfl) (tf 40717778943 37) (by kernel_rfl) (fun K hK => ?_) AllReadyH.nil
      have s22 : Hid (Owns (wp1.alloc (.cells #[.int .i64 0, .int .i64 0, .slice none 0 0, .slice none 0 0, .slice none 0 0, .slice none 0 0] 31)) w.heap.size (.slice (some ⟨gs, 0, none⟩) sn cs) sn sh) := s1.out.below ((Below.refl _ wp1).alloc (Nat.le_refl _) (.cells #[.int .i64 0, .int .i64 0, .slice none 0 0, .slice none 0 0, .slice none 0 0, .slice none 0 0] 31))
      have r22 : Hid (VarIs (wp1.alloc (.cells #[.int .i64 0, .int .i64 0, .slice none 0 0, .slice none 0 0, .slice none 0 0, .slice none 0 0] 31)) (w.heap.size + 2) #[.int .i64 0, .int .i64 0, .slice none 0 0, .slice none 0 0, .slice none 0 0, .slice none 0 0] 31) := r1.out.below ((Below.refl _ wp1).alloc (Nat.le_refl _) (.cells #[.int .i64 0, .int .i64 0, .slice none 0 0, .slice none 0 0, .slice none 0 0, .slice none 0 0] 31))
      have ja22 : Hid (Owns (wp1.alloc (.cells #[.int .i64 0, .int .i64 0, .slice none 0 0, .slice none 0 0, .slice none 0 0, .slice none 0 0] 31)) w.heap.size (.slice (some ⟨jag1, 0, none⟩) LJ1.length jac1) LJ1.length LJ1) := ja1.out.below ((Below.refl _ wp1).alloc (Nat.le_refl _) (.cells #[.int .i64 0, .int .i64 0, .slice none 0 0, .slice none 0 0, .slice none 0 0, .slice none 0 0] 31))
      have BL : Hid (w.heap.size + 2 < wp1.heap.size) := by have h1 := r1.out.lt; (try simp at h1); unfold Hid; omega
      have vn22 : Hid (VarIs (wp1.alloc (.cells #[.int .i64 0, .int .i64 0, .slice none 0 0, .slice none 0 0, .slice none 0 0, .slice none 0 0] 31)) (wp1.heap.size) #[.int .i64 0, .int .i64 0, .slice none 0 0, .slice none 0 0, .slice none 0 0, .slice none 0 0] 31) := VarIs.new wp1 #[.int .i64 0, .int .i64 0, .slice none 0 0, .slice none 0 0, .slice none 0 0, .slice none 0 0] 31 (by simp)
      simp only [List.getElem_toArray, List.getElem_cons_succ, List.getElem_cons_zero]
      go_big_op
      refine hK.out _ _ (hHeld.below ((Below.refl _ wp1).alloc (Nat.le_refl _) (.cells #[.int .i64 0, .int .i64 0, .slice none 0 0, .slice none 0 0, .slice none 0 0, .slice none 0 0] 31))) (fun hHeld => ?_)
      clear hK K
      refine wpAnyH_ready (rs := [19]) (fuel := 6) (by kernel_rfl) (by simp) ?_
      refine ready_want rfl (by kernel_rfl) (tf 40718303231 37) (by kernel_rfl) (fun K hK => ?_) AllReadyH.nil
      simp only [List.getElem_toArray, List.getElem_cons_succ, List.getElem_cons_zero]
      go_big_op
      refine (CL1.out _ _ _ ja22.out s22.out).mono ?_
      rintro e wp23 ⟨xag23, xac23, rfl, ho, hb⟩
      have s23 : Hid (Owns wp23 w.heap.size (.slice (some ⟨gs, 0, none⟩) sn cs) sn sh) := s22.out.below (hb)
      have r23 : Hid (VarIs wp23 (w.heap.size + 2) #[.int .i64 0, .int .i64 0, .slice none 0 0, .slice none 0 0, .slice none 0 0, .slice none 0 0] 31) := r22.out.below (hb)
      have ja23 : Hid (Owns wp23 w.heap.size (.slice (some ⟨jag1, 0, none⟩) LJ1.length jac1) LJ1.length LJ1) := ja22.out.below (hb)
      have v23 : Hid (VarIs wp23 (wp1.heap.size) #[.int .i64 0, .int .i64 0, .slice none 0 0, .slice none 0 0, .slice none 0 0, .slice none 0 0] 31) := vn22.out.below (hb)
      have xa23 : Hid (Owns wp23 w.heap.size (.slice (some ⟨xag23, 0, none⟩) LX2.length xac23) LX2.length LX2) := ho.mono (base := w.heap.size) hHeld.1.size
      have hS23 := hHeld.below hb
      clear hb ho
      refine hK.out _ _ hS23 (fun hHeld => ?_)
      clear hK K hS23
      refine wpAnyH_ready (rs := [24]) (fuel := 5) (by kernel_rfl) (by simp) ?_
      refine ready_want rfl (by kernel_rfl) (tf 40735080447 37) (by kernel_rfl) (fun K hK => ?_) AllReadyH.nil
      simp only [List.getElem_toArray, List.getElem_cons_succ, List.getElem_cons_zero]
      go_big_op
      refine (CJ2.out _ hHeld).mono ?_
      rintro e wp24 ⟨jbg24, jbc24, rfl, ho, hb⟩
      have s24 : Hid (Owns wp24 w.heap.size (.slice (some ⟨gs, 0, none⟩) sn cs) sn sh) := s23.out.below (hb)
      have r24 : Hid (VarIs wp24 (w.heap.size + 2) #[.int .i64 0, .int .i64 0, .slice none 0 0, .slice none 0 0, .slice none 0 0, .slice none 0 0] 31) := r23.out.below (hb)
      have ja24 : Hid (Owns wp24 w.heap.size (.slice (some ⟨jag1, 0, none⟩) LJ1.length jac1) LJ1.length LJ1) := ja23.out.below (hb)
      have v24 : Hid (VarIs wp24 (wp1.heap.size) #[.int .i64 0, .int .i64 0, .slice none 0 0, .slice none 0 0, .slice none 0 0, .slice none 0 0] 31) := v23.out.below (hb)
      have xa24 : Hid (Owns wp24 w.heap.size (.slice (some ⟨xag23, 0, none⟩) LX2.length xac23) LX2.length LX2) := xa23.out.below (hb)
      have jb24 : Hid (Owns wp24 w.heap.size (.slice (some ⟨jbg24, 0, none⟩) LJ2.length jbc24) LJ2.length LJ2) := ho.mono (base := w.heap.size) hHeld.1.size
      have hS24 := hHeld.below hb
      clear hb ho
      refine hK.out _ _ hS24 (fun hHeld => ?_)
      clear hK K hS24
      refine wpAnyH_ready (rs := [26]) (fuel := 4) (by kernel_rfl) (by simp) ?_
      refine ready_want rfl (by kernel_rfl) (tf 40802189311 37) (by kernel_rfl) (fun K hK => ?_) AllReadyH.nil
      simp only [List.getElem_toArray, List.getElem_cons_succ, List.getElem_cons_zero]
      go_big_op
      refine (CL2.out _ _ _ jb24.out s24.out).mono ?_
      rintro e wp25 ⟨xbg25, xbc25, rfl, ho, hb⟩
      have s25 : Hid (Owns wp25 w.heap.size (.slice (some ⟨gs, 0, none⟩) sn cs) sn sh) := s24.out.below (hb)
      have r25 : Hid (VarIs wp25 (w.heap.size + 2) #[.int .i64 0, .int .i64 0, .slice none 0 0, .slice none 0 0, .slice none 0 0, .slice none 0 0] 31) := r24.out.below (hb)
      have ja25 : Hid (Owns wp25 w.heap.size (.slice (some ⟨jag1, 0, none⟩) LJ1.length jac1) LJ1.length LJ1) := ja24.out.below (hb)
      have v25 : Hid (VarIs wp25 (wp1.heap.size) #[.int .i64 0, .int .i64 0, .slice none 0 0, .slice none 0 0, .slice none 0 0, .slice none 0 0] 31) := v24.out.below (hb)
      have xa25 : Hid (Owns wp25 w.heap.size (.slice (some ⟨xag23, 0, none⟩) LX2.length xac23) LX2.length LX2) := xa24.out.below (hb)
      have jb25 : Hid (Owns wp25 w.heap.size (.slice (some ⟨jbg24, 0, none⟩) LJ2.length jbc24) LJ2.length LJ2) := jb24.out.below (hb)
      have xb25 : Hid (Owns wp25 w.heap.size (.slice (some ⟨xbg25, 0, none⟩) LX3.length xbc25) LX3.length LX3) := ho.mono (base := w.heap.size) hHeld.1.size
      have hS25 := hHeld.below hb
      clear hb ho
      refine hK.out _ _ hS25 (fun hHeld => ?_)
      clear hK K hS25
      refine wpAnyH_ready (rs := [31]) (fuel := 3) (by kernel_rfl) (by simp) ?_
      refine ready_want rfl (by kernel_rfl) (tf 42949672959 37) (by kernel_rfl) (fun K hK => ?_) AllReadyH.nil
      simp only [List.getElem_toArray, List.getElem_cons_succ, List.getElem_cons_zero]
      go_big_op
      refine (CJ3.out _ hHeld).mono ?_
      rintro e wp26 ⟨jcg26, jcc26, rfl, ho, hb⟩
      have s26 : Hid (Owns wp26 w.heap.size (.slice (some ⟨gs, 0, none⟩) sn cs) sn sh) := s25.out.below (hb)
      have r26 : Hid (VarIs wp26 (w.heap.size + 2) #[.int .i64 0, .int .i64 0, .slice none 0 0, .slice none 0 0, .slice none 0 0, .slice none 0 0] 31) := r25.out.below (hb)
      have ja26 : Hid (Owns wp26 w.heap.size (.slice (some ⟨jag1, 0, none⟩) LJ1.length jac1) LJ1.length LJ1) := ja25.out.below (hb)
      have v26 : Hid (VarIs wp26 (wp1.heap.size) #[.int .i64 0, .int .i64 0, .slice none 0 0, .slice none 0 0, .slice none 0 0, .slice none 0 0] 31) := v25.out.below (hb)
      have xa26 : Hid (Owns wp26 w.heap.size (.slice (some ⟨xag23, 0, none⟩) LX2.length xac23) LX2.length LX2) := xa25.out.below (hb)
      have jb26 : Hid (Owns wp26 w.heap.size (.slice (some ⟨jbg24, 0, none⟩) LJ2.length jbc24) LJ2.length LJ2) := jb25.out.below (hb)
      have xb26 : Hid (Owns wp26 w.heap.size (.slice (some ⟨xbg25, 0, none⟩) LX3.length xbc25) LX3.length LX3) := xb25.out.below (hb)
      have jc26 : Hid (Owns wp26 w.heap.size (.slice (some ⟨jcg26, 0, none⟩) LJ3.length jcc26) LJ3.length LJ3) := ho.mono (base := w.heap.size) hHeld.1.size
      have hS26 := hHeld.below hb
      clear hb ho
      refine hK.out _ _ hS26 (fun hHeld => ?_)
      clear hK K hS26
      refine wpAnyH_ready (rs := [33]) (fuel := 2) (by kernel_rfl) (by simp) ?_
      refine ready_want rfl (by kernel_rfl) (tf 51539607551 37) (by kernel_rfl) (fun K hK => ?_) AllReadyH.nil
      simp only [List.getElem_toArray, List.getElem_cons_succ, List.getElem_cons_zero]
      go_big_op
      refine (CL3.out _ _ _ jc26.out s26.out).mono ?_
      rintro e wp27 ⟨xcg27, xcc27, rfl, ho, hb⟩
      have s27 : Hid (Owns wp27 w.heap.size (.slice (some ⟨gs, 0, none⟩) sn cs) sn sh) := s26.out.below (hb)
      have r27 : Hid (VarIs wp27 (w.heap.size + 2) #[.int .i64 0, .int .i64 0, .slice none 0 0, .slice none 0 0, .slice none 0 0, .slice none 0 0] 31) := r26.out.below (hb)
      have ja27 : Hid (Owns wp27 w.heap.size (.slice (some ⟨jag1, 0, none⟩) LJ1.length jac1) LJ1.length LJ1) := ja26.out.below (hb)
      have v27 : Hid (VarIs wp27 (wp1.heap.size) #[.int .i64 0, .int .i64 0, .slice none 0 0, .slice none 0 0, .slice none 0 0, .slice none 0 0] 31) := v26.out.below (hb)
      have xa27 : Hid (Owns wp27 w.heap.size (.slice (some ⟨xag23, 0, none⟩) LX2.length xac23) LX2.length LX2) := xa26.out.below (hb)
      have jb27 : Hid (Owns wp27 w.heap.size (.slice (some ⟨jbg24, 0, none⟩) LJ2.length jbc24) LJ2.length LJ2) := jb26.out.below (hb)
      have xb27 : Hid (Owns wp27 w.heap.size (.slice (some ⟨xbg25, 0, none⟩) LX3.length xbc25) LX3.length LX3) := xb26.out.below (hb)
      have jc27 : Hid (Owns wp27 w.heap.size (.slice (some ⟨jcg26, 0, none⟩) LJ3.length jcc26) LJ3.length LJ3) := jc26.out.below (hb)
      have xc27 : Hid (Owns wp27 w.heap.size (.slice (some ⟨xcg27, 0, none⟩) LX4.length xcc27) LX4.length LX4) := ho.mono (base := w.heap.size) hHeld.1.size
      have hS27 := hHeld.below hb
      clear hb ho
      refine hK.out _ _ hS27 (fun hHeld => ?_)
      clear hK K hS27
      refine fastE 34 58 (.agg #[.int .i64 (st * su), .int .i64 ini, .slice (some ⟨xag23, 0, none⟩) LX2.length xac23, .slice (some ⟨xbg25, 0, none⟩) LX3.length xbc25, .slice (some ⟨xcg27, 0, none⟩) LX4.length xcc27, .slice none 0 0]) (fuel := 1) (fun ρ => ρ (.tmp 28) = .int .i64 (st * su) ∧ ρ (.tmp 36) = .int .i64 ini ∧ ρ (.tmp 43) = .slice (some ⟨xag23, 0, none⟩) LX2.length xac23 ∧ ρ (.tmp 50) = .slice (some ⟨xbg25, 0, none⟩) LX3.length xbc25 ∧ ρ (.tmp 57) = .slice (some ⟨xcg27, 0, none⟩) LX4.length xcc27) rfl rfl (by kernel_rfl) (by kernel_rfl) (by kernel_rfl) (fun _ _ _ h => h) (by kernel_rfl) ⟨by kernel_rfl, by kernel_rfl, by kernel_rfl, by kernel_rfl, by kernel_rfl⟩ (fun ρ hF _ w hSw => by obtain ⟨hr0, hr1, hr2, hr3, hr4⟩ := hF; simp [go_sem, hr0, hr1, hr2, hr3, hr4]) hHeld (tf 68719476735 37) (by kernel_rfl) (fun K hK => ?_)
      go_big_move
      refine hK.out _ ?_
      clear hK K
      have tZ : Hid (wp27.there (wp1.heap.size) 0 6) := v27.out.there rfl
      have gZ := Lib.hid (grown_setCells (wp1.heap.size) [.int .i64 (st * su), .int .i64 ini, .slice (some ⟨xag23, 0, none⟩) LX2.length xac23, .slice (some ⟨xbg25, 0, none⟩) LX3.length xbc25, .slice (some ⟨xcg27, 0, none⟩) LX4.length xcc27, .slice none 0 0] 0 wp27)
      have hSZ : Hid (Box2 w (wp27.setCells (wp1.heap.size) 0 [.int .i64 (st * su), .int .i64 ini, .slice (some ⟨xag23, 0, none⟩) LX2.length xac23, .slice (some ⟨xbg25, 0, none⟩) LX3.length xbc25, .slice (some ⟨xcg27, 0, none⟩) LX4.length xcc27, .slice none 0 0]) w.heap.size (w.heap.size + 1) 31 (iaC st it a2 n2 c2 a3 n3 c3 a4 n4 c4 a5 n5 c5) (iaC su iu b2 m2 d2 b3 m3 d3 b4 m4 d4 b5 m5 d5)) := ⟨hHeld.1.grown gZ.out hHeld.1.size (fun q hq => by have h1 := Option.some.inj hq; have h2 := BL.out; omega), hHeld.2.1.grown gZ.out (fun e => by have h1 := Option.some.inj e; have h2 := BL.out; omega), hHeld.2.2.grown gZ.out (fun e => by have h1 := Option.some.inj e; have h2 := BL.out; omega)⟩
      have rZ := Lib.hid (r27.out.grown gZ.out (fun e => by have h1 := Option.some.inj e; have h2 := BL.out; omega))
      have vZ : Hid (VarIs (wp27.setCells (wp1.heap.size) 0 [.int .i64 (st * su), .int .i64 ini, .slice (some ⟨xag23, 0, none⟩) LX2.length xac23, .slice (some ⟨xbg25, 0, none⟩) LX3.length xbc25, .slice (some ⟨xcg27, 0, none⟩) LX4.length xcc27, .slice none 0 0]) (wp1.heap.size) #[.int .i64 (st * su), .int .i64 ini, .slice (some ⟨xag23, 0, none⟩) LX2.length xac23, .slice (some ⟨xbg25, 0, none⟩) LX3.length xbc25, .slice (some ⟨xcg27, 0, none⟩) LX4.length xcc27, .slice none 0 0] 31) := v27.out.sets _ _ _ _ _ _
      have qs := Lib.hid (s27.out.keepVar v27.out (by decide) gZ.out)
      have qxa := Lib.hid (xa27.out.keepVar v27.out (by decide) gZ.out)
      have qxb := Lib.hid (xb27.out.keepVar v27.out (by decide) gZ.out)
      have qxc := Lib.hid (xc27.out.keepVar v27.out (by decide) gZ.out)
      refine wpAnyH_ready (rs := [36]) (fuel := 0) (by kernel_rfl) (by simp) ?_
      refine ready_want rfl (by kernel_rfl) (tf 137438953471 37) (by kernel_rfl) (fun K hK => ?_) AllReadyH.nil
      refine wp_store_mid _ _ _ rfl (wp1.heap.size) 0 #[.int .i64 (st * su), .int .i64 ini, .slice (some ⟨xag23, 0, none⟩) LX2.length xac23, .slice (some ⟨xbg25, 0, none⟩) LX3.length xbc25, .slice (some ⟨xcg27, 0, none⟩) LX4.length xcc27, .slice none 0 0] rfl rfl tZ.out (by kernel_rfl) (ia_one _ _ _ _ _ _ _ _ _ _ _ _ _ _) ?_
      refine hK.out _ _ hSZ.out (fun hHeld => ?_)
      clear hK K
      refine wpAnyH_done (by kernel_rfl) ?_ _
      exact REST.out (wp1.heap.size, jag1, jac1, xag23, xac23, jbg24, jbc24, xbg25, xbc25, jcg26, jcc26, xcg27, xcc27) _ ⟨hSZ.out, rZ.out, qs.out, vZ.out, qxa.out, qxb.out, qxc.out, BL.out⟩
    refine ready_want rfl (by kernel_rfl) (tf 40717647871 37) (by kernel_rfl) (fun K hK => ?_) AllReadyH.nil
    have s28 : Hid (Owns (w2.drew.alloc (.cells #[.int .i64 0, .int .i64 0, .slice none 0 0, .slice none 0 0, .slice none 0 0, .slice none 0 0] 31)) w.heap.size (.slice (some ⟨gs, 0, none⟩) sn cs) sn sh) := PD.out.below ((Below.refl _ w2.drew).alloc (Nat.le_refl _) (.cells #[.int .i64 0, .int .i64 0, .slice none 0 0, .slice none 0 0, .slice none 0 0, .slice none 0 0] 31))
    have r28 : Hid (VarIs (w2.drew.alloc (.cells #[.int .i64 0, .int .i64 0, .slice none 0 0, .slice none 0 0, .slice none 0 0, .slice none 0 0] 31)) (w.heap.size + 2) #[.int .i64 0, .int .i64 0, .slice none 0 0, .slice none 0 0, .slice none 0 0, .slice none 0 0] 31) := TD.out.below ((Below.refl _ w2.drew).alloc (Nat.le_refl _) (.cells #[.int .i64 0, .int .i64 0, .slice none 0 0, .slice none 0 0, .slice none 0 0, .slice none 0 0] 31))
    have BL : Hid (w.heap.size + 2 < w2.heap.size) := by have h1 := TD.out.lt; (try simp at h1); unfold Hid; omega
    have vn28 : Hid (VarIs (w2.drew.alloc (.cells #[.int .i64 0, .int .i64 0, .slice none 0 0, .slice none 0 0, .slice none 0 0, .slice none 0 0] 31)) (w2.heap.size) #[.int .i64 0, .int .i64 0, .slice none 0 0, .slice none 0 0, .slice none 0 0, .slice none 0 0] 31) := VarIs.new w2.drew #[.int .i64 0, .int .i64 0, .slice none 0 0, .slice none 0 0, .slice none 0 0, .slice none 0 0] 31 (by simp)
    simp only [List.getElem_toArray, List.getElem_cons_succ, List.getElem_cons_zero]
    go_big_op
    refine hK.out _ _ (hHeld.below ((Below.refl _ w2.drew).alloc (Nat.le_refl _) (.cells #[.int .i64 0, .int .i64 0, .slice none 0 0, .slice none 0 0, .slice none 0 0, .slice none 0 0] 31))) (fun hHeld => ?_)
    clear hK K
    refine wpAnyH_ready (rs := [17]) (fuel := 7) (by kernel_rfl) (by simp) ?_
    refine ready_want rfl (by kernel_rfl) (tf 40717778943 37) (by kernel_rfl) (fun K hK => ?_) AllReadyH.nil
    simp only [List.getElem_toArray, List.getElem_cons_succ, List.getElem_cons_zero]
    go_big_op
    refine (CJ1.out _ hHeld).mono ?_
    rintro e wp29 ⟨jag29, jac29, rfl, ho, hb⟩
    have s29 : Hid (Owns wp29 w.heap.size (.slice (some ⟨gs, 0, none⟩) sn cs) sn sh) := s28.out.below (hb)
    have r29 : Hid (VarIs wp29 (w.heap.size + 2) #[.int .i64 0, .int .i64 0, .slice none 0 0, .slice none 0 0, .slice none 0 0, .slice none 0 0] 31) := r28.out.below (hb)
    have v29 : Hid (VarIs wp29 (w2.heap.size) #[.int .i64 0, .int .i64 0, .slice none 0 0, .slice none 0 0, .slice none 0 0, .slice none 0 0] 31) := vn28.out.below (hb)
    have ja29 : Hid (Owns wp29 w.heap.size (.slice (some ⟨jag29, 0, none⟩) LJ1.length jac29) LJ1.length LJ1) := ho.mono (base := w.heap.size) hHeld.1.size
    have hS29 := hHeld.below hb
    clear hb ho
    refine hK.out _ _ hS29 (fun hHeld => ?_)
    clear hK K hS29
    refine wpAnyH_ready (rs := [19]) (fuel := 6) (by kernel_rfl) (by simp) ?_
    refine ready_want rfl (by kernel_rfl) (tf 40718303231 37) (by kernel_rfl) (fun K hK => ?_) AllReadyH.nil
    simp only [List.getElem_toArray, List.getElem_cons_succ, List.getElem_cons_zero]
    go_big_op
    refine (CL1.out _ _ _ ja29.out s29.out).mono ?_
    rintro e wp30 ⟨xag30, xac30, rfl, ho, hb⟩
    have s30 : Hid (Owns wp30 w.heap.size (.slice (some ⟨gs, 0, none⟩) sn cs) sn sh) := s29.out.below (hb)
    have r30 : Hid (VarIs wp30 (w.heap.size + 2) #[.int .i64 0, .int .i64 0, .slice none 0 0, .slice none 0 0, .slice none 0 0, .slice none 0 0] 31) := r29.out.below (hb)
    have v30 : Hid (VarIs wp30 (w2.heap.size) #[.int .i64 0, .int .i64 0, .slice none 0 0, .slice none 0 0, .slice none 0 0, .slice none 0 0] 31) := v29.out.below (hb)
    have ja30 : Hid (Owns wp30 w.heap.size (.slice (some ⟨jag29, 0, none⟩) LJ1.length jac29) LJ1.length LJ1) := ja29.out.below (hb)
    have xa30 : Hid (Owns wp30 w.heap.size (.slice (some ⟨xag30, 0, none⟩) LX2.length xac30) LX2.length LX2) := ho.mono (base := w.heap.size) hHeld.1.size
    have hS30 := hHeld.below hb
    clear hb ho
    refine hK.out _ _ hS30 (fun hHeld => ?_)
    clear hK K hS30
    refine wpAnyH_ready (rs := [24]) (fuel := 5) (by kernel_rfl) (by simp) ?_
    refine ready_want rfl (by kernel_rfl) (tf 40735080447 37) (by kernel_rfl) (fun K hK => ?_) AllReadyH.nil
    simp only [List.getElem_toArray, List.getElem_cons_succ, List.getElem_cons_zero]
    go_big_op
    refine (CJ2.out _ hHeld).mono ?_
    rintro e wp31 ⟨jbg31, jbc31, rfl, ho, hb⟩
    have s31 : Hid (Owns wp31 w.heap.size (.slice (some ⟨gs, 0, none⟩) sn cs) sn sh) := s30.out.below (hb)
    have r31 : Hid (VarIs wp31 (w.heap.size + 2) #[.int .i64 0, .int .i64 0, .slice none 0 0, .slice none 0 0, .slice none 0 0, .slice none 0 0] 31) := r30.out.below (hb)
    have v31 : Hid (VarIs wp31 (w2.heap.size) #[.int .i64 0, .int .i64 0, .slice none 0 0, .slice none 0 0, .slice none 0 0, .slice none 0 0] 31) := v30.out.below (hb)
    have ja31 : Hid (Owns wp31 w.heap.size (.slice (some ⟨jag29, 0, none⟩) LJ1.length jac29) LJ1.length LJ1) := ja30.out.below (hb)
    have xa31 : Hid (Owns wp31 w.heap.size (.slice (some ⟨xag30, 0, none⟩) LX2.length xac30) LX2.length LX2) := xa30.out.below (hb)
    have jb31 : Hid (Owns wp31 w.heap.size (.slice (some ⟨jbg31, 0, none⟩) LJ2.length jbc31) LJ2.length LJ2) := ho.mono (base := w.heap.size) hHeld.1.size
    have hS31 := hHeld.below hb
    clear hb ho
    refine hK.out _ _ hS31 (fun hHeld => ?_)
    clear hK K hS31
    refine wpAnyH_ready (rs := [26]) (fuel := 4) (by kernel_rfl) (by simp) ?_
    refine ready_want rfl (by kernel_rfl) (tf 40802189311 37) (by kernel_rfl) (fun K hK => ?_) AllReadyH.nil
    simp only [List.getElem_toArray, List.getElem_cons_succ, List.getElem_cons_zero]
    go_big_op
    refine (CL2.out _ _ _ jb31.out s31.out).mono ?_
    rintro e wp32 ⟨xbg32, xbc32, rfl, ho, hb⟩
    have s32 : Hid (Owns wp32 w.heap.size (.slice (some ⟨gs, 0, none⟩) sn cs) sn sh) := s31.out.below (hb)
    have r32 : Hid (VarIs wp32 (w.heap.size + 2) #[.int .i64 0, .int .i64 0, .slice none 0 0, .slice none 0 0, .slice none 0 0, .slice none 0 0] 31) := r31.out.below (hb)
    have v32 : Hid (VarIs wp32 (w2.heap.size) #[.int .i64 0, .int .i64 0, .slice none 0 0, .slice none 0 0, .slice none 0 0, .slice none 0 0] 31) := v31.out.below (hb)
    have ja32 : Hid (Owns wp32 w.heap.size (.slice (some ⟨jag29, 0, none⟩) LJ1.length jac29) LJ1.length LJ1) := ja31.out.below (hb)
    have xa32 : Hid (Owns wp32 w.heap.size (.slice (some ⟨xag30, 0, none⟩) LX2.length xac30) LX2.length LX2) := xa31.out.below (hb)
    have jb32 : Hid (Owns wp32 w.heap.size (.slice (some ⟨jbg31, 0, none⟩) LJ2.length jbc31) LJ2.length LJ2) := jb31.out.below (hb)
    have xb32 : Hid (Owns wp32 w.heap.size (.slice (some ⟨xbg32, 0, none⟩) LX3.length xbc32) LX3.length LX3) := ho.mono (base := w.heap.size) hHeld.1.size
    have hS32 := hHeld.below hb
    clear hb ho
    refine hK.out _ _ hS32 (fun hHeld => ?_)
    clear hK K hS32
    refine wpAnyH_ready (rs := [31]) (fuel := 3) (by kernel_rfl) (by simp) ?_
    refine ready_want rfl (by kernel_rfl) (tf 42949672959 37) (by kernel_rfl) (fun K hK => ?_) AllReadyH.nil
    simp only [List.getElem_toArray, List.getElem_cons_succ, List.getElem_cons_zero]
    go_big_op
    refine (CJ3.out _ hHeld).mono ?_
    rintro e wp33 ⟨jcg33, jcc33, rfl, ho, hb⟩
    have s33 : Hid (Owns wp33 w.heap.size (.slice (some ⟨gs, 0, none⟩) sn cs) sn sh) := s32.out.below (hb)
    have r33 : Hid (VarIs wp33 (w.heap.size + 2) #[.int .i64 0, .int .i64 0, .slice none 0 0, .slice none 0 0, .slice none 0 0, .slice none 0 0] 31) := r32.out.below (hb)
    have v33 : Hid (VarIs wp33 (w2.heap.size) #[.int .i64 0, .int .i64 0, .slice none 0 0, .slice none 0 0, .slice none 0 0, .slice none 0 0] 31) := v32.out.below (hb)
    have ja33 : Hid (Owns wp33 w.heap.size (.slice (some ⟨jag29, 0, none⟩) LJ1.length jac29) LJ1.length LJ1) := ja32.out.below (hb)
    have xa33 : Hid (Owns wp33 w.heap.size (.slice (some ⟨xag30, 0, none⟩) LX2.length xac30) LX2.length LX2) := xa32.out.below (hb)
    have jb33 : Hid (Owns wp33 w.heap.size (.slice (some ⟨jbg31, 0, none⟩) LJ2.length jbc31) LJ2.length LJ2) := jb32.out.below (hb)
    have xb33 : Hid (Owns wp33 w.heap.size (.slice (some ⟨xbg32, 0, none⟩) LX3.length xbc32) LX3.length LX3) := xb32.out.below (hb)
    have jc33 : Hid (Owns wp33 w.heap.size (.slice (some ⟨jcg33, 0, none⟩) LJ3.length jcc33) LJ3.length LJ3) := ho.mono (base := w.heap.size) hHeld.1.size
    have hS33 := hHeld.below hb
    clear hb ho
    refine hK.out _ _ hS33 (fun hHeld => ?_)
    clear hK K hS33
    refine wpAnyH_ready (rs := [33]) (fuel := 2) (by kernel_rfl) (by simp) ?_
    refine ready_want rfl (by kernel_rfl) (tf 51539607551 37) (by kernel_rfl) (fun K hK => ?_) AllReadyH.nil
    simp only [List.getElem_toArray, List.getElem_cons_succ, List.getElem_cons_zero]
    go_big_op
    refine (CL3.out _ _ _ jc33.out s33.out).mono ?_
    rintro e wp34 ⟨xcg34, xcc34, rfl, ho, hb⟩
    have s34 : Hid (Owns wp34 w.heap.size (.slice (some ⟨gs, 0, none⟩) sn cs) sn sh) := s33.out.below (hb)
    have r34 : Hid (VarIs wp34 (w.heap.size + 2) #[.int .i64 0, .int .i64 0, .slice none 0 0, .slice none 0 0, .slice none 0 0, .slice none 0 0] 31) := r33.out.below (hb)
    have v34 : Hid (VarIs wp34 (w2.heap.size) #[.int .i64 0, .int .i64 0, .slice none 0 0, .slice none 0 0, .slice none 0 0, .slice none 0 0] 31) := v33.out.below (hb)
    have ja34 : Hid (Owns wp34 w.heap.size (.slice (some ⟨jag29, 0, none⟩) LJ1.length jac29) LJ1.length LJ1) := ja33.out.below (hb)
    have xa34 : Hid (Owns wp34 w.heap.size (.slice (some ⟨xag30, 0, none⟩) LX2.length xac30) LX2.length LX2) := xa33.out.below (hb)
    have jb34 : Hid (Owns wp34 w.heap.size (.slice (some ⟨jbg31, 0, none⟩) LJ2.length jbc31) LJ2.length LJ2) := jb33.out.below (hb)
    have xb34 : Hid (Owns wp34 w.heap.size (.slice (some ⟨xbg32, 0, none⟩) LX3.length xbc32) LX3.length LX3) := xb33.out.below (hb)
    have jc34 : Hid (Owns wp34 w.heap.size (.slice (some ⟨jcg33, 0, none⟩) LJ3.length jcc33) LJ3.length LJ3) := jc33.out.below (hb)
    have xc34 : Hid (Owns wp34 w.heap.size (.slice (some ⟨xcg34, 0, none⟩) LX4.length xcc34) LX4.length LX4) := ho.mono (base := w.heap.size) hHeld.1.size
    have hS34 := hHeld.below hb
    clear hb ho
    refine hK.out _ _ hS34 (fun hHeld => ?_)
    clear hK K hS34
    refine fastE 34 58 (.agg #[.int .i64 (st * su), .int .i64 ini, .slice (some ⟨xag30, 0, none⟩) LX2.length xac30, .slice (some ⟨xbg32, 0, none⟩) LX3.length xbc32, .slice (some ⟨xcg34, 0, none⟩) LX4.length xcc34, .slice none 0 0]) (fuel := 1) (fun ρ => ρ (.tmp 28) = .int .i64 (st * su) ∧ ρ (.tmp 36) = .int .i64 ini ∧ ρ (.tmp 43) = .slice (some ⟨xag30, 0, none⟩) LX2.length xac30 ∧ ρ (.tmp 50) = .slice (some ⟨xbg32, 0, none⟩) LX3.length xbc32 ∧ ρ (.tmp 57) = .slice (some ⟨xcg34, 0, none⟩) LX4.length xcc34) rfl rfl (by kernel_rfl) (by kernel_rfl) (by kernel_rfl) (fun _ _ _ h => h) (by kernel_rfl) ⟨by kernel_rfl, by kernel_rfl, by kernel_rfl, by kernel_rfl, by kernel_rfl⟩ (fun ρ hF _ w hSw => by obtain ⟨hr0, hr1, hr2, hr3, hr4⟩ := hF; simp [go_sem, hr0, hr1, hr2, hr3, hr4]) hHeld (tf 68719476735 37) (by kernel_rfl) (fun K hK => ?_)
    go_big_move
    refine hK.out _ ?_
    clear hK K
    have tZ : Hid (wp34.there (w2.heap.size) 0 6) := v34.out.there rfl
    have gZ := Lib.hid (grown_setCells (w2.heap.size) [.int .i64 (st * su), .int .i64 ini, .slice (some ⟨xag30, 0, none⟩) LX2.length xac30, .slice (some ⟨xbg32, 0, none⟩) LX3.length xbc32, .slice (some ⟨xcg34, 0, none⟩) LX4.length xcc34, .slice none 0 0] 0 wp34)
    have hSZ : Hid (Box2 w (wp34.setCells (w2.heap.size) 0 [.int .i64 (st * su), .int .i64 ini, .slice (some ⟨xag30, 0, none⟩) LX2.length xac30, .slice (some ⟨xbg32, 0, none⟩) LX3.length xbc32, .slice (some ⟨xcg34, 0, none⟩) LX4.length xcc34, .slice none 0 0]) w.heap.size (w.heap.size + 1) 31 (iaC st it a2 n2 c2 a3 n3 c3 a4 n4 c4 a5 n5 c5) (iaC su iu b2 m2 d2 b3 m3 d3 b4 m4 d4 b5 m5 d5)) := ⟨hHeld.1.grown gZ.out hHeld.1.size (fun q hq => by have h1 := Option.some.inj hq; have h2 := BL.out; omega), hHeld.2.1.grown gZ.out (fun e => by have h1 := Option.some.inj e; have h2 := BL.out; omega), hHeld.2.2.grown gZ.out (fun e => by have h1 := Option.some.inj e; have h2 := BL.out; omega)⟩
    have rZ := Lib.hid (r34.out.grown gZ.out (fun e => by have h1 := Option.some.inj e; have h2 := BL.out; omega))
    have vZ : Hid (VarIs (wp34.setCells (w2.heap.size) 0 [.int .i64 (st * su), .int .i64 ini, .slice (some ⟨xag30, 0, none⟩) LX2.length xac30, .slice (some ⟨xbg32, 0, none⟩) LX3.length xbc32, .slice (some ⟨xcg34, 0, none⟩) LX4.length xcc34, .slice none 0 0]) (w2.heap.size) #[.int .i64 (st * su), .int .i64 ini, .slice (some ⟨xag30, 0, none⟩) LX2.length xac30, .slice (some ⟨xbg32, 0, none⟩) LX3.length xbc32, .slice (some ⟨xcg34, 0, none⟩) LX4.length xcc34, .slice none 0 0] 31) := v34.out.sets _ _ _ _ _ _
    have qs := Lib.hid (s34.out.keepVar v34.out (by decide) gZ.out)
    have qxa := Lib.hid (xa34.out.keepVar v34.out (by decide) gZ.out)
    have qxb := Lib.hid (xb34.out.keepVar v34.out (by decide) gZ.out)
    have qxc := Lib.hid (xc34.out.keepVar v34.out (by decide) gZ.out)
    refine wpAnyH_ready (rs := [36]) (fuel := 0) (by kernel_rfl) (by simp) ?_
    refine ready_want rfl (by kernel_rfl) (tf 137438953471 37) (by kernel_rfl) (fun K hK => ?_) AllReadyH.nil
    refine wp_store_mid _ _ _ rfl (w2.heap.size) 0 #[.int .i64 (st * su), .int .i64 ini, .slice (some ⟨xag30, 0, none⟩) LX2.length xac30, .slice (some ⟨xbg32, 0, none⟩) LX3.length xbc32, .slice (some ⟨xcg34, 0, none⟩) LX4.length xcc34, .slice none 0 0] rfl rfl tZ.out (by kernel_rfl) (ia_one _ _ _ _ _ _ _ _ _ _ _ _ _ _) ?_
    refine hK.out _ _ hSZ.out (fun hHeld => ?_)
    clear hK K
    refine wpAnyH_done (by kernel_rfl) ?_ _
    exact REST.out (w2.heap.size, jag29, jac29, xag30, xac30, jbg31, jbc31, xbg32, xbc32, jcg33, jcc33, xcg34, xcc34) _ ⟨hSZ.out, rZ.out, qs.out, vZ.out, qxa.out, qxb.out, qxc.out, BL.out⟩

theorem specProduct_any (a b : IaD) (v u : Value) (w : World) (h : IaRow w a v) (k : IaRow w b u) (fa : Small a) (fb : Small b) :
    Calls Tryz.prog 19 #[v, u] w fun e w' => ∃ v', e = .returned (.tuple #[v', .bool (prodB a b)]) ∧ IaHigh w' w.heap.size (prodIa a b) v' ∧ Below w.heap.size w w' :=
  (specProductN_any a b v u w h k fa fb).mono fun _ _ ⟨v', he, ho, _, hb⟩ => ⟨v', he, ho, hb⟩

end Go.Proofs.YtdbgjgeglgipiaaGreat
