/-
  What is hidden, as functions of lists: the model's functions of chapter 4, what the program's search keeps, and that both say the same. Conditions: none; nothing here speaks of the program.
-/
import Derived.Test.YtogjbnimohakjabGreatReachMath
namespace Go.Proofs.YtogjbnimohakjabGreat
open Go.RowKit

theorem mem_afterL {ss : List St} {s act y : Int} : y ∈ afterL ss s act ↔ (s, act, y) ∈ ss := by
  unfold afterL
  rw [mem_putAll]
  simp only [List.not_mem_nil, false_or, List.mem_map, List.mem_filter, Bool.and_eq_true, decide_eq_true_eq]
  constructor
  · rintro ⟨⟨f, b, z⟩, ⟨h1, h2, h3⟩, rfl⟩
    simp only at h2 h3
    subst h2 h3
    exact h1
  · intro h
    exact ⟨(s, act, y), ⟨h, rfl, rfl⟩, rfl⟩

/-- Whatever may be come to from states is a state. -/
theorem come_states {a : IaD} (h : iaOkB a = true) {set L : List Int} (hL : ∀ x ∈ L, stateB a x = true) {y : Int} (hy : Come set a.steps L y) : 0 ≤ y ∧ y ≤ a.states - 1 := by
  cases hy with
  | start y hm =>
    have := hL y hm
    simpa [stateB, btw] using this
  | step s hs hp hc => exact (iaOk_ends h s hs).2.1

/-- Come to from what may be come to. -/
theorem Come.trans {set : List Int} {ss : List St} {L : List Int} {x y : Int} (h : Come set ss [x] y) (hx : Come set ss L x) : Come set ss L y :=
  h.mono (fun _ h => h) (fun z hz => by obtain rfl := List.mem_singleton.1 hz; exact hx)

/-! ### What the program keeps -/

/-- Where the steps with actions of 'hids' go from 's'. -/
def hidR (hids : List Int) (ss : List St) (s : Int) : List Int := (ss.filter fun x => hasB hids x.2.1 && decide (x.1 = s)).map fun x => x.2.2

theorem mem_hidR {hids : List Int} {ss : List St} {s y : Int} : y ∈ hidR hids ss s ↔ ∃ x ∈ ss, hasB hids x.2.1 = true ∧ x.1 = s ∧ x.2.2 = y := by
  unfold hidR
  simp only [List.mem_map, List.mem_filter, Bool.and_eq_true, decide_eq_true_eq]
  constructor
  · rintro ⟨x, ⟨h1, h2, h3⟩, h4⟩; exact ⟨x, h1, h2, h3, h4⟩
  · rintro ⟨x, h1, h2, h3, h4⟩; exact ⟨x, ⟨h1, h2, h3⟩, h4⟩

/-- What is not there yet is put at the end. -/
def addOne (F : List Int) (x : Int) : List Int := if hasB F x then F else F ++ [x]
def addL (F L : List Int) : List Int := L.foldl addOne F

theorem addOne_nodup {F : List Int} {x : Int} (h : F.Nodup) : (addOne F x).Nodup := by
  unfold addOne
  split
  · exact h
  · rename_i hx
    rw [List.nodup_append]
    refine ⟨h, by simp, fun y hy z hz e => ?_⟩
    obtain rfl := List.mem_singleton.1 hz
    subst e
    exact hx (hasB_mem.2 hy)

theorem mem_addOne {F : List Int} {x y : Int} : y ∈ addOne F x ↔ y ∈ F ∨ y = x := by
  unfold addOne
  split
  · rename_i hx
    exact ⟨Or.inl, fun h => h.elim id (fun e => by rw [e]; exact hasB_mem.1 hx)⟩
  · simp

theorem addL_nodup : ∀ {L F : List Int}, F.Nodup → (addL F L).Nodup
  | [], _, h => h
  | _ :: r, _, h => addL_nodup (L := r) (addOne_nodup h)

theorem mem_addL {y : Int} : ∀ {L F : List Int}, y ∈ addL F L ↔ y ∈ F ∨ y ∈ L
  | [], F => by simp [addL]
  | z :: r, F => by
    show y ∈ addL (addOne F z) r ↔ _
    rw [mem_addL, mem_addOne, List.mem_cons, or_assoc]

theorem addL_more : ∀ (L F : List Int), ∃ E, addL F L = F ++ E
  | [], F => ⟨[], by simp [addL]⟩
  | z :: r, F => by
    obtain ⟨E, hE⟩ := addL_more r (addOne F z)
    have h1 : addL F (z :: r) = addL (addOne F z) r := rfl
    rw [h1, hE]
    unfold addOne
    split
    · exact ⟨E, rfl⟩
    · exact ⟨[z] ++ E, by simp⟩

/-- All that is found may be come to, nothing comes twice, and from the first 'k' places all is found. -/
def FoundH (a : IaD) (L F : List Int) (k : Nat) : Prop :=
  F.Nodup ∧ (∀ x ∈ L, x ∈ F) ∧ (∀ y ∈ F, Come a.hids a.steps L y) ∧ ∀ j, j < k → ∀ s, F[j]? = some s → ∀ x ∈ hidR a.hids a.steps s, x ∈ F

theorem FoundH.start (a : IaD) (L : List Int) : FoundH a L (addL [] L) 0 :=
  ⟨addL_nodup List.nodup_nil, fun x hx => mem_addL.2 (Or.inr hx), fun y hy => .start y (by simpa using mem_addL.1 hy), fun j hj => absurd hj (by omega)⟩

theorem FoundH.next {a : IaD} {L F : List Int} {k : Nat} {s : Int} (h : FoundH a L F k) (hs : F[k]? = some s) : FoundH a L (addL F (hidR a.hids a.steps s)) (k + 1) := by
  obtain ⟨h1, h2, h3, h4⟩ := h
  have hsm : s ∈ F := List.mem_of_getElem? hs
  refine ⟨addL_nodup h1, fun x hx => mem_addL.2 (Or.inl (h2 x hx)), fun y hy => ?_, fun j hj s' hs' x hx => ?_⟩
  · rcases mem_addL.1 hy with hy | hy
    · exact h3 y hy
    · obtain ⟨t, ht, hp, hf, rfl⟩ := mem_hidR.1 hy
      exact .step t ht hp (by rw [hf]; exact h3 s hsm)
  · obtain ⟨E, hE⟩ := addL_more (hidR a.hids a.steps s) F
    have hlt : k < F.length := (List.getElem?_eq_some_iff.1 hs).1
    rw [hE, List.getElem?_append_left (by omega)] at hs'
    by_cases e : j = k
    · subst e
      rw [hs] at hs'
      cases hs'
      exact mem_addL.2 (Or.inr hx)
    · exact mem_addL.2 (Or.inl (h4 j (by omega) s' hs' x hx))

theorem FoundH.low {a : IaD} (h : iaOkB a = true) {L F : List Int} {k : Nat} (hL : ∀ x ∈ L, stateB a x = true) (hF : FoundH a L F k) : ∀ y ∈ F, 0 ≤ y ∧ y < 40 := by
  intro y hy
  have h1 := come_states h hL (hF.2.2.1 y hy)
  have h2 := (iaOk_states h).2
  omega

theorem FoundH.len {a : IaD} (h : iaOkB a = true) {L F : List Int} {k : Nat} (hL : ∀ x ∈ L, stateB a x = true) (hF : FoundH a L F k) : F.length ≤ 40 := nodup_low hF.1 (hF.low h hL)

/-- All is gone through: what was found, risen, is what may be come to. -/
theorem FoundH.done {a : IaD} {L F : List Int} (h : FoundH a L F F.length) : ris F = alongOf a.hids a.steps L := by
  obtain ⟨h1, h2, h3, h4⟩ := h
  refine along_eq (ris_lt F) (fun x => ?_)
  rw [mem_ris]
  refine ⟨h3 x, fun hx => closed_come h2 (fun s hs hp hm => ?_) hx⟩
  obtain ⟨j, hj, e⟩ := List.getElem_of_mem hm
  exact h4 j hj s.1 (by rw [List.getElem?_eq_getElem hj, e]) s.2.2 (mem_hidR.2 ⟨s, hs, hp, rfl, rfl⟩)

end Go.Proofs.YtogjbnimohakjabGreat
