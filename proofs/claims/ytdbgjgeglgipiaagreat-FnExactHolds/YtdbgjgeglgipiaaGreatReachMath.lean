/-
  What the program's search keeps: the list of what was found, its places that were gone through, and what this says at the end. Conditions: none; nothing here speaks of the program.
-/
import Derived.Test.YtdbgjgeglgipiaaGreatIaRise
namespace Go.Proofs.YtdbgjgeglgipiaaGreat
open Go.RowKit

/-- All that is found may be come to, nothing comes twice, and from the first 'k' places all is found. -/
def Found (a : IaD) (F : List Int) (k : Nat) : Prop :=
  F.Nodup ∧ a.init ∈ F ∧ (∀ y ∈ F, Come (actsOf a) a.steps [a.init] y) ∧ ∀ j, j < k → ∀ s, F[j]? = some s → ∀ x ∈ rowL a.steps s, x.2.2 ∈ F

/-- The same within a row: of the row at place 'k' the first 'j' steps lead to what is found. -/
def FoundIn (a : IaD) (F : List Int) (k : Nat) (row : List St) (j : Nat) (F2 : List Int) : Prop :=
  (∃ E, F2 = F ++ E) ∧ Found a F2 k ∧ ∀ x ∈ row.take j, x.2.2 ∈ F2

theorem act_in {a : IaD} (h : iaOkB a = true) {x : St} (hx : x ∈ a.steps) : hasB (actsOf a) x.2.1 = true := by
  rw [hasB_mem]
  unfold actsOf
  rw [mem_joinOf, mem_joinOf]
  rcases (iaOk_ends h x hx).2.2 with h | h | h
  · exact Or.inl (Or.inl h)
  · exact Or.inl (Or.inr h)
  · exact Or.inr h

theorem Found.start (a : IaD) : Found a [a.init] 0 :=
  ⟨by simp, by simp, fun y hy => .start y hy, fun j hj => absurd hj (by omega)⟩

/-- Whatever may be come to is a state. -/
theorem come_state {a : IaD} (h : iaOkB a = true) {y : Int} (hy : Come (actsOf a) a.steps [a.init] y) : 0 ≤ y ∧ y ≤ a.states - 1 := by
  cases hy with
  | start y hm =>
    obtain rfl := List.mem_singleton.1 hm
    exact iaOk_init h
  | step s hs hp hc => exact (iaOk_ends h s hs).2.1

theorem Found.low {a : IaD} (h : iaOkB a = true) {F : List Int} {k : Nat} (hF : Found a F k) : ∀ y ∈ F, 0 ≤ y ∧ y < 40 := by
  intro y hy
  have h1 := come_state h (hF.2.2.1 y hy)
  have h2 := (iaOk_states h).2
  omega

theorem nodup_low {F : List Int} (hn : F.Nodup) (hl : ∀ y ∈ F, 0 ≤ y ∧ y < 40) : F.length ≤ 40 := by
  have h : F.length ≤ ((List.range 40).map (fun i : Nat => (i : Int))).length := hn.length_le_of_subset (fun y hy => by
    obtain ⟨h0, h1⟩ := hl y hy
    exact List.mem_map.2 ⟨y.toNat, List.mem_range.2 (by omega), by omega⟩)
  simpa using h

theorem Found.len {a : IaD} (h : iaOkB a = true) {F : List Int} {k : Nat} (hF : Found a F k) : F.length ≤ 40 := nodup_low hF.1 (hF.low h)

theorem FoundIn.start {a : IaD} {F : List Int} {k : Nat} (hF : Found a F k) (row : List St) : FoundIn a F k row 0 F := ⟨⟨[], by simp⟩, hF, fun x hx => by simp at hx⟩

/-- A step that leads to what is known. -/
theorem FoundIn.known {a : IaD} {F F2 : List Int} {k j : Nat} {row : List St} (h : FoundIn a F k row j F2) (hj : j < row.length) (hm : row[j].2.2 ∈ F2) : FoundIn a F k row (j + 1) F2 := by
  refine ⟨h.1, h.2.1, fun x hx => ?_⟩
  rw [List.take_succ_eq_append_getElem hj, List.mem_append] at hx
  rcases hx with hx | hx
  · exact h.2.2 x hx
  · obtain rfl := List.mem_singleton.1 hx
    exact hm

/-- A step that leads to what is new. -/
theorem FoundIn.fresh {a : IaD} (ok : iaOkB a = true) {F F2 : List Int} {k j : Nat} {row : List St} {s : Int} (h : FoundIn a F k row j F2) (hk : k ≤ F.length) (hs : s ∈ F2) (hrow : row = rowL a.steps s) (hj : j < row.length) (hm : ¬ row[j].2.2 ∈ F2) :
    FoundIn a F k row (j + 1) (F2 ++ [row[j].2.2]) := by
  obtain ⟨⟨E, rfl⟩, ⟨h1, h2, h3, h4⟩, h5⟩ := h
  have hxm : row[j] ∈ rowL a.steps s := by rw [← hrow]; exact List.getElem_mem hj
  obtain ⟨hx1, hx2⟩ := mem_rowL.1 hxm
  refine ⟨⟨E ++ [row[j].2.2], by simp⟩, ⟨?_, ?_, ?_, ?_⟩, ?_⟩
  · rw [List.nodup_append]
    refine ⟨h1, by simp, fun x hx y hy => ?_⟩
    obtain rfl := List.mem_singleton.1 hy
    intro e
    subst e
    exact hm hx
  · exact List.mem_append_left _ h2
  · intro y hy
    rcases List.mem_append.1 hy with hy | hy
    · exact h3 y hy
    · obtain rfl := List.mem_singleton.1 hy
      exact .step row[j] hx1 (act_in ok hx1) (by rw [hx2]; exact h3 s hs)
  · intro j' hj' s' hs' x hx
    rw [List.getElem?_append_left (by simp; omega)] at hs'
    exact List.mem_append_left _ (h4 j' hj' s' hs' x hx)
  · intro x hx
    rw [List.take_succ_eq_append_getElem hj, List.mem_append] at hx
    rcases hx with hx | hx
    · exact List.mem_append_left _ (h5 x hx)
    · obtain rfl := List.mem_singleton.1 hx
      exact List.mem_append_right _ (by simp)

/-- The row is gone through. -/
theorem FoundIn.done {a : IaD} {F F2 : List Int} {k : Nat} {row : List St} {s : Int} (h : FoundIn a F k row row.length F2) (hk : F[k]? = some s) (hrow : row = rowL a.steps s) : Found a F2 (k + 1) := by
  obtain ⟨⟨E, rfl⟩, ⟨h1, h2, h3, h4⟩, h5⟩ := h
  refine ⟨h1, h2, h3, fun j hj s' hs' x hx => ?_⟩
  by_cases e : j = k
  · subst e
    have hlt := (List.getElem?_eq_some_iff.1 hk).1
    rw [List.getElem?_append_left hlt, hk] at hs'
    cases hs'
    exact h5 x (by rw [List.take_length, hrow]; exact hx)
  · exact h4 j (by omega) s' hs' x hx

/-- All is gone through: what was found, sorted, is what may be come to. -/
theorem Found.done {a : IaD} {F : List Int} (h : Found a F F.length) : (F.mergeSort fun x y => decide (x ≤ y)) = reachedOf a := by
  obtain ⟨h1, h2, h3, h4⟩ := h
  have hp : (F.mergeSort fun x y => decide (x ≤ y)).Perm F := List.mergeSort_perm F _
  have hr : (F.mergeSort fun x y => decide (x ≤ y)).Pairwise (· < ·) := by
    have hle := sort_le F
    have hnd : (F.mergeSort fun x y => decide (x ≤ y)).Nodup := hp.nodup_iff.2 h1
    exact (hle.and hnd).imp (fun ⟨a, b⟩ => by omega)
  refine along_eq hr (fun x => ?_)
  rw [hp.mem_iff]
  refine ⟨h3 x, fun hx => closed_come (L := [a.init]) (fun y hy => by obtain rfl := List.mem_singleton.1 hy; exact h2) (fun s hs _ hm => ?_) hx⟩
  obtain ⟨j, hj, e⟩ := List.getElem_of_mem hm
  exact h4 j hj s.1 (by rw [List.getElem?_eq_getElem hj, e]) s (mem_rowL.2 ⟨hs, rfl⟩)

end Go.Proofs.YtdbgjgeglgipiaaGreat
