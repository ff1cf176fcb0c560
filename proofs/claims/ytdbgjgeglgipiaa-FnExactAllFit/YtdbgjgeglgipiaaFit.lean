/-
  Contracts of Fit, of the program and of the model. Conditions: the automata's lists have at most 2^20 elements.
-/
import Derived.Test.YtdbgjgeglgipiaaTwo
import Derived.Test.YtdbgjgeglgipiaaRisen
namespace Go.Proofs.Ytdbgjgeglgipiaa
open Go.RowKit

theorem OwnRes.slice {w : World} {xs : List Int} {e : Ending} {w' : World} (h : OwnRes w w.heap.size xs e w') : ∃ a c, e = .returned (.slice a xs.length c) ∧ Below w.heap.size w w' := by
  obtain ⟨g, c, he, _, hb⟩ := h
  exact ⟨_, c, he, hb⟩

/-- Right sets hold actions alone. -/
theorem setOk_low {s : List Int} (h : setOkB s = true) : ∀ x ∈ s, 0 ≤ x ∧ x ≤ 11 := fun _ hx => setOk_small h hx

theorem iaOk_sets {a : IaD} (h : iaOkB a = true) : setOkB a.ins = true ∧ setOkB a.outs = true ∧ setOkB a.hids = true := by
  simp only [iaOkB, setsB, Bool.and_eq_true] at h
  exact ⟨h.1.1.2.1.1.1, h.1.1.2.1.1.2, h.1.1.2.1.2⟩

/-- What rises within the actions has at most twelve. -/
theorem rise_low12 {L : List Int} (hr : L.Pairwise (· < ·)) (hl : ∀ y ∈ L, 0 ≤ y ∧ y ≤ 11) : L.length ≤ 12 := by
  have h := rises_len (ys := [0, 1, 2, 3, 4, 5, 6, 7, 8, 9, 10, 11]) hr (fun y hy => by
    obtain ⟨h0, h1⟩ := hl y hy
    have : y = 0 ∨ y = 1 ∨ y = 2 ∨ y = 3 ∨ y = 4 ∨ y = 5 ∨ y = 6 ∨ y = 7 ∨ y = 8 ∨ y = 9 ∨ y = 10 ∨ y = 11 := by omega
    simpa using this)
  simpa using h

theorem mem_actsOf {a : IaD} {x : Int} : x ∈ actsOf a ↔ x ∈ a.ins ∨ x ∈ a.outs ∨ x ∈ a.hids := by
  unfold actsOf
  rw [mem_joinOf, mem_joinOf, or_assoc]

theorem actsOf_low {a : IaD} (h : iaOkB a = true) : (actsOf a).length ≤ 12 := by
  obtain ⟨s1, s2, s3⟩ := iaOk_sets h
  refine rise_low12 (putAll_rises (putAll_rises List.Pairwise.nil)) (fun y hy => ?_)
  rcases mem_actsOf.1 hy with h | h | h
  · exact setOk_low s1 y h
  · exact setOk_low s2 y h
  · exact setOk_low s3 y h

theorem fitActs_sum (a b : IaD) : fitActs a b = decide ((meetOf a.ins b.ins).length + (meetOf a.outs b.outs).length + (meetOf a.hids (actsOf b)).length + (meetOf b.hids (actsOf a)).length = 0) := by
  unfold fitActs
  rw [Bool.eq_iff_iff]
  simp only [Bool.and_eq_true, decide_eq_true_eq]
  omega

end Go.Proofs.Ytdbgjgeglgipiaa
