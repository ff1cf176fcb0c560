/-
  Of an automaton that is right the steps rise; so the steps from one state rise by action and end. Conditions: none; nothing here speaks of the program.
-/
import Derived.Test.YtdbgjgeglgipiaaGreatIaMath
import Derived.Test.YtdbgjgeglgipiaaGreatIaSteps
import Derived.Test.YtdbgjgeglgipiaaGreatStepRows
import Derived.Test.YtdbgjgeglgipiaaGreatSpecStep
namespace Go.Proofs.YtdbgjgeglgipiaaGreat
open Go.RowKit

/-- One step stands ahead of another. -/
def Ahead (y x : St) : Prop := y.1 < x.1 ∨ (y.1 = x.1 ∧ (y.2.1 < x.2.1 ∨ (y.2.1 = x.2.1 ∧ y.2.2 < x.2.2)))

theorem ahead_cmp (y x : St) : cmpOf y x < 0 ↔ Ahead y x := by
  obtain ⟨a, b, c⟩ := y
  obtain ⟨a', b', c'⟩ := x
  simp only [cmpOf, Ahead]
  by_cases h1 : a = a'
  · subst h1
    by_cases h2 : b = b'
    · subst h2
      simp; omega
    · simp [h2]; omega
  · simp [h1]; omega

theorem Ahead.trans {x y z : St} (h : Ahead x y) (k : Ahead y z) : Ahead x z := by
  simp only [Ahead] at *
  omega

theorem stepsB_rise (a : IaD) : ∀ (ss : List St), stepsB a ss = true → ss.Pairwise Ahead
  | [], _ => List.Pairwise.nil
  | [x], _ => by simp
  | y :: x :: r, h => by
    simp only [stepsB, Bool.and_eq_true] at h
    have ih := stepsB_rise a (x :: r) h.2
    have hyx : Ahead y x := by
      have := h.1.2
      simp only [nextB, Bool.and_eq_true, decide_eq_true_eq] at this
      exact (ahead_cmp y x).1 this.1
    refine List.pairwise_cons.2 ⟨fun z hz => ?_, ih⟩
    rcases List.mem_cons.1 hz with rfl | hz
    · exact hyx
    · exact hyx.trans ((List.pairwise_cons.1 ih).1 z hz)

theorem iaOk_steps {a : IaD} (h : iaOkB a = true) : stepsB a a.steps = true := by
  simp only [iaOkB, Bool.and_eq_true] at h
  exact h.2

theorem iaOk_states {a : IaD} (h : iaOkB a = true) : 1 ≤ a.states ∧ a.states ≤ 40 := by
  simp only [iaOkB, Bool.and_eq_true, btw, decide_eq_true_eq] at h
  exact h.1.1.1.1

theorem iaOk_init {a : IaD} (h : iaOkB a = true) : 0 ≤ a.init ∧ a.init ≤ a.states - 1 := by
  simp only [iaOkB, stateB, Bool.and_eq_true, btw, decide_eq_true_eq] at h
  exact h.1.1.1.2

theorem iaOk_len {a : IaD} (h : iaOkB a = true) : a.steps.length ≤ 400 := by
  simp only [iaOkB, setsB, Bool.and_eq_true, decide_eq_true_eq] at h
  exact h.1.1.2.2

theorem iaOk_ends {a : IaD} (h : iaOkB a = true) : ∀ x ∈ a.steps, (0 ≤ x.1 ∧ x.1 ≤ a.states - 1) ∧ (0 ≤ x.2.2 ∧ x.2.2 ≤ a.states - 1) ∧ (x.2.1 ∈ a.ins ∨ x.2.1 ∈ a.outs ∨ x.2.1 ∈ a.hids) := by
  intro x hx
  have := stepsB_good a a.steps (iaOk_steps h) x hx
  simp only [goodStepB, stateB, btw, Bool.and_eq_true, Bool.or_eq_true, decide_eq_true_eq, hasB] at this
  exact ⟨this.1.1, this.1.2, by rcases this.2 with (h | h) | h <;> simp [h]⟩

theorem iaOk_low {a : IaD} (h : iaOkB a = true) : ∀ x ∈ a.steps, 0 ≤ x.1 ∧ x.1 < 40 := by
  intro x hx
  have h1 := (iaOk_ends h x hx).1
  have h2 := (iaOk_states h).2
  omega

theorem rowL_none {a : IaD} (h : iaOkB a = true) {s : Int} (hs : stateB a s = false) : rowL a.steps s = [] := by
  unfold rowL
  rw [List.filter_eq_nil_iff]
  intro x hx e
  have h1 := (iaOk_ends h x hx).1
  have e' : x.1 = s := by simpa using e
  rw [e'] at h1
  have : stateB a s = true := by simp [stateB, btw]; exact h1
  rw [this] at hs
  cases hs

theorem mem_rowL {ss : List St} {s : Int} {x : St} : x ∈ rowL ss s ↔ x ∈ ss ∧ x.1 = s := by simp [rowL]

theorem rowL_rise {a : IaD} (h : iaOkB a = true) (s : Int) : (rowL a.steps s).Pairwise (fun y x => y.2.1 < x.2.1 ∨ (y.2.1 = x.2.1 ∧ y.2.2 < x.2.2)) := by
  have hp := (stepsB_rise a a.steps (iaOk_steps h)).filter (fun x => decide (x.1 = s))
  refine (List.Pairwise.and_mem.1 hp).imp ?_
  intro y x ⟨hy, hx, hyx⟩
  have ey : y.1 = s := by simpa using (List.mem_filter.1 hy).2
  have ex : x.1 = s := by simpa using (List.mem_filter.1 hx).2
  rcases hyx with h | h
  · omega
  · exact h.2

/-- What the program's After gathers. -/
def afterR (row : List St) (act : Int) : List Int := (row.filter fun x => decide (x.2.1 = act)).map fun x => x.2.2

/-- What the program's actsOfRow gathers. -/
def actsR (row : List St) (set : List Int) : List Int := (row.filter fun x => hasB set x.2.1).map fun x => x.2.1

theorem afterR_rise {a : IaD} (h : iaOkB a = true) (s act : Int) : (afterR (rowL a.steps s) act).Pairwise (· < ·) := by
  unfold afterR
  rw [List.pairwise_map]
  have hp := (rowL_rise h s).filter (fun x => decide (x.2.1 = act))
  refine (List.Pairwise.and_mem.1 hp).imp ?_
  intro y x ⟨hy, hx, hyx⟩
  have ey : y.2.1 = act := by simpa using (List.mem_filter.1 hy).2
  have ex : x.2.1 = act := by simpa using (List.mem_filter.1 hx).2
  rcases hyx with h | h
  · omega
  · exact h.2

theorem actsR_rise {a : IaD} (h : iaOkB a = true) (s : Int) (set : List Int) : (actsR (rowL a.steps s) set).Pairwise (· ≤ ·) := by
  unfold actsR
  rw [List.pairwise_map]
  refine ((rowL_rise h s).filter _).imp ?_
  intro y x hyx
  rcases hyx with h | h <;> omega

theorem rise_putAll {xs : List Int} (h : xs.Pairwise (· < ·)) : putAll [] xs = xs :=
  rise_eq (putAll_rises List.Pairwise.nil) h (fun x => by rw [mem_putAll]; simp)

theorem afterR_eq {a : IaD} (h : iaOkB a = true) (s act : Int) : afterR (rowL a.steps s) act = afterL a.steps s act := by
  have e : afterL a.steps s act = putAll [] (afterR (rowL a.steps s) act) := by
    unfold afterL afterR rowL
    rw [List.filter_filter]
    congr 3
    funext x
    rw [Bool.and_comm]
  rw [e, rise_putAll (afterR_rise h s act)]

theorem compact_rise {d : List Int} (h : d.Pairwise (· ≤ ·)) : (Lib.compact d).Pairwise (· < ·) := (compact_lt h _ (Nat.le_refl _)).1

theorem mem_compact {d : List Int} (h : d.Pairwise (· ≤ ·)) (x : Int) : x ∈ Lib.compact d ↔ x ∈ d := by
  obtain ⟨_, h2, h3⟩ := compact_lt h _ (Nat.le_refl _)
  constructor
  · intro hx
    obtain ⟨i, hi, e⟩ := h2 x hx
    rw [getElem!_pos _ i (by simpa using hi)] at e
    rw [e]
    simp
  · intro hx
    obtain ⟨i, hi, e⟩ := List.getElem_of_mem hx
    have := h3 i hi
    rw [getElem!_pos _ i (by simpa using hi)] at this
    simp only [List.getElem_toArray] at this
    rw [← e]; exact this

theorem actsR_eq {a : IaD} (h : iaOkB a = true) (s : Int) (set : List Int) : Lib.compact (actsR (rowL a.steps s) set) = ofL a.steps s set := by
  have e : ofL a.steps s set = putAll [] (actsR (rowL a.steps s) set) := by
    unfold ofL actsR rowL
    rw [List.filter_filter]
    congr 3
    funext x
    rw [Bool.and_comm]
  rw [e]
  refine rise_eq (compact_rise (actsR_rise h s set)) (putAll_rises List.Pairwise.nil) (fun x => ?_)
  rw [mem_compact (actsR_rise h s set), mem_putAll]
  simp

end Go.Proofs.YtdbgjgeglgipiaaGreat
