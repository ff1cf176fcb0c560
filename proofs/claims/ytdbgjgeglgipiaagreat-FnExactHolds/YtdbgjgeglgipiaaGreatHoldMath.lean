/-
  Holds as a function of lists, and that the program's masks and rounds say the same. Conditions: the automata are right, the states theirs.
-/
import Derived.Test.YtdbgjgeglgipiaaGreatHoldsWith
import Derived.Test.YtdbgjgeglgipiaaGreatRoundOf
import Derived.Test.YtdbgjgeglgipiaaGreatFit
namespace Go.Proofs.YtdbgjgeglgipiaaGreat
open Go.RowKit

/-- The pair holds with the pairs of 'rel'. -/
def holdsL (q p : IaD) (v u : Int) (rel : List (Int × Int)) : Bool :=
  inB (sureOf p u) (sureOf q v) && inB (sayOf q v) (sayOf p u) && (joinOf (sureOf p u) (sayOf q v)).all fun act => (farOf q v act).all fun x => (farOf p u act).any fun y => inRel rel x y

theorem sure_low {a : IaD} (h : iaOkB a = true) (s : Int) : ∀ x ∈ sureOf a s, 0 ≤ x ∧ x ≤ 11 := fun x hx => setOk_low (iaOk_sets h).1 x (mem_sure.1 hx).1
theorem say_low {a : IaD} (h : iaOkB a = true) (s : Int) : ∀ x ∈ sayOf a s, 0 ≤ x ∧ x ≤ 11 := fun x hx => by
  obtain ⟨z, _, hz⟩ := mem_say.1 hx
  exact setOk_low (iaOk_sets h).2.1 x (mem_ofL.1 hz).1

theorem sub_in {xs ys : List Int} (hl : ∀ x ∈ xs, 0 ≤ x ∧ x ≤ 11) : subB (maskOf xs) (maskOf ys) = inB xs ys := by
  rw [Bool.eq_iff_iff]
  unfold subB inB
  rw [List.all_eq_true, List.all_eq_true]
  constructor
  · intro h x hx
    obtain ⟨l1, l2⟩ := hl x hx
    have h1 := h x.toNat (List.mem_range.2 (by omega))
    unfold maskOf at h1
    rw [Int.toNat_of_nonneg l1, has_yes hx] at h1
    have h2 : decide (x.toNat < 12) = true := by simp; omega
    rw [h2] at h1
    simpa using h1
  · intro h i hi
    unfold maskOf
    by_cases h1 : i < 12
    · by_cases h2 : (i : Int) ∈ xs
      · have := h _ h2
        simp [h1, this]
      · rw [has_no h2]
        simp
    · simp [h1]

theorem unm_all (ok : Nat → Bool) (fv fu : Nat → List Int) (R : Nat → Nat → Bool) : ∀ L : List Nat, (unmOf ok fv fu R L).isNone = L.all fun k => (unmA ok fv fu R k).isNone
  | [] => rfl
  | k :: r => by
    unfold unmOf
    cases h : unmA ok fv fu R k with
    | some x => simp [h]
    | none =>
      simp only [List.all_cons, h, Option.isNone_none, Bool.true_and]
      exact unm_all ok fv fu R r

theorem unmA_none (ok : Nat → Bool) (fv fu : Nat → List Int) (R : Nat → Nat → Bool) (k : Nat) : (unmA ok fv fu R k).isNone = (!ok k || (fv k).all fun x => (fu k).any fun y => R x.toNat y.toNat) := by
  unfold unmA
  cases ok k with
  | false => rfl
  | true =>
    rw [Bool.eq_iff_iff]
    simp only [if_true, Bool.not_true, Bool.false_or, Option.isNone_iff_eq_none, List.find?_eq_none, lone, List.all_eq_true]
    constructor
    · intro h x hx
      have := h x hx
      simpa using this
    · intro h x hx
      have := h x hx
      simpa using this

theorem holds_eq {q p : IaD} (hq : iaOkB q = true) (hp : iaOkB p = true) (v u : Int) (rel : List (Int × Int)) :
    (subB (maskOf (sureOf p u)) (maskOf (sureOf q v)) && subB (maskOf (sayOf q v)) (maskOf (sayOf p u)) && (unmOf (fun k => maskOf (sureOf p u) k || maskOf (sayOf q v) k) (fun i => farOf q v (i : Int)) (fun i => farOf p u (i : Int)) (relR p rel) (List.range 12)).isNone) = holdsL q p v u rel := by
  rw [sub_in (sure_low hp u), sub_in (say_low hq v), unm_all]
  unfold holdsL
  congr 1
  rw [Bool.eq_iff_iff, List.all_eq_true, List.all_eq_true]
  have key : ∀ k : Nat, ((farOf q v (k : Int)).all fun x => (farOf p u (k : Int)).any fun y => relR p rel x.toNat y.toNat) = ((farOf q v (k : Int)).all fun x => (farOf p u (k : Int)).any fun y => inRel rel x y) := fun k => by
    rw [Bool.eq_iff_iff, List.all_eq_true, List.all_eq_true]
    have one : ∀ x ∈ farOf q v (k : Int), ((farOf p u (k : Int)).any fun y => relR p rel x.toNat y.toNat) = ((farOf p u (k : Int)).any fun y => inRel rel x y) := fun x hx => by
      have hx0 := far_states hq x hx
      simp only [stateB, btw, Bool.and_eq_true, decide_eq_true_eq] at hx0
      rw [Bool.eq_iff_iff, List.any_eq_true, List.any_eq_true]
      constructor
      · rintro ⟨y, hy, h⟩
        have hy0 := far_states hp y hy
        have hy1 := hy0
        simp only [stateB, btw, Bool.and_eq_true, decide_eq_true_eq] at hy1
        unfold relR at h
        rw [Int.toNat_of_nonneg hy1.1, Int.toNat_of_nonneg hx0.1, hy0] at h
        exact ⟨y, hy, by simpa using h⟩
      · rintro ⟨y, hy, h⟩
        have hy0 := far_states hp y hy
        have hy1 := hy0
        simp only [stateB, btw, Bool.and_eq_true, decide_eq_true_eq] at hy1
        refine ⟨y, hy, ?_⟩
        unfold relR
        rw [Int.toNat_of_nonneg hy1.1, Int.toNat_of_nonneg hx0.1, hy0, h]
        rfl
    exact ⟨fun h x hx => by rw [← one x hx]; exact h x hx, fun h x hx => by rw [one x hx]; exact h x hx⟩
  constructor
  · intro h act hact
    have hmem : act ∈ sureOf p u ∨ act ∈ sayOf q v := mem_joinOf.1 hact
    have hl : 0 ≤ act ∧ act ≤ 11 := hmem.elim (fun h => sure_low hp u act h) (fun h => say_low hq v act h)
    obtain ⟨k, rfl⟩ : ∃ k : Nat, act = (k : Int) := ⟨act.toNat, by omega⟩
    have h1 := h k (List.mem_range.2 (by omega))
    rw [unmA_none, key] at h1
    have hok : (maskOf (sureOf p u) k || maskOf (sayOf q v) k) = true := by
      have hk12 : decide (k < 12) = true := by simp; omega
      unfold maskOf
      rw [hk12]
      rcases hmem with h | h
      · rw [has_yes h]; rfl
      · rw [has_yes h]; simp
    simp only [hok, Bool.not_true, Bool.false_or] at h1
    exact h1
  · intro h k hk
    rw [unmA_none, key]
    cases hok : (maskOf (sureOf p u) k || maskOf (sayOf q v) k) with
    | false => rfl
    | true =>
      simp only [Bool.not_true, Bool.false_or]
      refine h _ (mem_joinOf.2 ?_)
      unfold maskOf at hok
      simp only [Bool.or_eq_true, Bool.and_eq_true] at hok
      rcases hok with h | h
      · exact Or.inl (of_decide_eq_true h.2)
      · exact Or.inr (of_decide_eq_true h.2)

end Go.Proofs.YtdbgjgeglgipiaaGreat
