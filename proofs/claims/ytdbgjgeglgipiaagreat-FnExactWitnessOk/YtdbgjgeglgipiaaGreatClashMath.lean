/-
  What clashes, as functions of lists: the pairs in which one says a shared action that the other does not take. Conditions: as each statement says; nothing here speaks of the program.
-/
import Derived.Test.YtdbgjgeglgipiaaGreatTwo
import Derived.Test.YtdbgjgeglgipiaaGreatFit
namespace Go.Proofs.YtdbgjgeglgipiaaGreat
open Go.RowKit

/-- One says a shared action that the other does not take. -/
def tellB (sh xs ys : List Int) : Bool := xs.any fun x => hasB sh x && !hasB ys x

theorem tell_in (sh xs ys : List Int) : (!inB (meetOf xs sh) ys) = tellB sh xs ys := by
  rw [Bool.eq_iff_iff]
  simp only [Bool.not_eq_true', inB, tellB, List.any_eq_true, Bool.and_eq_true, Bool.not_eq_true']
  constructor
  · intro h
    obtain ⟨x, hx, hn⟩ : ∃ x ∈ meetOf xs sh, hasB ys x = false := by
      apply Classical.byContradiction
      intro hno
      rw [List.all_eq_true.2 (fun x hx => by
        cases e : hasB ys x with
        | true => rfl
        | false => exact absurd ⟨x, hx, e⟩ hno)] at h
      cases h
    rw [mem_meetOf] at hx
    exact ⟨x, hx.1, hasB_mem.2 hx.2, hn⟩
  · rintro ⟨x, hx, hs, hn⟩
    cases e : (meetOf xs sh).all (hasB ys) with
    | false => rfl
    | true =>
      have := List.all_eq_true.1 e x (mem_meetOf.2 ⟨hx, hasB_mem.1 hs⟩)
      rw [hn] at this
      cases this

theorem tell_snoc (sh xs ys : List Int) (x : Int) : tellB sh (xs ++ [x]) ys = (tellB sh xs ys || (hasB sh x && !hasB ys x)) := by simp [tellB]

theorem tell_hit {sh xs ys : List Int} {x : Int} (hx : x ∈ xs) (h1 : hasB sh x = true) (h2 : hasB ys x = false) : tellB sh xs ys = true := by
  unfold tellB
  rw [List.any_eq_true]
  exact ⟨x, hx, by rw [h1, h2]; rfl⟩

/-- The pair of p and q is a clash. -/
def clashB (a b : IaD) (p q : Int) : Bool := tellB (shOf a b) (ofL a.steps p a.outs) (ofL b.steps q b.ins) || tellB (shOf a b) (ofL b.steps q b.outs) (ofL a.steps p a.ins)

/-- Of one row the first j pairs that are told. -/
def rowP (S : Int → Int → Bool) (p : Nat) : Nat → List (Int × Int)
  | 0 => []
  | j + 1 => rowP S p j ++ if S p j then [((p : Int), (j : Int))] else []

/-- The pairs of the first k rows, m in each, that are told. -/
def allP (S : Int → Int → Bool) (m : Nat) : Nat → List (Int × Int)
  | 0 => []
  | k + 1 => allP S m k ++ rowP S k m

theorem rowP_len (S : Int → Int → Bool) (p : Nat) : ∀ j, (rowP S p j).length ≤ j
  | 0 => Nat.le_refl _
  | j + 1 => by
    have := rowP_len S p j
    unfold rowP
    rw [List.length_append]
    split <;> simp <;> omega

theorem allP_len (S : Int → Int → Bool) (m : Nat) : ∀ k, (allP S m k).length ≤ k * m
  | 0 => by simp [allP]
  | k + 1 => by
    have h1 := allP_len S m k
    have h2 := rowP_len S k m
    unfold allP
    rw [List.length_append, Nat.succ_mul]
    omega

theorem rowP_mem {S : Int → Int → Bool} {p : Nat} {x : Int × Int} : ∀ {j : Nat}, x ∈ rowP S p j ↔ x.1 = p ∧ 0 ≤ x.2 ∧ x.2 < j ∧ S x.1 x.2 = true
  | 0 => by simp [rowP]; omega
  | j + 1 => by
    obtain ⟨x1, x2⟩ := x
    unfold rowP
    rw [List.mem_append, rowP_mem]
    by_cases h : S p j = true
    · rw [if_pos h]
      simp only [List.mem_singleton, Prod.mk.injEq]
      constructor
      · rintro (⟨h1, h2, h3, h4⟩ | ⟨h1, h2⟩)
        · exact ⟨h1, h2, by omega, h4⟩
        · subst h1; subst h2; exact ⟨rfl, by omega, by omega, h⟩
      · rintro ⟨h1, h2, h3, h4⟩
        by_cases e : x2 = j
        · exact Or.inr ⟨h1, e⟩
        · exact Or.inl ⟨h1, h2, by omega, h4⟩
    · rw [if_neg h]
      simp only [List.not_mem_nil, or_false]
      constructor
      · rintro ⟨h1, h2, h3, h4⟩; exact ⟨h1, h2, by omega, h4⟩
      · rintro ⟨h1, h2, h3, h4⟩
        refine ⟨h1, h2, ?_, h4⟩
        have : x2 ≠ j := by
          rintro rfl
          rw [h1] at h4
          exact h h4
        omega

theorem allP_mem {S : Int → Int → Bool} {m : Nat} {x : Int × Int} : ∀ {k : Nat}, x ∈ allP S m k ↔ 0 ≤ x.1 ∧ x.1 < k ∧ 0 ≤ x.2 ∧ x.2 < m ∧ S x.1 x.2 = true
  | 0 => by simp [allP]; omega
  | k + 1 => by
    unfold allP
    rw [List.mem_append, allP_mem, rowP_mem]
    constructor
    · rintro (⟨h1, h2, h3, h4, h5⟩ | ⟨h1, h2, h3, h4⟩)
      · exact ⟨h1, by omega, h3, h4, h5⟩
      · exact ⟨by omega, by omega, h2, h3, h4⟩
    · rintro ⟨h1, h2, h3, h4, h5⟩
      by_cases e : x.1 = k
      · exact Or.inr ⟨e, h3, h4, h5⟩
      · exact Or.inl ⟨h1, by omega, h3, h4, h5⟩

/-- Only what is told of pairs in range counts. -/
theorem rowP_congr {S S' : Int → Int → Bool} {p : Nat} : ∀ {j : Nat}, (∀ q : Nat, q < j → S p q = S' p q) → rowP S p j = rowP S' p j
  | 0, _ => rfl
  | j + 1, h => by
    unfold rowP
    rw [rowP_congr (fun q hq => h q (by omega)), h j (by omega)]

theorem allP_congr {S S' : Int → Int → Bool} {m : Nat} : ∀ {k : Nat}, (∀ p q : Nat, p < k → q < m → S p q = S' p q) → allP S m k = allP S' m k
  | 0, _ => rfl
  | k + 1, h => by
    unfold allP
    rw [allP_congr (fun p q hp hq => h p q (by omega) hq), rowP_congr (fun q hq => h k q (by omega) hq)]

/-- What has been told behind k rows and j of the next one. -/
def doneS (C : Int → Int → Bool) (m k j : Nat) : Int → Int → Bool := fun p q => C p q && (decide (0 ≤ p ∧ p < k ∧ 0 ≤ q ∧ q < m) || decide (p = k ∧ 0 ≤ q ∧ q < j))

theorem doneS_start (C : Int → Int → Bool) (m : Nat) : doneS C m 0 0 = fun _ _ => false := by
  funext p q
  unfold doneS
  rw [decide_eq_false (by omega), decide_eq_false (by omega)]
  simp

theorem doneS_row (C : Int → Int → Bool) (m k : Nat) : doneS C m k m = doneS C m (k + 1) 0 := by
  funext p q
  unfold doneS
  congr 1
  rw [Bool.eq_iff_iff]
  simp only [Bool.or_eq_true, decide_eq_true_eq]
  omega

theorem doneS_no (C : Int → Int → Bool) (m k j : Nat) (h : C k j = false) : doneS C m k j = doneS C m k (j + 1) := by
  funext p q
  unfold doneS
  by_cases e : p = k ∧ q = j
  · obtain ⟨rfl, rfl⟩ := e
    rw [h]
    rfl
  · congr 1
    rw [Bool.eq_iff_iff]
    simp only [Bool.or_eq_true, decide_eq_true_eq]
    omega

/-- The states of the pairs. -/
def stOf (su : Int) (x : Int × Int) : Int := x.1 * su + x.2

def clashesOf (a b : IaD) : List Int := if fitB a b then (allP (clashB a b) b.states.toNat a.states.toNat).map (stOf b.states) else []

theorem fitB_ok {a b : IaD} (h : fitB a b = true) : iaOkB a = true ∧ iaOkB b = true ∧ a.states * b.states ≤ 40 := by
  unfold fitB at h
  simp only [Bool.and_eq_true, decide_eq_true_eq] at h
  exact ⟨h.1.1.1, h.1.1.2, h.2⟩

theorem sh_low {a b : IaD} (h : iaOkB a = true) : (shOf a b).length ≤ 12 := by
  obtain ⟨h1, h2, _⟩ := iaOk_sets h
  refine rise_low12 (putAll_rises (putAll_rises List.Pairwise.nil)) (fun y hy => ?_)
  unfold shOf at hy
  rw [mem_joinOf, mem_meetOf, mem_meetOf] at hy
  rcases hy with hy | hy
  · exact setOk_low h1 y hy.1
  · exact setOk_low h2 y hy.1

end Go.Proofs.YtdbgjgeglgipiaaGreat
