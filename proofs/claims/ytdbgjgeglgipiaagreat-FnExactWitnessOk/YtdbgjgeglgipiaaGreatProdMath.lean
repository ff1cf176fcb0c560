/-
  The steps of a product, as lists: those of one alone, of the other alone, of both together; none is there twice. Conditions: as each statement says; nothing here speaks of the program.
-/
import Derived.Test.YtdbgjgeglgipiaaGreatTwo
import Derived.Test.YtdbgjgeglgipiaaGreatFit
import Derived.Test.YtdbgjgeglgipiaaGreatIaRise
namespace Go.Proofs.YtdbgjgeglgipiaaGreat
open Go.RowKit

/-- What the first does alone: x beside each state of the second. -/
def besideA (su : Int) (m : Nat) (x : St) : List St := (List.range m).map fun q : Nat => (x.1 * su + (q : Int), x.2.1, x.2.2 * su + (q : Int))
def besideB (su : Int) (n : Nat) (y : St) : List St := (List.range n).map fun p : Nat => ((p : Int) * su + y.1, y.2.1, (p : Int) * su + y.2.2)
def besideT (su : Int) (x : St) (tt : List St) : List St := (tt.filter fun y => decide (y.2.1 = x.2.1)).map fun y => (x.1 * su + y.1, x.2.1, x.2.2 * su + y.2.2)

def aloneA (sh : List Int) (su : Int) (m : Nat) (ss : List St) : List St := ss.flatMap fun x => if hasB sh x.2.1 then [] else besideA su m x
def aloneB (sh : List Int) (su : Int) (n : Nat) (tt : List St) : List St := tt.flatMap fun y => if hasB sh y.2.1 then [] else besideB su n y
def togetherL (sh : List Int) (su : Int) (ss tt : List St) : List St := ss.flatMap fun x => if hasB sh x.2.1 then besideT su x tt else []

/-- All steps of the product, in the order in which the program finds them. -/
def prodL (a b : IaD) : List St :=
  (aloneA (shOf a b) b.states b.states.toNat a.steps ++ aloneB (shOf a b) b.states a.states.toNat b.steps) ++ togetherL (shOf a b) b.states a.steps b.steps

theorem divmod {su p q p' q' : Int} (h : p * su + q = p' * su + q') (hq : 0 ≤ q ∧ q < su) (hq' : 0 ≤ q' ∧ q' < su) : p = p' ∧ q = q' := by
  have key : ∀ {p p' q q' : Int}, p * su + q = p' * su + q' → 0 ≤ q → q' < su → ¬ p < p' + 0 - 0 ∨ q = q' ∧ p = p' ∨ p < p' := fun {p p' q q'} _ _ _ => by omega
  clear key
  have lt : ∀ {p p' q q' : Int}, p * su + q = p' * su + q' → q < su → 0 ≤ q' → ¬ p < p' := by
    intro p p' q q' e h1 h2 hlt
    have h3 : (p + 1) * su ≤ p' * su := Int.mul_le_mul_of_nonneg_right (by omega) (by omega)
    rw [Int.add_mul, Int.one_mul] at h3
    omega
  have e1 := lt h hq.2 hq'.1
  have e2 := lt h.symm hq'.2 hq.1
  have e3 : p = p' := by omega
  subst e3
  exact ⟨rfl, by omega⟩

theorem mem_besideA {su : Int} {m : Nat} {x u : St} : u ∈ besideA su m x ↔ ∃ q : Nat, q < m ∧ u = (x.1 * su + (q : Int), x.2.1, x.2.2 * su + (q : Int)) := by
  simp only [besideA, List.mem_map, List.mem_range]
  exact ⟨fun ⟨q, h1, h2⟩ => ⟨q, h1, h2.symm⟩, fun ⟨q, h1, h2⟩ => ⟨q, h1, h2.symm⟩⟩

theorem mem_besideB {su : Int} {n : Nat} {y u : St} : u ∈ besideB su n y ↔ ∃ p : Nat, p < n ∧ u = ((p : Int) * su + y.1, y.2.1, (p : Int) * su + y.2.2) := by
  simp only [besideB, List.mem_map, List.mem_range]
  exact ⟨fun ⟨q, h1, h2⟩ => ⟨q, h1, h2.symm⟩, fun ⟨q, h1, h2⟩ => ⟨q, h1, h2.symm⟩⟩

theorem mem_besideT {su : Int} {x u : St} {tt : List St} : u ∈ besideT su x tt ↔ ∃ y ∈ tt, y.2.1 = x.2.1 ∧ u = (x.1 * su + y.1, x.2.1, x.2.2 * su + y.2.2) := by
  simp only [besideT, List.mem_map, List.mem_filter, decide_eq_true_eq]
  exact ⟨fun ⟨y, ⟨h1, h2⟩, h3⟩ => ⟨y, h1, h2, h3.symm⟩, fun ⟨y, h1, h2, h3⟩ => ⟨y, ⟨h1, h2⟩, h3.symm⟩⟩

theorem mem_aloneA {sh : List Int} {su : Int} {m : Nat} {ss : List St} {u : St} : u ∈ aloneA sh su m ss ↔ ∃ x ∈ ss, hasB sh x.2.1 = false ∧ u ∈ besideA su m x := by
  simp only [aloneA, List.mem_flatMap]
  constructor
  · rintro ⟨x, hx, hu⟩
    cases h : hasB sh x.2.1 with
    | true => rw [h] at hu; simp at hu
    | false => rw [h] at hu; exact ⟨x, hx, h, by simpa using hu⟩
  · rintro ⟨x, hx, h, hu⟩
    exact ⟨x, hx, by rw [h]; simpa using hu⟩

theorem mem_aloneB {sh : List Int} {su : Int} {n : Nat} {tt : List St} {u : St} : u ∈ aloneB sh su n tt ↔ ∃ y ∈ tt, hasB sh y.2.1 = false ∧ u ∈ besideB su n y := by
  simp only [aloneB, List.mem_flatMap]
  constructor
  · rintro ⟨x, hx, hu⟩
    cases h : hasB sh x.2.1 with
    | true => rw [h] at hu; simp at hu
    | false => rw [h] at hu; exact ⟨x, hx, h, by simpa using hu⟩
  · rintro ⟨x, hx, h, hu⟩
    exact ⟨x, hx, by rw [h]; simpa using hu⟩

theorem mem_togetherL {sh : List Int} {su : Int} {ss tt : List St} {u : St} : u ∈ togetherL sh su ss tt ↔ ∃ x ∈ ss, hasB sh x.2.1 = true ∧ u ∈ besideT su x tt := by
  simp only [togetherL, List.mem_flatMap]
  constructor
  · rintro ⟨x, hx, hu⟩
    cases h : hasB sh x.2.1 with
    | false => rw [h] at hu; simp at hu
    | true => rw [h] at hu; exact ⟨x, hx, h, by simpa using hu⟩
  · rintro ⟨x, hx, h, hu⟩
    exact ⟨x, hx, by rw [h]; simpa using hu⟩

theorem Ahead.ne {x y : St} (h : Ahead x y) : x ≠ y := by
  rintro rfl
  unfold Ahead at h
  omega

theorem pairwise_ite {α : Type} {R : α → α → Prop} {c : Bool} {l : List α} (h : l.Pairwise R) : (if c then [] else l).Pairwise R := by
  cases c
  · exact h
  · exact List.Pairwise.nil

/-- No step is there twice. -/
theorem prodL_nodup {a b : IaD} (h : fitB a b = true) : (prodL a b).Pairwise (· ≠ ·) := by
  have hab := h
  unfold fitB at hab
  simp only [Bool.and_eq_true, decide_eq_true_eq] at hab
  obtain ⟨⟨⟨ha, hb⟩, hf⟩, _⟩ := hab
  have sA := iaOk_states ha
  have sB := iaOk_states hb
  have eA := iaOk_ends ha
  have eB := iaOk_ends hb
  have rA := stepsB_rise a a.steps (iaOk_steps ha)
  have rB := stepsB_rise b b.steps (iaOk_steps hb)
  -- an action of both is shared
  have both : ∀ x ∈ a.steps, ∀ y ∈ b.steps, x.2.1 = y.2.1 → hasB (shOf a b) x.2.1 = true := by
    intro x hx y hy e
    unfold fitActs at hf
    simp only [Bool.and_eq_true, decide_eq_true_eq, List.length_eq_zero_iff] at hf
    obtain ⟨⟨⟨f1, f2⟩, f3⟩, f4⟩ := hf
    have n1 : ¬ (x.2.1 ∈ a.ins ∧ x.2.1 ∈ b.ins) := fun k => by have := mem_meetOf.2 k; rw [f1] at this; cases this
    have n2 : ¬ (x.2.1 ∈ a.outs ∧ x.2.1 ∈ b.outs) := fun k => by have := mem_meetOf.2 k; rw [f2] at this; cases this
    have n3 : ¬ (x.2.1 ∈ a.hids ∧ x.2.1 ∈ actsOf b) := fun k => by have := mem_meetOf.2 k; rw [f3] at this; cases this
    have n4 : ¬ (x.2.1 ∈ b.hids ∧ x.2.1 ∈ actsOf a) := fun k => by have := mem_meetOf.2 k; rw [f4] at this; cases this
    rw [mem_actsOf] at n3 n4
    have h1 := (eA x hx).2.2
    have h2 := (eB y hy).2.2
    rw [← e] at h2
    rw [hasB_mem]
    unfold shOf
    rw [mem_joinOf, mem_meetOf, mem_meetOf]
    rcases h1 with h1 | h1 | h1 <;> rcases h2 with h2 | h2 | h2
    · exact absurd ⟨h1, h2⟩ n1
    · exact .inl ⟨h1, h2⟩
    · exact absurd ⟨h2, .inl h1⟩ n4
    · exact .inr ⟨h1, h2⟩
    · exact absurd ⟨h1, h2⟩ n2
    · exact absurd ⟨h2, .inr (.inl h1)⟩ n4
    · exact absurd ⟨h1, .inl h2⟩ n3
    · exact absurd ⟨h1, .inr (.inl h2)⟩ n3
    · exact absurd ⟨h1, .inr (.inr h2)⟩ n3
  have hm : ((b.states.toNat : Nat) : Int) = b.states := by omega
  unfold prodL
  rw [List.pairwise_append, List.pairwise_append]
  refine ⟨⟨?_, ?_, ?_⟩, ?_, ?_⟩
  · -- the first alone
    unfold aloneA
    rw [List.pairwise_flatMap]
    refine ⟨fun x _ => pairwise_ite ?_, ?_⟩
    · unfold besideA
      rw [List.pairwise_map]
      refine List.Pairwise.imp_of_mem ?_ List.pairwise_lt_range
      intro q q' _ _ hlt e
      have := congrArg (·.1) e
      simp only at this
      omega
    · refine List.Pairwise.imp_of_mem ?_ rA
      intro x x' hx hx' hah u hu u' hu' e
      have hu1 : u ∈ besideA b.states b.states.toNat x := by revert hu; split <;> simp
      have hu2 : u' ∈ besideA b.states b.states.toNat x' := by revert hu'; split <;> simp
      obtain ⟨q, hq, e1⟩ := mem_besideA.1 hu1
      obtain ⟨q', hq', e2⟩ := mem_besideA.1 hu2
      rw [e, e2] at e1
      simp only [Prod.mk.injEq] at e1
      obtain ⟨k1, k2⟩ := divmod e1.1 (by omega) (by omega)
      obtain ⟨k3, _⟩ := divmod e1.2.2 (by omega) (by omega)
      exact hah.ne (by obtain ⟨_, _, _⟩ := x; obtain ⟨_, _, _⟩ := x'; simp only at k1 k3 e1; rw [k1, k3, e1.2.1])
  · -- the second alone
    unfold aloneB
    rw [List.pairwise_flatMap]
    refine ⟨fun y hy => pairwise_ite ?_, ?_⟩
    · unfold besideB
      rw [List.pairwise_map]
      refine List.Pairwise.imp_of_mem ?_ List.pairwise_lt_range
      intro p p' _ _ hlt e
      have := congrArg (·.1) e
      simp only at this
      have hb1 := (eB y hy).1
      have := (divmod this (by omega) (by omega)).1
      omega
    · refine List.Pairwise.imp_of_mem ?_ rB
      intro x x' hx hx' hah u hu u' hu' e
      have hu1 : u ∈ besideB b.states a.states.toNat x := by revert hu; split <;> simp
      have hu2 : u' ∈ besideB b.states a.states.toNat x' := by revert hu'; split <;> simp
      obtain ⟨q, hq, e1⟩ := mem_besideB.1 hu1
      obtain ⟨q', hq', e2⟩ := mem_besideB.1 hu2
      rw [e, e2] at e1
      simp only [Prod.mk.injEq] at e1
      have b1 := eB x hx
      have b2 := eB x' hx'
      obtain ⟨_, k1⟩ := divmod e1.1 (by omega) (by omega)
      obtain ⟨_, k3⟩ := divmod e1.2.2 (by omega) (by omega)
      exact hah.ne (by obtain ⟨_, _, _⟩ := x; obtain ⟨_, _, _⟩ := x'; simp only at k1 k3 e1; rw [k1, k3, e1.2.1])
  · -- an action that is not shared is of one alone
    intro u hu u' hu' e
    obtain ⟨x, hx, hs, h1⟩ := mem_aloneA.1 hu
    obtain ⟨y, hy, _, h2⟩ := mem_aloneB.1 hu'
    obtain ⟨q, _, e1⟩ := mem_besideA.1 h1
    obtain ⟨p, _, e2⟩ := mem_besideB.1 h2
    rw [e, e2] at e1
    simp only [Prod.mk.injEq] at e1
    have := both x hx y hy e1.2.1.symm
    rw [hs] at this
    cases this
  · -- both together
    unfold togetherL
    rw [List.pairwise_flatMap]
    refine ⟨fun x hx => ?_, ?_⟩
    · split
      · unfold besideT
        rw [List.pairwise_map]
        refine List.Pairwise.imp_of_mem ?_ (List.Pairwise.filter _ rB)
        intro y y' hy hy' hah e
        have m1 := List.mem_filter.1 hy
        have m2 := List.mem_filter.1 hy'
        have b1 := eB y m1.1
        have b2 := eB y' m2.1
        have d1 := m1.2
        have d2 := m2.2
        simp only [decide_eq_true_eq] at d1 d2
        simp only [Prod.mk.injEq] at e
        obtain ⟨_, k1⟩ := divmod e.1 (by omega) (by omega)
        obtain ⟨_, k3⟩ := divmod e.2.2 (by omega) (by omega)
        exact hah.ne (by obtain ⟨_, _, _⟩ := y; obtain ⟨_, _, _⟩ := y'; simp only at k1 k3 d1 d2; rw [k1, k3, d1, d2])
      · exact List.Pairwise.nil
    · refine List.Pairwise.imp_of_mem ?_ rA
      intro x x' hx hx' hah u hu u' hu' e
      have hu1 : u ∈ besideT b.states x b.steps := by revert hu; split <;> simp
      have hu2 : u' ∈ besideT b.states x' b.steps := by revert hu'; split <;> simp
      obtain ⟨y, hy, _, e1⟩ := mem_besideT.1 hu1
      obtain ⟨y', hy', _, e2⟩ := mem_besideT.1 hu2
      rw [e, e2] at e1
      simp only [Prod.mk.injEq] at e1
      have b1 := eB y hy
      have b2 := eB y' hy'
      obtain ⟨k1, _⟩ := divmod e1.1 (by omega) (by omega)
      obtain ⟨k3, _⟩ := divmod e1.2.2 (by omega) (by omega)
      exact hah.ne (by obtain ⟨_, _, _⟩ := x; obtain ⟨_, _, _⟩ := x'; simp only at k1 k3 e1; rw [k1, k3, e1.2.1])
  · -- what is shared is done together
    intro u hu u' hu' e
    obtain ⟨x', hx', hs', h2⟩ := mem_togetherL.1 hu'
    obtain ⟨y', _, hy2, e2⟩ := mem_besideT.1 h2
    rcases List.mem_append.1 hu with hu | hu
    · obtain ⟨x, hx, hs, h1⟩ := mem_aloneA.1 hu
      obtain ⟨q, _, e1⟩ := mem_besideA.1 h1
      rw [e, e2] at e1
      simp only [Prod.mk.injEq] at e1
      rw [e1.2.1, hs] at hs'
      cases hs'
    · obtain ⟨y, hy, hs, h1⟩ := mem_aloneB.1 hu
      obtain ⟨p, _, e1⟩ := mem_besideB.1 h1
      rw [e, e2] at e1
      simp only [Prod.mk.injEq] at e1
      rw [e1.2.1, hs] at hs'
      cases hs'

/-- Two sorted rows of the same steps are one. -/
theorem ahead_eq : ∀ {xs ys : List St}, xs.Pairwise Ahead → ys.Pairwise Ahead → (∀ u, u ∈ xs ↔ u ∈ ys) → xs = ys
  | [], [], _, _, _ => rfl
  | [], y :: ys, _, _, h => by have := (h y).2 (by simp); cases this
  | x :: xs, [], _, _, h => by have := (h x).1 (by simp); cases this
  | x :: xs, y :: ys, hx, hy, h => by
    obtain ⟨hx1, hx2⟩ := List.pairwise_cons.1 hx
    obtain ⟨hy1, hy2⟩ := List.pairwise_cons.1 hy
    have irr : ∀ {s t : St}, Ahead s t → Ahead t s → False := fun h1 h2 => (h1.trans h2).ne rfl
    have e : x = y := by
      rcases List.mem_cons.1 ((h x).1 (by simp)) with e | hm
      · exact e
      · rcases List.mem_cons.1 ((h y).2 (by simp)) with e | hm2
        · exact e.symm
        · exact (irr (hy1 x hm) (hx1 y hm2)).elim
    subst e
    rw [ahead_eq hx2 hy2 (fun u => ?_)]
    constructor
    · intro hu
      rcases List.mem_cons.1 ((h u).1 (List.mem_cons_of_mem _ hu)) with e | k
      · exact ((hx1 u hu).ne e.symm).elim
      · exact k
    · intro hu
      rcases List.mem_cons.1 ((h u).2 (List.mem_cons_of_mem _ hu)) with e | k
      · exact ((hy1 u hu).ne e.symm).elim
      · exact k

end Go.Proofs.YtdbgjgeglgipiaaGreat
