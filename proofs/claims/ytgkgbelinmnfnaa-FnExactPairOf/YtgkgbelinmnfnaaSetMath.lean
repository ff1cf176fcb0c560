/-
  The mathematics of the sets: what the program puts together out of bits and other numbers is what the model puts in one by one. Conditions: none; plain lists of ints.
-/
import Derived.Test.YtgkgbelinmnfnaaCombine
namespace Go.Proofs.Ytgkgbelinmnfnaa

theorem mem_put {L : List Int} {x y : Int} : y ∈ put L x ↔ y = x ∨ y ∈ L := by
  have e := List.takeWhile_append_dropWhile (p := fun y => decide (y < x)) (l := L)
  simp only [put]
  split
  · rename_i h
    constructor
    · exact Or.inr
    · rintro (rfl | h2)
      · rw [← e]
        exact List.mem_append.2 (Or.inr (List.mem_of_mem_head? (by rw [h]; rfl)))
      · exact h2
  · rw [List.mem_append, List.mem_cons]
    constructor
    · rintro (h | h | h)
      · right; rw [← e]; exact List.mem_append.2 (Or.inl h)
      · exact Or.inl h
      · right; rw [← e]; exact List.mem_append.2 (Or.inr h)
    · rintro (h | h)
      · exact Or.inr (Or.inl h)
      · rw [← e] at h
        rcases List.mem_append.1 h with h | h
        · exact Or.inl h
        · exact Or.inr (Or.inr h)

theorem drop_ge {L : List Int} {x : Int} (h : L.Pairwise (· < ·)) : ∀ y ∈ L.dropWhile (fun y => decide (y < x)), x ≤ y := by
  induction L with
  | nil => simp
  | cons z zs ih =>
    intro y hy
    by_cases hz : z < x
    · rw [List.dropWhile_cons_of_pos (by simpa using hz)] at hy
      exact ih (List.pairwise_cons.1 h).2 y hy
    · rw [List.dropWhile_cons_of_neg (by simpa using hz)] at hy
      rcases List.mem_cons.1 hy with rfl | hy
      · omega
      · have := (List.pairwise_cons.1 h).1 y hy; omega

theorem take_lt {L : List Int} {x : Int} : ∀ y ∈ L.takeWhile (fun y => decide (y < x)), y < x := by
  induction L with
  | nil => simp
  | cons z zs ih =>
    intro y hy
    by_cases hz : z < x
    · rw [List.takeWhile_cons_of_pos (by simpa using hz)] at hy
      rcases List.mem_cons.1 hy with rfl | hy
      · exact hz
      · exact ih y hy
    · rw [List.takeWhile_cons_of_neg (by simpa using hz)] at hy
      cases hy

theorem put_rises {L : List Int} {x : Int} (h : L.Pairwise (· < ·)) : (put L x).Pairwise (· < ·) := by
  have e := List.takeWhile_append_dropWhile (p := fun y => decide (y < x)) (l := L)
  have hd := drop_ge (x := x) h
  have ht : ∀ y ∈ L.takeWhile (fun y => decide (y < x)), y < x := take_lt
  simp only [put]
  split
  · exact h
  · rename_i hh
    have h' := h
    rw [← e] at h'
    obtain ⟨p1, p2, p3⟩ := List.pairwise_append.1 h'
    have hgt : ∀ y ∈ L.dropWhile (fun y => decide (y < x)), x < y := by
      intro y hy
      have h1 := hd y hy
      by_cases e2 : x = y
      · subst e2
        exfalso
        cases hdr : L.dropWhile (fun y => decide (y < x)) with
        | nil => rw [hdr] at hy; cases hy
        | cons z zs =>
          rw [hdr] at hh hy p2 hd
          have hz : z ≠ x := fun e => hh (by rw [e]; rfl)
          rcases List.mem_cons.1 hy with e3 | hy2
          · exact hz e3.symm
          · have a1 := (List.pairwise_cons.1 p2).1 x hy2
            have a2 := hd z (List.mem_cons_self ..)
            omega
      · omega
    refine List.pairwise_append.2 ⟨p1, List.pairwise_cons.2 ⟨hgt, p2⟩, fun a ha b hb => ?_⟩
    rcases List.mem_cons.1 hb with rfl | hb
    · exact ht a ha
    · exact p3 a ha b hb

theorem mem_putAll {L xs : List Int} {y : Int} : y ∈ putAll L xs ↔ y ∈ L ∨ y ∈ xs := by
  induction xs generalizing L with
  | nil => simp [putAll]
  | cons x xs ih =>
    show y ∈ putAll (put L x) xs ↔ _
    rw [ih, mem_put, List.mem_cons]
    constructor
    · rintro ((h | h) | h)
      · exact Or.inr (Or.inl h)
      · exact Or.inl h
      · exact Or.inr (Or.inr h)
    · rintro (h | h | h)
      · exact Or.inl (Or.inr h)
      · exact Or.inl (Or.inl h)
      · exact Or.inr h

theorem putAll_rises {L xs : List Int} (h : L.Pairwise (· < ·)) : (putAll L xs).Pairwise (· < ·) := by
  induction xs generalizing L with
  | nil => exact h
  | cons x xs ih => exact ih (put_rises h)

theorem parted0 {L : List Int} (h : L.Pairwise (· < ·)) : (∀ y ∈ L.take (L.countP (· < 0)), y < 0) ∧ (∀ y ∈ L.drop (L.countP (· < 0)), 0 ≤ y) := by
  induction L with
  | nil => simp
  | cons z zs ih =>
    obtain ⟨h1, h2⟩ := List.pairwise_cons.1 h
    by_cases hz : z < 0
    · rw [List.countP_cons_of_pos (by simpa using hz)]
      obtain ⟨i1, i2⟩ := ih h2
      refine ⟨fun y hy => ?_, fun y hy => ?_⟩
      · rw [List.take_succ_cons] at hy
        rcases List.mem_cons.1 hy with rfl | hy
        · exact hz
        · exact i1 y hy
      · rw [List.drop_succ_cons] at hy
        exact i2 y hy
    · have e : (z :: zs).countP (· < 0) = 0 := by
        rw [List.countP_eq_zero]
        intro a ha
        rcases List.mem_cons.1 ha with rfl | ha
        · simpa using hz
        · have := h1 a ha; simp; omega
      rw [e]
      refine ⟨by simp, fun y hy => ?_⟩
      rw [List.drop_zero] at hy
      rcases List.mem_cons.1 hy with rfl | hy
      · omega
      · have := h1 y hy; omega

theorem mem_acts {p : Nat → Bool} {k : Nat} {y : Int} : y ∈ acts p k ↔ ∃ i : Nat, i < k ∧ p i = true ∧ y = (i : Int) := by
  simp only [acts, List.mem_map, List.mem_filter, List.mem_range]
  constructor
  · rintro ⟨i, ⟨h1, h2⟩, rfl⟩; exact ⟨i, h1, h2, rfl⟩
  · rintro ⟨i, h1, h2, rfl⟩; exact ⟨i, ⟨h1, h2⟩, rfl⟩

theorem acts_rises (p : Nat → Bool) (k : Nat) : (acts p k).Pairwise (· < ·) := by
  unfold acts
  rw [List.pairwise_map]
  exact ((List.pairwise_lt_range (n := k)).filter p).imp (fun h => by omega)

theorem mem_together {p : Nat → Bool} {L : List Int} {y : Int} : y ∈ together p L ↔ y ∈ L ∨ y ∈ acts p 12 := by
  unfold together
  rw [List.mem_append, List.mem_append]
  have e := List.take_append_drop (L.countP (· < 0)) L
  constructor
  · rintro ((h | h) | h)
    · exact Or.inl (List.mem_of_mem_take h)
    · exact Or.inr h
    · exact Or.inl (List.mem_of_mem_drop h)
  · rintro (h | h)
    · rw [← e] at h
      rcases List.mem_append.1 h with h | h
      · exact Or.inl (Or.inl h)
      · exact Or.inr h
    · exact Or.inl (Or.inr h)

theorem together_rises {p : Nat → Bool} {L : List Int} (h : L.Pairwise (· < ·)) (hno : ∀ y ∈ L, btw y 0 11 = false) : (together p L).Pairwise (· < ·) := by
  obtain ⟨h1, h2⟩ := parted0 h
  have h' := h
  rw [← List.take_append_drop (L.countP (· < 0)) L] at h'
  obtain ⟨p1, p2, p3⟩ := List.pairwise_append.1 h'
  unfold together
  refine List.pairwise_append.2 ⟨List.pairwise_append.2 ⟨p1, acts_rises _ _, fun a ha b hb => ?_⟩, p2, fun a ha b hb => ?_⟩
  · obtain ⟨i, _, _, rfl⟩ := mem_acts.1 hb
    have := h1 a ha; omega
  · rcases List.mem_append.1 ha with ha | ha
    · exact p3 a ha b hb
    · obtain ⟨i, hi, _, rfl⟩ := mem_acts.1 ha
      have a1 := h2 b hb
      have a2 := hno b (List.mem_of_mem_drop hb)
      simp [btw] at a2
      omega

theorem mem_risOthers {xs : List Int} {y : Int} : y ∈ ris (others xs) ↔ y ∈ xs ∧ btw y 0 11 = false := by
  rw [mem_ris]; simp [others]

theorem combOthers_rises (op : Nat) {A B : List Int} (hA : A.Pairwise (· < ·)) : (combOthers op A B).Pairwise (· < ·) := by
  unfold combOthers
  split
  · exact ris_lt _
  · exact hA.filter _

theorem mem_combOthers {op : Nat} {A B : List Int} {y : Int} : y ∈ combOthers op A B ↔ comb op (hasB A y) (hasB B y) = true := by
  unfold combOthers
  split
  · rename_i h; subst h
    rw [mem_ris]; simp [comb, hasB]
  · rename_i h
    rw [List.mem_filter]
    unfold comb hasB
    rw [if_neg h, if_neg h]
    split
    · simp
    · simp

theorem comb_false (op : Nat) : comb op false false = false := by unfold comb; split <;> (try split) <;> rfl

theorem mem_setOf {op : Nat} {xs ys : List Int} {y : Int} : y ∈ together (fun i => comb op (maskOf xs i) (maskOf ys i)) (combOthers op (ris (others xs)) (ris (others ys))) ↔ comb op (hasB xs y) (hasB ys y) = true := by
  rw [mem_together, mem_combOthers, mem_acts]
  by_cases hb : btw y 0 11 = true
  · have hA : hasB (ris (others xs)) y = false := has_no (fun h => by have := (mem_risOthers.1 h).2; rw [hb] at this; cases this)
    have hB : hasB (ris (others ys)) y = false := has_no (fun h => by have := (mem_risOthers.1 h).2; rw [hb] at this; cases this)
    rw [hA, hB, comb_false]
    have hy : 0 ≤ y ∧ y ≤ 11 := by simpa [btw] using hb
    constructor
    · rintro (h | ⟨i, hi, h, rfl⟩)
      · cases h
      · simpa [maskOf, hi] using h
    · intro h
      refine Or.inr ⟨y.toNat, by omega, ?_, by omega⟩
      have e1 : ((y.toNat : Nat) : Int) = y := by omega
      have e2 : y.toNat < 12 := by omega
      simpa [maskOf, e1, e2] using h
  · have hbf : btw y 0 11 = false := by simpa using hb
    have hA : hasB (ris (others xs)) y = hasB xs y := by
      unfold hasB; simp [mem_risOthers, hbf]
    have hB : hasB (ris (others ys)) y = hasB ys y := by
      unfold hasB; simp [mem_risOthers, hbf]
    rw [hA, hB]
    constructor
    · rintro (h | ⟨i, hi, _, rfl⟩)
      · exact h
      · simp [btw] at hbf; omega
    · exact Or.inl

theorem setOf_rises (op : Nat) (xs ys : List Int) : (together (fun i => comb op (maskOf xs i) (maskOf ys i)) (combOthers op (ris (others xs)) (ris (others ys)))).Pairwise (· < ·) := by
  refine together_rises (combOthers_rises op (ris_lt _)) (fun y hy => ?_)
  rw [mem_combOthers] at hy
  by_cases h1 : y ∈ ris (others xs)
  · exact (mem_risOthers.1 h1).2
  · by_cases h2 : y ∈ ris (others ys)
    · exact (mem_risOthers.1 h2).2
    · rw [has_no h1, has_no h2, comb_false] at hy; cases hy

def setOf (op : Nat) (xs ys : List Int) : List Int := if op = 0 then joinOf xs ys else if op = 1 then meetOf xs ys else lessOf xs ys

theorem mem_joinOf {xs ys : List Int} {y : Int} : y ∈ joinOf xs ys ↔ y ∈ xs ∨ y ∈ ys := by
  unfold joinOf; rw [mem_putAll, mem_putAll]; simp
theorem mem_meetOf {xs ys : List Int} {y : Int} : y ∈ meetOf xs ys ↔ y ∈ xs ∧ y ∈ ys := by
  unfold meetOf; rw [mem_putAll]; simp
theorem mem_lessOf {xs ys : List Int} {y : Int} : y ∈ lessOf xs ys ↔ y ∈ xs ∧ ¬ y ∈ ys := by
  unfold lessOf; rw [mem_putAll]; simp

theorem setOf_eq (op : Nat) (xs ys : List Int) : together (fun i => comb op (maskOf xs i) (maskOf ys i)) (combOthers op (ris (others xs)) (ris (others ys))) = setOf op xs ys := by
  refine rise_eq (setOf_rises op xs ys) ?_ (fun y => ?_)
  · unfold setOf
    split
    · exact putAll_rises (putAll_rises List.Pairwise.nil)
    · split
      · exact putAll_rises List.Pairwise.nil
      · exact putAll_rises List.Pairwise.nil
  · rw [mem_setOf]
    unfold setOf comb
    split
    · rw [mem_joinOf]; simp [hasB]
    · split
      · rw [mem_meetOf]; simp [hasB]
      · rw [mem_lessOf]; simp [hasB]

theorem setOf_len (op : Nat) (A B : List Int) : (combOthers op A B).length ≤ A.length + B.length := by
  unfold combOthers
  split
  · exact Nat.le_trans (ris_len _) (by simp)
  · exact Nat.le_trans (List.length_filter_le _ _) (by omega)

theorem others_len (xs : List Int) : (ris (others xs)).length ≤ xs.length := Nat.le_trans (ris_len _) (List.length_filter_le _ _)

theorem less_nil {xs ys : List Int} : decide ((lessOf xs ys).length = 0) = inB xs ys := by
  rw [Bool.eq_iff_iff, decide_eq_true_iff, List.length_eq_zero_iff, List.eq_nil_iff_forall_not_mem]
  simp only [inB, List.all_eq_true, hasB, decide_eq_true_iff, mem_lessOf]
  constructor
  · intro h x hx
    exact Decidable.byContradiction fun hn => h x ⟨hx, hn⟩
  · rintro h x ⟨h1, h2⟩
    exact h2 (h x h1)

end Go.Proofs.Ytgkgbelinmnfnaa
