/-
  The contract of risen: a row of ints of the call's own is sorted and compacted in place. Conditions: the slice is a row of the call's own, of at most 2^40 elements.
-/
import Derived.Test.YtgkgbelinmnfnaaSpecSets
import Derived.Test.YtgkgbelinmnfnaaSetHas
namespace Go.Proofs.Ytgkgbelinmnfnaa
open Go.RowKit

/-- The numbers of a list, rising, each once. -/
def ris (xs : List Int) : List Int := Lib.compact (xs.mergeSort fun x y => decide (x ≤ y))

theorem sort_le (xs : List Int) : (xs.mergeSort fun x y => decide (x ≤ y)).Pairwise (· ≤ ·) := by
  have := List.pairwise_mergeSort (le := fun x y : Int => decide (x ≤ y)) (fun a b c h1 h2 => by simp at *; omega) (fun a b => by simp; omega) xs
  exact this.imp (fun h => by simpa using h)

theorem get_pair {d : List Int} (h : d.Pairwise (· ≤ ·)) {i j : Nat} (hij : i ≤ j) (hj : j < d.length) : d.toArray[i]! ≤ d.toArray[j]! := by
  have hi : i < d.length := by omega
  rw [getElem!_pos _ i (by simpa using hi), getElem!_pos _ j (by simpa using hj)]
  simp only [List.getElem_toArray]
  by_cases e : i = j
  · subst e; exact Int.le_refl _
  · exact List.pairwise_iff_getElem.1 h i j hi hj (by omega)

/-- Of what is kept up to place m all is less than what stands at any later place that is not its equal. -/
theorem compact_lt {d : List Int} (h : d.Pairwise (· ≤ ·)) : ∀ m, m ≤ d.length → (Lib.compactUpTo d.toArray m).Pairwise (· < ·) ∧ (∀ x ∈ Lib.compactUpTo d.toArray m, ∃ i, i < m ∧ x = d.toArray[i]!) ∧ (∀ i, i < m → d.toArray[i]! ∈ Lib.compactUpTo d.toArray m) := by
  intro m
  induction m with
  | zero => intro _; exact ⟨by simp [Lib.compactUpTo], by simp [Lib.compactUpTo], fun i hi => absurd hi (by omega)⟩
  | succ m ih =>
    intro hm
    obtain ⟨h1, h2, h3⟩ := ih (by omega)
    rw [Lib.compactUpTo_succ]
    by_cases hk : Lib.keeps d.toArray m = true
    · rw [if_pos hk]
      refine ⟨?_, ?_, ?_⟩
      · refine List.pairwise_append.2 ⟨h1, by simp, fun x hx y hy => ?_⟩
        obtain rfl := List.mem_singleton.1 hy
        obtain ⟨i, hi, rfl⟩ := h2 x hx
        have hne : d.toArray[m]! ≠ d.toArray[m - 1]! := by
          have := of_decide_eq_true hk
          rcases this with h0 | h0
          · omega
          · exact h0
        have a1 := get_pair h (show i ≤ m - 1 by omega) (by omega)
        have a2 := get_pair h (show m - 1 ≤ m by omega) (by omega)
        omega
      · intro x hx
        rcases List.mem_append.1 hx with hx | hx
        · obtain ⟨i, hi, e⟩ := h2 x hx; exact ⟨i, by omega, e⟩
        · exact ⟨m, by omega, List.mem_singleton.1 hx⟩
      · intro i hi
        by_cases e : i = m
        · subst e; simp
        · exact List.mem_append.2 (Or.inl (h3 i (by omega)))
    · rw [if_neg hk, List.append_nil]
      refine ⟨h1, fun x hx => ?_, fun i hi => ?_⟩
      · obtain ⟨i, hi, e⟩ := h2 x hx; exact ⟨i, by omega, e⟩
      · by_cases e : i = m
        · subst e
          have hno : ¬ (i = 0 ∨ d.toArray[i]! ≠ d.toArray[i - 1]!) := fun hh => hk (decide_eq_true hh)
          have h0 : i ≠ 0 := fun e => hno (Or.inl e)
          have he : d.toArray[i]! = d.toArray[i - 1]! := Decidable.byContradiction fun hh => hno (Or.inr hh)
          rw [he]; exact h3 (i - 1) (by omega)
        · exact h3 i (by omega)

theorem ris_lt (xs : List Int) : (ris xs).Pairwise (· < ·) := (compact_lt (sort_le xs) _ (Nat.le_refl _)).1

theorem mem_ris (xs : List Int) (x : Int) : x ∈ ris xs ↔ x ∈ xs := by
  have hp : ∀ x, x ∈ xs.mergeSort (fun x y => decide (x ≤ y)) ↔ x ∈ xs := fun x => (List.mergeSort_perm xs _).mem_iff
  obtain ⟨_, h2, h3⟩ := compact_lt (sort_le xs) _ (Nat.le_refl _)
  constructor
  · intro h
    obtain ⟨i, hi, e⟩ := h2 x h
    rw [getElem!_pos _ i (by simpa using hi)] at e
    rw [← hp, e]
    simp
  · intro h
    obtain ⟨i, hi, e⟩ := List.getElem_of_mem ((hp x).2 h)
    have := h3 i hi
    rw [getElem!_pos _ i (by simpa using hi)] at this
    simp only [List.getElem_toArray] at this
    rw [← e]; exact this

theorem ris_len (xs : List Int) : (ris xs).length ≤ xs.length := by
  have : (ris xs).length ≤ (xs.mergeSort fun x y => decide (x ≤ y)).length := by
    unfold ris Lib.compact Lib.compactUpTo
    rw [List.length_map]
    exact Nat.le_trans (List.length_filter_le _ _) (by simp)
  simpa using this

/-- Two rising lists with the same numbers are the same. -/
theorem rise_eq : ∀ {xs ys : List Int}, xs.Pairwise (· < ·) → ys.Pairwise (· < ·) → (∀ x, x ∈ xs ↔ x ∈ ys) → xs = ys := by
  intro xs ys hx hy h
  exact List.Perm.eq_of_pairwise (le := (· < ·)) (fun a b _ _ h1 h2 => by omega) hx hy
    ((List.perm_ext_iff_of_nodup (hx.imp (fun h => by omega)) (hy.imp (fun h => by omega))).2 h)

theorem Owns.holds {w : World} {base g n c : Nat} {xs : List Int} (h : Owns w base (.slice (some ⟨g, 0, none⟩) n c) n xs) : Sort.Holds (Value.int .i64) w g 0 xs.toArray := by
  have hl := h.length
  intro j hj
  have hj' : j < xs.length := by simpa using hj
  refine ⟨?_, by rw [Nat.zero_add]; exact World.ownsRow.frozenAt h j⟩
  rw [Nat.zero_add, h.cells.2 j (by omega), getElem!_pos _ j hj]
  simp [hj']

theorem owns_putRow {w : World} {base g n c q : Nat} {xs d : List Int} {os : Array Obj} (h : Owns w base (.slice (some ⟨g, 0, none⟩) n c) n xs) (hd : d.length = n) :
    Owns (Sort.grow (Sort.putRow (Value.int .i64) (Sort.ahead w q) g 0 d.toArray) os) base (.slice (some ⟨g, 0, none⟩) n c) n d ∧ w.grownBy (Sort.grow (Sort.putRow (Value.int .i64) (Sort.ahead w q) g 0 d.toArray) os) (some g) := by
  have hlt := (h.lt g rfl).2
  refine ⟨⟨by simpa using hd, ?_⟩, ⟨rfl, rfl, rfl, ?_, fun k hk hne => ?_⟩⟩
  · rcases h.2 with ⟨hv, _⟩ | ⟨g', cap, cur, hv, hb, hg, hnc, hcm, hcs, ht⟩
    · simp at hv
    · simp at hv
      obtain ⟨rfl, rfl⟩ := hv
      refine Or.inr ⟨g, c, Sort.putCells (Value.int .i64) 0 d.toArray cur, rfl, hb, ?_, hnc, hcm, by simpa [Sort.putCells] using hcs, ?_⟩
      · rw [Sort.heap_grow_old _ _ (by simpa using hlt)]
        simp [Sort.putRow, Sort.mapBlock, Array.getElem?_modify, Sort.onCells, hg]
      · apply List.ext_getElem?
        intro j
        simp only [Nat.mul_one, List.getElem?_take, Sort.putCells, Array.getElem?_toList, Array.getElem?_mapIdx, List.getElem?_map]
        by_cases hj : j < n
        · have hjc : j < cur.size := by omega
          rw [if_pos hj, Array.getElem?_eq_getElem hjc]
          simp only [Option.map_some, Nat.zero_le, true_and, Nat.zero_add, Nat.sub_zero, List.size_toArray]
          rw [if_pos (by omega), getElem!_pos _ j (by simp; omega), List.getElem?_eq_getElem (by omega)]
          simp
        · rw [if_neg hj, List.getElem?_eq_none (by omega)]; rfl
  · simp
  · rw [Sort.heap_grow_old _ _ (by simpa using hk)]
    have : g ≠ k := fun e => hne (by rw [e])
    simp [Sort.putRow, Sort.mapBlock, Array.getElem?_modify, this]

theorem Owns.cut {w : World} {base g n c m : Nat} {xs ys : List Int} (h : Owns w base (.slice (some ⟨g, 0, none⟩) n c) n (xs ++ ys)) (hm : xs.length = m) : Owns w base (.slice (some ⟨g, 0, none⟩) m c) m xs := by
  have hl := h.length
  refine ⟨by simpa using hm, ?_⟩
  rcases h.2 with ⟨hv, _⟩ | ⟨g', cap, cur, hv, hb, hg, hnc, hcm, hcs, ht⟩
  · simp at hv
  · simp at hv
    obtain ⟨rfl, rfl⟩ := hv
    refine Or.inr ⟨g, c, cur, rfl, hb, hg, by simp at hl; omega, hcm, hcs, ?_⟩
    have := congrArg (List.take m) ht
    rw [List.take_take] at this
    simp only [Nat.mul_one] at this ⊢
    rw [Nat.min_eq_left (by simp at hl; omega)] at this
    rw [this, List.map_append, List.take_append_of_le_length (by simp; omega), List.take_of_length_le (by simp; omega)]

theorem ris_nil : ris [] = [] := by simp [ris, Lib.compact, Lib.compactUpTo]

theorem sort_at (g n c base : Nat) (xs : List Int) (w : World) (h : Owns w base (.slice (some ⟨g, 0, none⟩) n c) n xs) (hn : n ≤ 1099511627776) :
    Calls Try.prog 80 #[.slice (some ⟨g, 0, none⟩) n c] w fun e w' => e = .returned (.tuple #[]) ∧ Owns w' base (.slice (some ⟨g, 0, none⟩) n c) n (xs.mergeSort fun x y => decide (x ≤ y)) ∧ w.grownBy w' (some g) := by
  have hl := h.length
  subst hl
  refine (Try.slices_Sort_int g 0 c xs w h.holds (h.lt g rfl).2 (by omega)).mono ?_
  rintro e w1 ⟨rfl, q, os, rfl⟩
  exact ⟨rfl, owns_putRow h (List.length_mergeSort _)⟩

theorem compact_at (g n c base : Nat) (d : List Int) (w : World) (h : Owns w base (.slice (some ⟨g, 0, none⟩) n c) n d) (hn : n ≤ 1099511627776) :
    Calls Try.prog 70 #[.slice (some ⟨g, 0, none⟩) n c] w fun e w' => ∃ m, m = (Lib.compact d).length ∧ e = .returned (.slice (some ⟨g, 0, none⟩) m c) ∧ Owns w' base (.slice (some ⟨g, 0, none⟩) m c) m (Lib.compact d) ∧ w.grownBy w' (some g) := by
  have hl := h.length
  subst hl
  refine (Try.slices_Compact_int g 0 c d w h.holds (by omega) h.row.2.1).mono ?_
  rintro e w2 ⟨rfl, q2, rfl⟩
  have hcl : (Lib.compact d).length ≤ d.length := Lib.compact_length_le d
  have h2 := owns_putRow (q := q2) (os := #[]) (d := Lib.compact d ++ List.replicate (d.length - (Lib.compact d).length) 0) h (by simp; omega)
  rw [Sort.grow_empty] at h2
  exact ⟨_, rfl, rfl, h2.1.cut rfl, h2.2⟩

/-- What risen leaves. -/
def RisRes (w : World) (base : Nat) (v : Value) (xs : List Int) (e : Ending) (w' : World) : Prop :=
  ∃ v', e = .returned v' ∧ Owns w' base v' xs.length xs ∧ w.grownBy w' v.ownBlock ∧ (v' = .slice none 0 0 ∨ v'.ownBlock = v.ownBlock)

set_option maxRecDepth 20000 in
set_option maxHeartbeats 1600000 in
theorem risen_any (v : Value) (n base : Nat) (xs : List Int) (w : World) (h : Owns w base v n xs) (hn : n ≤ 1099511627776) :
    Calls Try.prog 74 #[v] w (RisRes w base v (ris xs)) := by
  have hl := h.length
  by_cases h0 : n = 0
  · subst h0
    obtain rfl : xs = [] := List.length_eq_zero_iff.1 hl
    obtain ⟨a, c, rfl⟩ := h.form
    have HO := Lib.hid h
    clear h hl
    go_enter Try.func74, Try.ntmps74
    go_wp2_with fail
    refine (Try.slices_Sort_int_none _ _ _).mono ?_
    rintro e w' ⟨rfl, rfl⟩
    go_wp2_with fail
    refine (Try.slices_Compact_int_empty _ _ _).mono ?_
    rintro e w' ⟨rfl, rfl⟩
    go_wp2_with fail
    go_ret
    rw [ris_nil]
    exact ⟨_, rfl, HO.out, ⟨rfl, rfl, rfl, Nat.le_refl _, fun _ _ _ => rfl⟩, Or.inr rfl⟩
  · have hv : ¬ v = .slice none 0 0 := by
      rintro rfl
      rcases h.2 with ⟨_, e⟩ | ⟨_, _, _, e, _⟩
      · exact h0 e
      · cases e
    obtain ⟨g, c, rfl⟩ := h.head hv
    have hnc := h.row.2.1
    have HO := Lib.hid h
    have HL := Lib.hid hl
    clear h hv hl
    go_enter Try.func74, Try.ntmps74
    go_wp2_with fail
    refine (sort_at g n c base xs _ HO.out (by omega)).mono ?_
    rintro e w1 ⟨rfl, ho1, hg1⟩
    have H1 := Lib.hid ho1
    clear ho1
    go_wp2_with fail
    refine (compact_at g n c base _ _ H1.out (by omega)).mono ?_
    rintro e w2 ⟨m, hm, rfl, ho2, hg2⟩
    have H2 := Lib.hid ho2
    have HM := Lib.hid hm
    clear ho2 hm
    go_wp2_with fail
    go_ret
    have e := HM.out
    subst e
    exact ⟨_, rfl, H2.out, grownBy_trans hg1 hg2, Or.inr rfl⟩

end Go.Proofs.Ytgkgbelinmnfnaa
