import Derived.Test.YtfhjhfhfbgddeaaGreatDoorSpecSets
import Derived.Test.YtfhjhfhfbgddeaaGreatDoorSetHas
/-
  The contract of risen: a row of ints of the call's own is sorted and compacted in place. Conditions: the slice is a row of the call's own, of at most 2^40 elements.
-/
namespace Go.Proofs.YtfhjhfhfbgddeaaGreatDoor
open Go.RowKit

/-- The numbers of a list, rising, each once. -/
def ris (xs : List Int) : List Int := Lib.compact (xs.mergeSort fun x y => decide (x ≤ y))

theorem sort_le (xs : List Int) : (xs.mergeSort fun x y => decide (x ≤ y)).Pairwise (· ≤ ·) := by
  have := List.pairwise_mergeSort (le := fun x y : Int => decide (x ≤ y)) (fun a b c h1 h2 => by simp at *; omega) (fun a b => by simp; omega) xs
  exact this.imp (fun h => by simpa using h)

theorem get_pair {d : List Int} (h : d.Pairwise (· ≤ ·)) {i j : Nat} (hij : i ≤ j) (hj : j < d.length) : d.toArray[i]! ≤ d.toArray[j]! := by
  have hi : i < d.length := by omega
  rw [getElem!_pos _ i (by simpa using hi), getElem!_pos _ j (by simpa using hj)]
  simp only [List.getElem_toArray]
  by_cases e : i = j
  · subst e; exact Int.le_refl _
  · exact List.pairwise_iff_getElem.1 h i j hi hj (by omega)

/-- Of what is kept up to place m all is less than what stands at any later place that is not its equal. -/
theorem compact_lt {d : List Int} (h : d.Pairwise (· ≤ ·)) : ∀ m, m ≤ d.length → (Lib.compactUpTo d.toArray m).Pairwise (· < ·) ∧ (∀ x ∈ Lib.compactUpTo d.toArray m, ∃ i, i < m ∧ x = d.toArray[i]!) ∧ (∀ i, i < m → d.toArray[i]! ∈ Lib.compactUpTo d.toArray m) := by
  intro m
  induction m with
  | zero => intro _; exact ⟨by simp [Lib.compactUpTo], by simp [Lib.compactUpTo], fun i hi => absurd hi (by omega)⟩
  | succ m ih =>
    intro hm
    obtain ⟨h1, h2, h3⟩ := ih (by omega)
    rw [Lib.compactUpTo_succ]
    by_cases hk : Lib.keeps d.toArray m = true
    · rw [if_pos hk]
      refine ⟨?_, ?_, ?_⟩
      · refine List.pairwise_append.2 ⟨h1, by simp, fun x hx y hy => ?_⟩
        obtain rfl := List.mem_singleton.1 hy
        obtain ⟨i, hi, rfl⟩ := h2 x hx
        have hne : d.toArray[m]! ≠ d.toArray[m - 1]! := by
          have := of_decide_eq_true hk
          rcases this with h0 | h0
          · omega
          · exact h0
        have a1 := get_pair h (show i ≤ m - 1 by omega) (by omega)
        have a2 := get_pair h (show m - 1 ≤ m by omega) (by omega)
        omega
      · intro x hx
        rcases List.mem_append.1 hx with hx | hx
        · obtain ⟨i, hi, e⟩ := h2 x hx; exact ⟨i, by omega, e⟩
        · exact ⟨m, by omega, List.mem_singleton.1 hx⟩
      · intro i hi
        by_cases e : i = m
        · subst e; simp
        · exact List.mem_append.2 (Or.inl (h3 i (by omega)))
    · rw [if_neg hk, List.append_nil]
      refine ⟨h1, fun x hx => ?_, fun i hi => ?_⟩
      · obtain ⟨i, hi, e⟩ := h2 x hx; exact ⟨i, by omega, e⟩
      · by_cases e : i = m
        · subst e
          have hno : ¬ (i = 0 ∨ d.toArray[i]! ≠ d.toArray[i - 1]!) := fun hh => hk (decide_eq_true hh)
          have h0 : i ≠ 0 := fun e => hno (Or.inl e)
          have he : d.toArray[i]! = d.toArray[i - 1]! := Decidable.byContradiction fun hh => hno (Or.inr hh)
          rw [he]; exact h3 (i - 1) (by omega)
        · exact h3 i (by omega)

theorem ris_lt (xs : List Int) : (ris xs).Pairwise (· < ·) := (compact_lt (sort_le xs) _ (Nat.le_refl _)).1

theorem mem_ris (xs : List Int) (x : Int) : x ∈ ris xs ↔ x ∈ xs := by
  have hp : ∀ x, x ∈ xs.mergeSort (fun x y => decide (x ≤ y)) ↔ x ∈ xs := fun x => (List.mergeSort_perm xs _).mem_iff
  obtain ⟨_, h2, h3⟩ := compact_lt (sort_le xs) _ (Nat.le_refl _)
  constructor
  · intro h
    obtain ⟨i, hi, e⟩ := h2 x h
    rw [getElem!_pos _ i (by simpa using hi)] at e
    rw [← hp, e]
    simp
  · intro h
    obtain ⟨i, hi, e⟩ := List.getElem_of_mem ((hp x).2 h)
    have := h3 i hi
    rw [getElem!_pos _ i (by simpa using hi)] at this
    simp only [List.getElem_toArray] at this
    rw [← e]; exact this

theorem ris_len (xs : List Int) : (ris xs).length ≤ xs.length := by
  have : (ris xs).length ≤ (xs.mergeSort fun x y => decide (x ≤ y)).length := by
    unfold ris Lib.compact Lib.compactUpTo
    rw [List.length_map]
    exact Nat.le_trans (List.length_filter_le _ _) (by simp)
  simpa using this

/-- Two rising lists with the same numbers are the same. -/
theorem rise_eq : ∀ {xs ys : List Int}, xs.Pairwise (· < ·) → ys.Pairwise (· < ·) → (∀ x, x ∈ xs ↔ x ∈ ys) → xs = ys := by
  intro xs ys hx hy h
  exact List.Perm.eq_of_pairwise (le := (· < ·)) (fun a b _ _ h1 h2 => by omega) hx hy
    ((List.perm_ext_iff_of_nodup (hx.imp (fun h => by omega)) (hy.imp (fun h => by omega))).2 h)

theorem Owns.holds {w : World} {base g n c : Nat} {xs : List Int} (h : Owns w base (.slice (some ⟨g, 0, none⟩) n c) n xs) : Sort.Holds (Value.int .i64) w g 0 xs.toArray := by
  have hl := h.length
  intro j hj
  have hj' : j < xs.length := by simpa using hj
  refine ⟨?_, by rw [Nat.zero_add]; exact World.ownsRow.frozenAt h j⟩
  rw [Nat.zero_add, h.cells.2 j (by omega), getElem!_pos _ j hj]
  simp [hj']

theorem owns_putRow {w : World} {base g n c q : Nat} {xs d : List Int} {os : Array Obj} (h : Owns w base (.slice (some ⟨g, 0, none⟩) n c) n xs) (hd : d.length = n) :
    Owns (Sort.grow (Sort.putRow (Value.int .i64) (Sort.ahead w q) g 0 d.toArray) os) base (.slice (some ⟨g, 0, none⟩) n c) n d ∧ w.grownBy (Sort.grow (Sort.putRow (Value.int .i64) (Sort.ahead w q) g 0 d.toArray) os) (some g) := by
  have hlt := (h.lt g rfl).2
  refine ⟨⟨by simpa using hd, ?_⟩, ⟨rfl, rfl, rfl, ?_, fun k hk hne => ?_⟩⟩
  · rcases h.2 with ⟨hv, _⟩ | ⟨g', cap, cur, hv, hb, hg, hnc, hcm, hcs, ht⟩
    · simp at hv
    · simp at hv
      obtain ⟨rfl, rfl⟩ := hv
      refine Or.inr ⟨g, c, Sort.putCells (Value.int .i64) 0 d.toArray cur, rfl, hb, ?_, hnc, hcm, by simpa [Sort.putCells] using hcs, ?_⟩
      · rw [Sort.heap_grow_old _ _ (by simpa using hlt)]
        simp [Sort.putRow, Sort.mapBlock, Array.getElem?_modify, Sort.onCells, hg]
      · apply List.ext_getElem?
        intro j
        simp only [Nat.mul_one, List.getElem?_take, Sort.putCells, Array.getElem?_toList, Array.getElem?_mapIdx, List.getElem?_map]
        by_cases hj : j < n
        · have hjc : j < cur.size := by omega
          rw [if_pos hj, Array.getElem?_eq_getElem hjc]
          simp only [Option.map_some, Nat.zero_le, true_and, Nat.zero_add, Nat.sub_zero, List.size_toArray]
          rw [if_pos (by omega), getElem!_pos _ j (by simp; omega), List.getElem?_eq_getElem (by omega)]
          simp
        · rw [if_neg hj, List.getElem?_eq_none (by omega)]; rfl
  · simp
  · rw [Sort.heap_grow_old _ _ (by simpa using hk)]
    have : g ≠ k := fun e => hne (by rw [e])
    simp [Sort.putRow, Sort.mapBlock, Array.getElem?_modify, this]

theorem Owns.cut {w : World} {base g n c m : Nat} {xs ys : List Int} (h : Owns w base (.slice (some ⟨g, 0, none⟩) n c) n (xs ++ ys)) (hm : xs.length = m) : Owns w base (.slice (some ⟨g, 0, none⟩) m c) m xs := by
  have hl := h.length
  refine ⟨by simpa using hm, ?_⟩
  rcases h.2 with ⟨hv, _⟩ | ⟨g', cap, cur, hv, hb, hg, hnc, hcm, hcs, ht⟩
  · simp at hv
  · simp at hv
    obtain ⟨rfl, rfl⟩ := hv
    refine Or.inr ⟨g, c, cur, rfl, hb, hg, by simp at hl; omega, hcm, hcs, ?_⟩
    have := congrArg (List.take m) ht
    rw [List.take_take] at this
    simp only [Nat.mul_one] at this ⊢
    rw [Nat.min_eq_left (by simp at hl; omega)] at this
    rw [this, List.map_append, List.take_append_of_le_length (by simp; omega), List.take_of_length_le (by simp; omega)]

theorem ris_nil : ris [] = [] := by simp [ris, Lib.compact, Lib.compactUpTo]

theorem sort_at (g n c base : Nat) (xs : List Int) (w : World) (h : Owns w base (.slice (some ⟨g, 0, none⟩) n c) n xs) (hn : n ≤ 1099511627776) :
    Calls Tryz.prog 102 #[.slice (some ⟨g, 0, none⟩) n c] w fun e w' => e = .returned (.tuple #[]) ∧ Owns w' base (.slice (some ⟨g, 0, none⟩) n c) n (xs.mergeSort fun x y => decide (x ≤ y)) ∧ w.grownBy w' (some g) := by
  have hl := h.length
  subst hl
  refine (Tryz.slices_Sort_int g 0 c xs w h.holds (h.lt g rfl).2 (by omega)).mono ?_
  rintro e w1 ⟨rfl, q, os, rfl⟩
  exact ⟨rfl, owns_putRow h (List.length_mergeSort _)⟩

theorem compact_at (g n c base : Nat) (d : List Int) (w : World) (h : Owns w base (.slice (some ⟨g, 0, none⟩) n c) n d) (hn : n ≤ 1099511627776) :
    Calls Tryz.prog 103 #[.slice (some ⟨g, 0, none⟩) n c] w fun e w' => ∃ m, m = (Lib.compact d).length ∧ e = .returned (.slice (some ⟨g, 0, none⟩) m c) ∧ Owns w' base (.slice (some ⟨g, 0, none⟩) m c) m (Lib.compact d) ∧ w.grownBy w' (some g) := by
  have hl := h.length
  subst hl
  refine (Tryz.slices_Compact_int g 0 c d w h.holds (by omega) h.row.2.1).mono ?_
  rintro e w2 ⟨rfl, q2, rfl⟩
  have hcl : (Lib.compact d).length ≤ d.length := Lib.compact_length_le d
  have h2 := owns_putRow (q := q2) (os := #[]) (d := Lib.compact d ++ List.replicate (d.length - (Lib.compact d).length) 0) h (by simp; omega)
  rw [Sort.grow_empty] at h2
  exact ⟨_, rfl, rfl, h2.1.cut rfl, h2.2⟩

/-- What risen leaves. -/
def RisRes (w : World) (base : Nat) (v : Value) (xs : List Int) (e : Ending) (w' : World) : Prop :=
  ∃ v', e = .returned v' ∧ Owns w' base v' xs.length xs ∧ w.grownBy w' v.ownBlock ∧ (v' = .slice none 0 0 ∨ v'.ownBlock = v.ownBlock)

set_option maxRecDepth 20000 in
set_option maxHeartbeats 1600000 in
theorem risen_any (v : Value) (n base : Nat) (xs : List Int) (w : World) (h : Owns w base v n xs) (hn : n ≤ 1099511627776) :
    Calls Tryz.prog 86 #[v] w (RisRes w base v (ris xs)) := by
  have hl := h.length
  by_cases h0 : n = 0
  · subst h0
    obtain rfl : xs = [] := List.length_eq_zero_iff.1 hl
    obtain ⟨a, c, rfl⟩ := h.form
    have HO := Lib.hid h
    clear h hl
    go_enter Tryz.func86, Tryz.ntmps86
    go_wp2_with fail
    refine (Tryz.slices_Sort_int_none _ _ _).mono ?_
    rintro e w' ⟨rfl, rfl⟩
    go_wp2_with fail
    refine (Tryz.slices_Compact_int_empty _ _ _).mono ?_
    rintro e w' ⟨rfl, rfl⟩
    go_wp2_with fail
    go_ret
    rw [ris_nil]
    exact ⟨_, rfl, HO.out, ⟨rfl, rfl, rfl, Nat.le_refl _, fun _ _ _ => rfl⟩, Or.inr rfl⟩
  · have hv : ¬ v = .slice none 0 0 := by
      rintro rfl
      rcases h.2 with ⟨_, e⟩ | ⟨_, _, _, e, _⟩
      · exact h0 e
      · cases e
    obtain ⟨g, c, rfl⟩ := h.head hv
    have hnc := h.row.2.1
    have HO := Lib.hid h
    have HL := Lib.hid hl
    clear h hv hl
    go_enter Tryz.func86, Tryz.ntmps86
    go_wp2_with fail
    refine (sort_at g n c base xs _ HO.out (by omega)).mono ?_
    rintro e w1 ⟨rfl, ho1, hg1⟩
    have H1 := Lib.hid ho1
    clear ho1
    go_wp2_with fail
    refine (compact_at g n c base _ _ H1.out (by omega)).mono ?_
    rintro e w2 ⟨m, hm, rfl, ho2, hg2⟩
    have H2 := Lib.hid ho2
    have HM := Lib.hid hm
    clear ho2 hm
    go_wp2_with fail
    go_ret
    have e := HM.out
    subst e
    exact ⟨_, rfl, H2.out, grownBy_trans hg1 hg2, Or.inr rfl⟩

end Go.Proofs.YtfhjhfhfbgddeaaGreatDoor

/-
  Sets of actions as bits: what a mask says, and the contracts of combineLetters, takeApart, combineOthers, putTogether. Conditions: the slices read as lists of ints of at most 2^21 elements.
-/
namespace Go.Proofs.YtfhjhfhfbgddeaaGreatDoor
open Go.RowKit

/-- The 16 bits of 'M' are 'p'. -/
def Mask (M : Int) (p : Nat → Bool) : Prop := ∃ b : BitVec 16, M = (b.toNat : Int) ∧ ∀ i, i < 16 → b.getLsbD i = p i

theorem wrap_u16 (b : BitVec 16) : IntKind.u16.wrap (b.toNat : Int) = (b.toNat : Int) := by
  have := b.isLt
  unfold IntKind.wrap
  simp only [IntKind.signed, IntKind.bits, Bool.false_and, Bool.false_eq_true, if_false]
  omega

theorem wrap_pow : ∀ k, k < 16 → IntKind.u16.wrap ((2 : Int) ^ k) = ((BitVec.twoPow 16 k).toNat : Int) := by decide

theorem mask_zero : Mask 0 (fun _ => false) := ⟨0#16, rfl, fun i _ => by simp⟩

theorem bits_or (b c : BitVec 16) : bits .or .u16 (b.toNat : Int) (c.toNat : Int) = ((b ||| c).toNat : Int) := by
  show IntKind.u16.wrap ((BitVec.ofInt 16 (b.toNat : Int) ||| BitVec.ofInt 16 (c.toNat : Int)).toNat : Int) = _
  rw [BitVec.ofInt_natCast, BitVec.ofInt_natCast, BitVec.ofNat_toNat, BitVec.ofNat_toNat, wrap_u16]
  simp
theorem bits_and (b c : BitVec 16) : bits .and .u16 (b.toNat : Int) (c.toNat : Int) = ((b &&& c).toNat : Int) := by
  show IntKind.u16.wrap ((BitVec.ofInt 16 (b.toNat : Int) &&& BitVec.ofInt 16 (c.toNat : Int)).toNat : Int) = _
  rw [BitVec.ofInt_natCast, BitVec.ofInt_natCast, BitVec.ofNat_toNat, BitVec.ofNat_toNat, wrap_u16]
  simp
theorem bits_andNot (b c : BitVec 16) : bits .andNot .u16 (b.toNat : Int) (c.toNat : Int) = ((b &&& ~~~c).toNat : Int) := by
  show IntKind.u16.wrap ((BitVec.ofInt 16 (b.toNat : Int) &&& ~~~(BitVec.ofInt 16 (c.toNat : Int))).toNat : Int) = _
  rw [BitVec.ofInt_natCast, BitVec.ofInt_natCast, BitVec.ofNat_toNat, BitVec.ofNat_toNat, wrap_u16]
  simp

theorem Mask.or {M N : Int} {p q : Nat → Bool} (h : Mask M p) (k : Mask N q) : Mask (bits .or .u16 M N) (fun i => p i || q i) := by
  obtain ⟨b, rfl, hb⟩ := h
  obtain ⟨c, rfl, hc⟩ := k
  exact ⟨b ||| c, bits_or b c, fun i hi => by rw [BitVec.getLsbD_or, hb i hi, hc i hi]⟩
theorem Mask.and {M N : Int} {p q : Nat → Bool} (h : Mask M p) (k : Mask N q) : Mask (bits .and .u16 M N) (fun i => p i && q i) := by
  obtain ⟨b, rfl, hb⟩ := h
  obtain ⟨c, rfl, hc⟩ := k
  exact ⟨b &&& c, bits_and b c, fun i hi => by rw [BitVec.getLsbD_and, hb i hi, hc i hi]⟩
theorem Mask.andNot {M N : Int} {p q : Nat → Bool} (h : Mask M p) (k : Mask N q) : Mask (bits .andNot .u16 M N) (fun i => p i && !q i) := by
  obtain ⟨b, rfl, hb⟩ := h
  obtain ⟨c, rfl, hc⟩ := k
  exact ⟨b &&& ~~~c, bits_andNot b c, fun i hi => by rw [BitVec.getLsbD_and, BitVec.getLsbD_not, hb i hi, hc i hi]; simp [hi]⟩
theorem Mask.pow {k : Nat} (hk : k < 16) : Mask (IntKind.u16.wrap ((2 : Int) ^ k)) (fun i => decide (i = k)) := by
  refine ⟨BitVec.twoPow 16 k, wrap_pow k hk, fun i hi => ?_⟩
  rw [BitVec.getLsbD_twoPow]
  by_cases e : i = k
  · subst e; simp [hi]
  · have : ¬ k = i := fun h => e h.symm
    simp [e, this]
theorem Mask.congr {M : Int} {p q : Nat → Bool} (h : Mask M p) (e : ∀ i, i < 16 → p i = q i) : Mask M q := by
  obtain ⟨b, hM, hb⟩ := h
  exact ⟨b, hM, fun i hi => (hb i hi).trans (e i hi)⟩
theorem Mask.test {M : Int} {p : Nat → Bool} (h : Mask M p) {k : Nat} (hk : k < 16) : (bits .and .u16 M (IntKind.u16.wrap ((2 : Int) ^ k)) != 0) = p k := by
  obtain ⟨b, rfl, hb⟩ := h
  rw [wrap_pow k hk, bits_and, BitVec.and_twoPow]
  rw [← hb k hk]
  by_cases e : b.getLsbD k = true
  · rw [if_pos e, e]
    have : (BitVec.twoPow 16 k).toNat ≠ 0 := by
      rw [BitVec.toNat_twoPow_of_lt hk]
      exact Nat.ne_of_gt (Nat.two_pow_pos k)
    exact bne_iff_ne.2 (by omega)
  · rw [if_neg e]
    simp at e
    simp [e]

def comb (op : Nat) (x y : Bool) : Bool := if op = 0 then x || y else if op = 1 then x && y else x && !y

/-- A mask comes back. -/
def MaskRes (w : World) (p : Nat → Bool) (e : Ending) (w' : World) : Prop := ∃ M, e = .returned (.int .u16 M) ∧ Mask M p ∧ w' = w

theorem combineLetters_any (op : Nat) (hop : op ≤ 2) (M N : Int) (p q : Nat → Bool) (h : Mask M p) (k : Mask N q) (w : World) :
    Calls Tryz.prog 77 #[.int .i64 op, .int .u16 M, .int .u16 N] w (MaskRes w fun i => comb op (p i) (q i)) := by
  have H := Lib.hid h
  have K := Lib.hid k
  clear h k
  match op, hop with
  | 0, _ =>
    go_enter Tryz.func77, Tryz.ntmps77
    go_wp2
    go_ret
    exact ⟨_, rfl, H.out.or K.out, rfl⟩
  | 1, _ =>
    go_enter Tryz.func77, Tryz.ntmps77
    go_wp2
    go_ret
    exact ⟨_, rfl, H.out.and K.out, rfl⟩
  | 2, _ =>
    go_enter Tryz.func77, Tryz.ntmps77
    go_wp2
    go_ret
    exact ⟨_, rfl, H.out.andNot K.out, rfl⟩

/-- The actions of a list as bits; its other numbers. -/
def maskOf (xs : List Int) (i : Nat) : Bool := decide (i < 12) && hasB xs (i : Int)
def others (xs : List Int) : List Int := xs.filter fun x => !btw x 0 11

theorem maskOf_act {xs : List Int} {k j : Nat} (hk : k < xs.length) (hj : j < 12) (hx : (j : Int) = xs.getD k 0) (i : Nat) : (maskOf (xs.take k) i || decide (i = j)) = maskOf (xs.take (k + 1)) i := by
  unfold maskOf hasB
  rw [List.take_succ_eq_append_getElem hk, ← getD_eq xs k hk, ← hx]
  by_cases e : i = j
  · subst e; simp [hj]
  · have : ¬ ((i : Int) = (j : Int)) := by omega
    simp [e, this]

theorem maskOf_other {xs : List Int} {k : Nat} {x : Int} (hk : k < xs.length) (hx : x = xs.getD k 0) (hb : btw x 0 11 = false) (i : Nat) : maskOf (xs.take k) i = maskOf (xs.take (k + 1)) i := by
  unfold maskOf hasB
  rw [List.take_succ_eq_append_getElem hk, ← getD_eq xs k hk, ← hx]
  by_cases e : i < 12
  · have : ¬ ((i : Int) = x) := by
      intro h; subst h
      simp [btw] at hb; omega
    simp [this]
  · simp [e]

theorem others_act {xs : List Int} {k : Nat} {x : Int} (hk : k < xs.length) (hx : x = xs.getD k 0) (hb : btw x 0 11 = true) : others (xs.take (k + 1)) = others (xs.take k) := by
  unfold others
  rw [filter_step _ hk, ← hx, hb]; simp
theorem others_other {xs : List Int} {k : Nat} {x : Int} (hk : k < xs.length) (hx : x = xs.getD k 0) (hb : btw x 0 11 = false) : others (xs.take (k + 1)) = others (xs.take k) ++ [x] := by
  unfold others
  rw [filter_step _ hk, ← hx, hb]; simp

/-- What takeApart hands back. -/
def ApartRes (w : World) (xs : List Int) (e : Ending) (w' : World) : Prop :=
  ∃ M v, e = .returned (.tuple #[.int .u16 M, v]) ∧ Mask M (maskOf xs) ∧ Owns w' w.heap.size v (ris (others xs)).length (ris (others xs)) ∧ Below w.heap.size w w'

set_option maxRecDepth 20000 in
set_option maxHeartbeats 1600000 in
theorem takeApart_any (a : Option Addr) (n c : Nat) (xs : List Int) (w : World) (h : Row w a n xs) (hn : n ≤ 2097152) :
    Calls Tryz.prog 75 #[.slice a n c] w (ApartRes w xs) := by
  obtain ⟨i0, hi, hz0, hz1, hz2⟩ := info_parts info_int
  obtain ⟨hl, hc⟩ := h
  have HL := Lib.hid hl
  have HC := Lib.hid hc
  clear hl hc
  go_enter Tryz.func75, Tryz.ntmps75
  go_wp2
  go_loopw [4, 5, 10] (fun lt ot i wr => ∃ (k len : Nat) (M : Int) (v : Value) (O : List Int), k ≤ n ∧ i = .int .i64 k ∧ lt = .int .u16 M ∧ ot = v ∧ Owns wr w.heap.size v len O ∧ Hid (O = others (xs.take k)) ∧ Hid (Mask M (maskOf (xs.take k))) ∧ len ≤ k ∧ Below w.heap.size w wr)
    (fun _ _ i _ => n - (intOf i).toNat)
  case atStart => exact ⟨0, 0, 0, .slice none 0 0, [], Nat.zero_le _, rfl, rfl, rfl, World.ownsRow_nil _ _ _ _, rfl, mask_zero.congr (fun i _ => by simp [maskOf, hasB]), Nat.le_refl _, Below.refl _ _⟩
  case round =>
    obtain ⟨k, len, M, v, O, hk, rfl, rfl, rfl, hown, HO, HM, hlen, hnx⟩ := hrel
    by_cases hlt : k < n
    · obtain ⟨b, off, rfl, hb, hcell⟩ := HC.out (by omega)
      obtain ⟨x, hx⟩ : ∃ x, x = xs.getD k 0 := ⟨_, rfl⟩
      have g1 : wr.cell? ⟨b, off + k, none⟩ = some (.int .i64 x) := by rw [hx]; exact (hnx.cell (p := ⟨b, off + k, none⟩) hb).trans (hcell k hlt)
      have HX := Lib.hid hx
      have HK : Hid (k < xs.length) := by unfold Hid; rw [HL.out]; exact hlt
      clear hx hcell
      by_cases hbt : btw x 0 11 = true
      · have hx2 : 0 ≤ x ∧ x ≤ 11 := by simpa [btw] using hbt
        obtain ⟨j, rfl⟩ : ∃ j : Nat, x = (j : Int) := ⟨x.toNat, by omega⟩
        have hj : j < 12 := by omega
        clear hx2
        go_wp2_with fail
        refine (isAction_any _ _).mono ?_
        rintro e w' ⟨rfl, rfl⟩
        go_wp2_with fail
        go_roundw
        case rel => exact ⟨k + 1, len, _, _, O, by omega, by go_num, rfl, rfl, hown, by unfold Hid; rw [others_act HK.out HX.out hbt]; exact HO.out, (HM.out.or (Mask.pow (by omega))).congr (fun i _ => maskOf_act HK.out hj HX.out i), by omega, hnx⟩
        case measure => simp [intOf]; omega
      · have hbf : btw x 0 11 = false := by simpa using hbt
        clear hbt
        have T1 := hown.alloc (.cells #[.int .i64 x] 3)
        have S1 : Src (wr.alloc (.cells #[.int .i64 x] 3)) (some ⟨wr.heap.size, 0, none⟩) 1 1 [x] := src_one (by simp)
        go_wp2_with fail
        refine (isAction_any _ _).mono ?_
        rintro e w' ⟨rfl, rfl⟩
        go_wp2_with (at_builtin; refine wpList_app rfl (.tmp 20) (.tmp 22) rfl w.heap.size i0 Tryz.underlying24 hi hz0 hz1 hz2 _ _ _ rfl T1 _ 1 _ [x] rfl S1 (by omega) (by have := hnx.size; simp; omega) ?_)
        rintro v2 w2 ⟨hown2, hgrow2, _⟩
        have hb2 : Below w.heap.size w w2 := T1.grown (hnx.alloc hnx.size _) hgrow2 (Nat.le_refl _) (by have := hnx.size; simp; omega)
        clear T1 S1 hgrow2 hown
        go_wp2_with fail
        go_roundw
        case rel => exact ⟨k + 1, len + 1, M, v2, O ++ [x], by omega, by go_num, rfl, rfl, hown2, by unfold Hid; rw [others_other HK.out HX.out hbf, HO.out], HM.out.congr (fun i _ => maskOf_other HK.out HX.out hbf i), by omega, hb2⟩
        case measure => simp [intOf]; omega
    · have HO1 : Hid (O = others xs) := by
        have := HO.out
        rw [List.take_of_length_le (by rw [HL.out]; omega)] at this
        exact this
      have HM1 : Hid (Mask M (maskOf xs)) := by
        have := HM.out
        rw [List.take_of_length_le (by rw [HL.out]; omega)] at this
        exact this
      go_wp2_with fail
      refine (risen_any _ len w.heap.size O _ hown (by omega)).mono ?_
      rintro e w1 ⟨v1, rfl, hown1, hg1, _⟩
      have hb1 := hown.grown hnx hg1 (Nat.le_refl _) hnx.size
      clear hg1
      have H1 := Lib.hid hown1
      clear hown1
      go_wp2_with fail
      go_ret2
      have e := HO1.out
      subst e
      exact ⟨M, v1, rfl, HM1.out, H1.out, hb1⟩

end Go.Proofs.YtfhjhfhfbgddeaaGreatDoor

/-
  The contracts of slices.BinarySearch, slices.Clone and slices.Concat in the words of this seat, and of combineOthers and putTogether. Conditions: rows of ints of at most 2^22 elements; the one that is searched rises.
-/
namespace Go.Proofs.YtfhjhfhfbgddeaaGreatDoor
open Go.RowKit

theorem search_any (a : Option Addr) (n c : Nat) (x : Int) (xs : List Int) (w : World) (h : Row w a n xs) (hn : n ≤ 1099511627776) (hs : xs.Pairwise (· < ·)) :
    Calls Tryz.prog 87 #[.slice a n c, .int .i64 x] w fun e w' => e = .returned (.tuple #[.int .i64 ((xs.countP (· < x) : Nat) : Int), .bool (hasB xs x)]) ∧ Below w.heap.size w w' := by
  obtain ⟨hl, hc⟩ := h
  by_cases h0 : 0 < n
  · obtain ⟨b, off, rfl, hb, hcell⟩ := hc h0
    have ht : xs.take n = xs := List.take_of_length_le (by omega)
    refine (Tryz.slices_BinarySearch_int b off n c xs x w (by omega) (by omega) (fun j hj => hcell j (by omega)) (by rw [ht]; exact hs.imp (fun h => by omega))).mono ?_
    rintro e w' ⟨rfl, q, rfl⟩
    refine ⟨?_, below_drewN (Below.refl _ _) _⟩
    rw [ht]; simp [hasB]
  · obtain rfl : n = 0 := by omega
    obtain rfl : xs = [] := List.length_eq_zero_iff.1 hl
    refine (Tryz.slices_BinarySearch_int_empty a c x w).mono ?_
    rintro e w' ⟨rfl, rfl⟩
    exact ⟨rfl, Below.refl _ _⟩

/-- A row of ints comes back, nil perhaps. -/
def RowRes (w : World) (base : Nat) (xs : List Int) (e : Ending) (w' : World) : Prop :=
  ∃ v, e = .returned v ∧ Owns w' base v xs.length xs ∧ Below w.heap.size w w'

theorem clone_any (a : Option Addr) (n c : Nat) (xs : List Int) (w : World) (h : Row w a n xs) (hn : n ≤ 1099511627776) :
    Calls Tryz.prog 88 #[.slice a n c] w (RowRes w w.heap.size xs) := by
  obtain ⟨hl, hc⟩ := h
  by_cases h0 : 0 < n
  · obtain ⟨b, off, rfl, hb, hcell⟩ := hc h0
    have ht : xs.take n = xs := List.take_of_length_le (by omega)
    refine (Tryz.slices_Clone_int b off n c xs w (by omega) (by omega) (fun j hj => hcell j (by omega))).mono ?_
    rintro e w' ⟨v, rfl, ho, _, hb'⟩
    rw [ht] at ho
    subst hl
    exact ⟨v, rfl, ho, hb'⟩
  · obtain rfl : n = 0 := by omega
    obtain rfl : xs = [] := List.length_eq_zero_iff.1 hl
    cases a with
    | none =>
      refine (Tryz.slices_Clone_int_nil 0 c w).mono ?_
      rintro e w' ⟨rfl, rfl⟩
      exact ⟨_, rfl, World.ownsRow_nil _ _ _ _, Below.refl _ _⟩
    | some ad =>
      refine (Tryz.slices_Clone_int_zero ad c w).mono ?_
      rintro e w' ⟨v, rfl, ho, _, hb'⟩
      exact ⟨v, rfl, ho, hb'⟩

/-- The actions of a mask, rising. -/
def acts (p : Nat → Bool) (k : Nat) : List Int := ((List.range k).filter p).map (fun i : Nat => (i : Int))

theorem acts_yes {p : Nat → Bool} {k : Nat} (h : p k = true) : acts p (k + 1) = acts p k ++ [(k : Int)] := by
  simp [acts, List.range_succ, h]
theorem acts_no {p : Nat → Bool} {k : Nat} (h : p k = false) : acts p (k + 1) = acts p k := by
  simp [acts, List.range_succ, h]

def together (p : Nat → Bool) (L : List Int) : List Int := L.take (L.countP (· < 0)) ++ acts p 12 ++ L.drop (L.countP (· < 0))

theorem together_of {p : Nat → Bool} {L T : List Int} {m k : Nat} (hm : m = L.countP (· < 0)) (hk : ¬ k < 12) (hk2 : k ≤ 12) (hT : T = L.take m ++ acts p k) : T ++ L.drop m = together p L := by
  obtain rfl : k = 12 := by omega
  subst hT; subst hm; rfl

set_option maxRecDepth 20000 in
set_option maxHeartbeats 1600000 in
theorem putTogether_any (M : Int) (p : Nat → Bool) (v : Value) (n base : Nat) (L : List Int) (w : World) (hM : Mask M p) (h : Owns w base v n L) (hn : n ≤ 4194304) (hs : L.Pairwise (· < ·)) :
    Calls Tryz.prog 76 #[.int .u16 M, v] w (RowRes w w.heap.size (together p L)) := by
  obtain ⟨i0, hi, hz0, hz1, hz2⟩ := info_parts info_int
  have HM := Lib.hid hM
  have HL := Lib.hid h.length
  have HS := Lib.hid hs
  clear hM hs
  obtain ⟨m, hm⟩ : ∃ m, m = L.countP (· < 0) := ⟨_, rfl⟩
  have hmn : m ≤ n := by rw [hm, ← HL.out]; exact List.countP_le_length
  have HMM := Lib.hid hm
  by_cases hv : v = .slice none 0 0
  · subst hv
    obtain rfl : n = 0 := h.row.1.symm
    have e0 : L = [] := List.length_eq_zero_iff.1 HL.out
    subst e0
    have hr := h.row.2.2.2
    have HR := Lib.hid hr
    obtain rfl : m = 0 := by omega
    clear h hr hm
    go_enter Tryz.func76, Tryz.ntmps76
    go_wp2_with fail
    refine (Tryz.slices_BinarySearch_int_empty _ _ _ _).mono ?_
    rintro e w' ⟨rfl, rfl⟩
    go_wp2_with fail
    refine (Tryz.slices_Clone_int_nil _ _ _).mono ?_
    rintro e w' ⟨rfl, rfl⟩
    go_wp2_with fail
    go_loopw [7, 18] (fun v i wr => ∃ (k len : Nat) (v0 : Value) (T : List Int), k ≤ 12 ∧ i = .int .i64 k ∧ v = v0 ∧ Owns wr w'.heap.size v0 len T ∧ Hid (T = ([] : List Int).take 0 ++ acts p k) ∧ len ≤ k ∧ Below w'.heap.size w' wr) (fun _ i _ => 12 - (intOf i).toNat)
    case atStart => exact ⟨0, 0, _, [], by omega, rfl, rfl, World.ownsRow_nil _ _ _ _, rfl, Nat.le_refl _, Below.refl _ _⟩
    case round =>
      obtain ⟨k, len, v0, T, hk, rfl, rfl, hown, HT, hlen, hnx⟩ := hrel
      by_cases hlt : k < 12
      · have ht := HM.out.test (k := k) (by omega)
        by_cases hp : p k = true
        · rw [hp] at ht
          have T1 := hown.alloc (.cells #[.int .i64 (k : Int)] 3)
          have S1 : Src (wr.alloc (.cells #[.int .i64 (k : Int)] 3)) (some ⟨wr.heap.size, 0, none⟩) 1 1 [(k : Int)] := src_one (by simp)
          go_wp2_with (at_builtin; refine wpList_app rfl (.tmp 26) (.tmp 28) rfl w'.heap.size i0 Tryz.underlying24 hi hz0 hz1 hz2 _ _ _ rfl T1 _ 1 _ [(k : Int)] rfl S1 (by omega) (by have := hnx.size; simp; omega) ?_)
          rintro v2 w2 ⟨hown2, hgrow2, _⟩
          have hb2 : Below w'.heap.size w' w2 := T1.grown (hnx.alloc hnx.size _) hgrow2 (Nat.le_refl _) (by have := hnx.size; simp; omega)
          clear T1 S1 hgrow2 hown
          go_wp2_with fail
          go_roundw
          case rel => exact ⟨k + 1, len + 1, v2, T ++ [(k : Int)], by omega, by go_num, rfl, hown2, by unfold Hid; rw [acts_yes hp, ← List.append_assoc, ← HT.out], by omega, hb2⟩
          case measure => simp [intOf]; omega
        · have hp2 : p k = false := by simpa using hp
          rw [hp2] at ht
          clear hp
          go_wp2_with fail
          go_roundw
          case rel => exact ⟨k + 1, len, _, T, by omega, by go_num, rfl, hown, by unfold Hid; rw [acts_no hp2]; exact HT.out, by omega, hnx⟩
          case measure => simp [intOf]; omega
      · have HT2 : Hid (T ++ ([] : List Int) = together p []) := together_of (L := []) HMM.out hlt hk HT.out
        go_wp2_with (at_builtin; refine wpList_app rfl (.tmp 31) (.tmp 34) rfl w'.heap.size i0 Tryz.underlying24 hi hz0 hz1 hz2 _ _ _ rfl hown _ 0 _ [] rfl (Src.nil _) (by omega) hnx.size ?_)
        rintro v2 w2 ⟨hown2, hgrow2, _⟩
        have hb2 := hown.grown hnx hgrow2 (Nat.le_refl _) hnx.size
        have H2 := Lib.hid hown2
        clear hgrow2 hown hown2
        go_wp2_with fail
        go_ret
        have hh := H2.out
        have e := HT2.out
        rw [List.append_nil] at e
        simp only [List.append_nil] at hh
        rw [e] at hh
        have e2 := hh.length
        rw [← e2] at hh
        exact ⟨_, rfl, hh, hb2⟩
  · obtain ⟨g, c, rfl⟩ := h.head hv
    have hnc := h.row.2.1
    have hcm := h.row.2.2.1
    unfold maxLen at hcm
    have HR := Lib.hid h.row.2.2.2
    have HC := Lib.hid h.cells.2
    have hg := h.cells.1
    clear h hm hv
    go_enter Tryz.func76, Tryz.ntmps76
    go_wp2_with fail
    refine (search_any _ _ _ _ L _ HR.out (by omega) HS.out).mono ?_
    rintro e w1 ⟨rfl, hb1⟩
    rw [← HMM.out]
    have S1 := src_take (c := c) HC.out hg HL.out hmn hb1
    have R1 : Row w1 (some ⟨g, 0, none⟩) m (L.take m) := ⟨by simp; have := HL.out; omega, fun _ => ⟨g, 0, rfl, Nat.lt_of_lt_of_le hg hb1.size, fun j hj => by
      rw [hb1.cell (p := ⟨g, 0 + j, none⟩) hg, Nat.zero_add, HC.out j (by omega)]; simp [hj]⟩⟩
    have HR1 := Lib.hid R1
    clear S1 R1
    go_wp2_with fail
    refine (clone_any _ _ _ (L.take m) _ HR1.out (by omega)).mono ?_
    rintro e w2 ⟨v2, rfl, hown2, hb2⟩
    have hb12 : Below w.heap.size w w2 := hb1.trans (hb2.mono hb1.size)
    have e3 : (L.take m).length = m := by simp; have := HL.out; omega
    rw [e3] at hown2
    have hown3 := hown2.mono (base := w.heap.size) hb1.size
    clear hown2 hb2 e3
    go_wp2_with fail
    go_loopw [7, 18] (fun v i wr => ∃ (k len : Nat) (v0 : Value) (T : List Int), k ≤ 12 ∧ i = .int .i64 k ∧ v = v0 ∧ Owns wr w.heap.size v0 len T ∧ Hid (T = L.take m ++ acts p k) ∧ len ≤ n + k ∧ Below w.heap.size w wr) (fun _ i _ => 12 - (intOf i).toNat)
    case atStart => exact ⟨0, m, _, L.take m, by omega, rfl, rfl, hown3, by simp [Hid, acts], by omega, hb12⟩
    case round =>
      obtain ⟨k, len, v0, T, hk, rfl, rfl, hown, HT, hlen, hnx⟩ := hrel
      by_cases hlt : k < 12
      · have ht := HM.out.test (k := k) (by omega)
        by_cases hp : p k = true
        · rw [hp] at ht
          have T1 := hown.alloc (.cells #[.int .i64 (k : Int)] 3)
          have S1 : Src (wr.alloc (.cells #[.int .i64 (k : Int)] 3)) (some ⟨wr.heap.size, 0, none⟩) 1 1 [(k : Int)] := src_one (by simp)
          go_wp2_with (at_builtin; refine wpList_app rfl (.tmp 26) (.tmp 28) rfl w.heap.size i0 Tryz.underlying24 hi hz0 hz1 hz2 _ _ _ rfl T1 _ 1 _ [(k : Int)] rfl S1 (by omega) (by have := hnx.size; simp; omega) ?_)
          rintro v2 w2 ⟨hown2, hgrow2, _⟩
          have hb2 : Below w.heap.size w w2 := T1.grown (hnx.alloc hnx.size _) hgrow2 (Nat.le_refl _) (by have := hnx.size; simp; omega)
          clear T1 S1 hgrow2 hown
          go_wp2_with fail
          go_roundw
          case rel => exact ⟨k + 1, len + 1, v2, T ++ [(k : Int)], by omega, by go_num, rfl, hown2, by unfold Hid; rw [acts_yes hp, ← List.append_assoc, ← HT.out], by omega, hb2⟩
          case measure => simp [intOf]; omega
        · have hp2 : p k = false := by simpa using hp
          rw [hp2] at ht
          clear hp
          go_wp2_with fail
          go_roundw
          case rel => exact ⟨k + 1, len, _, T, by omega, by go_num, rfl, hown, by unfold Hid; rw [acts_no hp2]; exact HT.out, by omega, hnx⟩
          case measure => simp [intOf]; omega
      · have HT2 : Hid (T ++ L.drop m = together p L) := together_of HMM.out hlt hk HT.out
        go_wp2_with (at_builtin; refine wpList_app rfl (.tmp 31) (.tmp 34) rfl w.heap.size i0 Tryz.underlying24 hi hz0 hz1 hz2 _ _ _ rfl hown _ (n - m) _ (L.drop m) rfl (src_drop HC.out hg HL.out hnc hmn hnx (by intro h; first | rfl | simp [h]) (by first | exact ⟨_, rfl⟩ | (split <;> exact ⟨_, rfl⟩))) (by omega) hnx.size ?_)
        all_goals
          rintro v2 w2 ⟨hown2, hgrow2, _⟩
          have hb2 := hown.grown hnx hgrow2 (Nat.le_refl _) hnx.size
          have H2 := Lib.hid hown2
          clear hgrow2 hown hown2
          go_wp2_with fail
          go_ret
          have hh := H2.out
          rw [HT2.out] at hh
          have e2 := hh.length
          rw [← e2] at hh
          exact ⟨_, rfl, hh, hb2⟩

end Go.Proofs.YtfhjhfhfbgddeaaGreatDoor

/-
  The contracts of slices.Concat at two slices, and of combineOthers. Conditions: rows of ints of at most 2^21 elements; those that are searched rise.
-/
namespace Go.Proofs.YtfhjhfhfbgddeaaGreatDoor
open Go.RowKit

theorem Src.below {w w' : World} {ao : Option Addr} {m c : Nat} {ys : List Int} (h : Src w ao m c ys) (hb : Below w.heap.size w w') : Src w' ao m c ys := by
  refine ⟨h.1, h.2.1, fun ad had j u hu => ?_⟩
  have h1 := h.2.2 ad had j u hu
  rw [hb.cell (World.block_lt_of_cell? w _ h1)]
  exact h1

theorem Owns.src {w : World} {base : Nat} {a : Option Addr} {n c : Nat} {xs : List Int} (h : Owns w base (.slice a n c) n xs) : Src w a n c xs := by
  have hl := h.length
  rcases h.2 with ⟨hv, hn⟩ | ⟨g, cap, cur, hv, _⟩
  · simp at hv
    obtain ⟨rfl, rfl, rfl⟩ := hv
    obtain rfl : xs = [] := List.length_eq_zero_iff.1 hl
    exact Src.nil _
  · simp at hv
    obtain ⟨rfl, rfl⟩ := hv
    exact src_of hl (fun j hj => by rw [Nat.zero_add]; exact h.cells.2 j hj)

theorem grow_nil (N : Nat) (w : World) (hN : N ≤ 1099511627776) :
    Calls Tryz.prog 106 #[.slice none 0 0, .int .i64 N] w (RowRes w w.heap.size []) := by
  obtain ⟨i0, hi, hz0, hz1, hz2⟩ := info_parts info_int
  by_cases h0 : N = 0
  · subst h0
    refine (Any8.slices_Grow_room Tryz.laysGrow none 0 0 0 w (Nat.le_refl _) (by omega) (by omega) (by omega)).mono ?_
    rintro e w' ⟨rfl, rfl⟩
    exact ⟨_, rfl, World.ownsRow_nil _ _ _ _, Below.refl _ _⟩
  · refine (Any8.slices_Grow_grow Tryz.laysGrow i0 (.int .i64 0) hi hz0 (by omega) none 0 0 N [] w (Nat.le_refl _) (by omega) (by rw [hz2]; omega) (by omega) (by simp) (fun _ => rfl) (fun _ h => by cases h)).mono ?_
    rintro e w' ⟨rfl, rfl⟩
    refine ⟨_, rfl, ⟨by simp, Or.inr ⟨w.heap.size, _, _, rfl, Nat.le_refl _, heap_alloc_new w.drew _, Nat.zero_le _, ?_, ?_, by simp⟩⟩, ((Below.refl _ w).drew).alloc (Nat.le_refl _) _⟩
    · exact grownCap_le_maxLen w _ _ _ (by unfold maxLen; omega)
    · have := grownCap_ge w (0 + N) 0 (Tryz.laysGrow_ren.t 25)
      simp [Builtin.zeroCells, Value.cells]
      simp at this
      omega

set_option maxRecDepth 20000 in
set_option maxHeartbeats 1600000 in
theorem concat_any (B : Nat) (a a2 : Option Addr) (n c m c2 : Nat) (xs ys : List Int) (w : World) (hB : B < w.heap.size) (h0 : w.cell? ⟨B, 0, none⟩ = some (.slice a n c)) (h1 : w.cell? ⟨B, 1, none⟩ = some (.slice a2 m c2))
    (hx : Src w a n c xs) (hy : Src w a2 m c2 ys) (hn : n ≤ 2097152) (hm : m ≤ 2097152) :
    Calls Tryz.prog 89 #[.slice (some ⟨B, 0, none⟩) 2 2] w (RowRes w w.heap.size (xs ++ ys)) := by
  obtain ⟨i0, hi, hz0, hz1, hz2⟩ := info_parts info_int
  have HX := Lib.hid hx
  have HY := Lib.hid hy
  have H0 := Lib.hid h0
  have H1 := Lib.hid h1
  clear hx hy
  go_enter Tryz.func89, Tryz.ntmps89
  go_wp2
  go_loop [3, 11] (fun s i => (i = .int .i64 0 ∧ s = .int .i64 0) ∨ (i = .int .i64 1 ∧ s = .int .i64 n) ∨ (i = .int .i64 2 ∧ s = .int .i64 ((n + m : Nat) : Int))) (fun _ i => 2 - (intOf i).toNat)
  case atStart => exact Or.inl ⟨rfl, rfl⟩
  case round =>
    rcases hrel with ⟨rfl, rfl⟩ | ⟨rfl, rfl⟩ | ⟨rfl, rfl⟩
    · go_wp2
      go_round
      case rel => exact Or.inr (Or.inl ⟨rfl, by go_num⟩)
      case measure => simp [intOf]
    · go_wp2
      go_round
      case rel => exact Or.inr (Or.inr ⟨rfl, by go_num⟩)
      case measure => simp [intOf]
    · go_wp2_with fail
      refine (grow_nil (n + m) _ (by omega)).mono ?_
      rintro e w1 ⟨v1, rfl, hown1, hb1⟩
      clear h0 h1
      have hown0 : Owns w1 w.heap.size v1 0 [] := hown1
      clear hown1
      go_wp2_with fail
      go_loopw [6, 27] (fun s i wr => ∃ (len : Nat) (v : Value) (T : List Int), s = v ∧ Owns wr w.heap.size v len T ∧ Below w.heap.size w wr ∧ ((i = .int .i64 0 ∧ len = 0 ∧ T = []) ∨ (i = .int .i64 1 ∧ len = n ∧ T = xs) ∨ (i = .int .i64 2 ∧ len = n + m ∧ T = xs ++ ys))) (fun _ i _ => 2 - (intOf i).toNat)
      case atStart => exact ⟨0, _, [], rfl, hown0, hb1, Or.inl ⟨rfl, rfl, rfl⟩⟩
      case round =>
        obtain ⟨len, v, T, rfl, hown, hnx, hh⟩ := hrel
        have g0 : wr.cell? ⟨B, 0, none⟩ = some (.slice a n c) := (hnx.cell (p := ⟨B, 0, none⟩) hB).trans H0.out
        have g1 : wr.cell? ⟨B, 1, none⟩ = some (.slice a2 m c2) := (hnx.cell (p := ⟨B, 1, none⟩) hB).trans H1.out
        rcases hh with ⟨rfl, rfl, rfl⟩ | ⟨rfl, rfl, rfl⟩ | ⟨rfl, rfl, rfl⟩
        · go_wp2_with (at_builtin; refine wpList_app rfl (.tmp 31) (.tmp 32) rfl w.heap.size i0 Tryz.underlying24 hi hz0 hz1 hz2 _ _ _ rfl hown _ n _ xs rfl (HX.out.below hnx) (by omega) hnx.size ?_)
          rintro v2 w2 ⟨hown2, hgrow2, _⟩
          have hb2 := hown.grown hnx hgrow2 (Nat.le_refl _) hnx.size
          clear hgrow2 hown
          go_wp2_with fail
          go_roundw
          case rel => exact ⟨n, _, xs, rfl, by simpa using hown2, hb2, Or.inr (Or.inl ⟨rfl, rfl, rfl⟩)⟩
          case measure => simp [intOf]
        · go_wp2_with (at_builtin; refine wpList_app rfl (.tmp 31) (.tmp 32) rfl w.heap.size i0 Tryz.underlying24 hi hz0 hz1 hz2 _ _ _ rfl hown _ m _ ys rfl (HY.out.below hnx) (by omega) hnx.size ?_)
          rintro v2 w2 ⟨hown2, hgrow2, _⟩
          have hb2 := hown.grown hnx hgrow2 (Nat.le_refl _) hnx.size
          clear hgrow2 hown
          go_wp2_with fail
          go_roundw
          case rel => exact ⟨_, _, _, rfl, hown2, hb2, Or.inr (Or.inr ⟨rfl, rfl, rfl⟩)⟩
          case measure => simp [intOf]
        · have HO := Lib.hid hown
          clear hown
          go_wp2_with fail
          go_ret
          have ho := HO.out
          have e := ho.length
          rw [← e] at ho
          exact ⟨_, rfl, ho, hnx⟩

end Go.Proofs.YtfhjhfhfbgddeaaGreatDoor

/-
  The contracts of combineOthers, combine, SetJoin, SetMeet, SetLess and SetIn of the program: they answer as the model's do. Conditions: the slices read as lists of ints of at most 2^20 elements.
-/
namespace Go.Proofs.YtfhjhfhfbgddeaaGreatDoor
open Go.RowKit

/-- What combineOthers makes of two rising lists. -/
def combOthers (op : Nat) (A B : List Int) : List Int := if op = 0 then ris (A ++ B) else A.filter (fun x => comb op true (hasB B x))

set_option maxRecDepth 20000 in
set_option maxHeartbeats 1600000 in
theorem combineOthers_join (v v2 : Value) (n m base : Nat) (A B : List Int) (w : World) (h : Owns w base v n A) (h2 : Owns w base v2 m B) (hn : n ≤ 2097152) (hm : m ≤ 2097152) :
    Calls Tryz.prog 78 #[.int .i64 0, v, v2] w (RowRes w w.heap.size (combOthers 0 A B)) := by
  obtain ⟨a, c, rfl⟩ := h.form
  obtain ⟨a2, c2, rfl⟩ := h2.form
  have hb0 : Below w.heap.size w (w.alloc (.cells #[.slice a n c, .slice a2 m c2] 24)) := (Below.refl _ w).alloc (Nat.le_refl _) _
  have HS := Lib.hid (h.src.below hb0)
  have HS2 := Lib.hid (h2.src.below hb0)
  have hl := h.length
  have hl2 := h2.length
  have HL := Lib.hid hl
  have HL2 := Lib.hid hl2
  clear h h2 hl hl2
  go_enter Tryz.func78, Tryz.ntmps78
  go_wp2_with fail
  refine (concat_any w.heap.size a a2 n c m c2 A B _ (by simp) (by simp) (by simp) HS.out HS2.out hn hm).mono ?_
  rintro e w1 ⟨v1, rfl, hown1, hb1⟩
  have hb2 : Below w.heap.size w w1 := hb0.trans (hb1.mono (by simp))
  have hown2 : Owns w1 w.heap.size v1 (A ++ B).length (A ++ B) := hown1.mono (by simp)
  have hlen : (A ++ B).length ≤ 4194304 := by have := HL.out; have := HL2.out; simp; omega
  clear hown1 hb1 hb0
  go_wp2_with fail
  refine (risen_any _ _ w.heap.size (A ++ B) _ hown2 (by omega)).mono ?_
  rintro e w2 ⟨v3, rfl, hown3, hg3, _⟩
  have hb3 := hown2.grown hb2 hg3 (Nat.le_refl _) hb2.size
  have H3 := Lib.hid hown3
  clear hown3 hg3 hown2 hlen
  go_wp2_with fail
  go_ret
  exact ⟨_, rfl, H3.out, hb3⟩

theorem kept_step {A B : List Int} {op k : Nat} {x : Int} (hk : k < A.length) (hx : x = A.getD k 0) : (A.take (k + 1)).filter (fun x => comb op true (hasB B x)) = (A.take k).filter (fun x => comb op true (hasB B x)) ++ (if comb op true (hasB B x) then [x] else []) := by
  rw [filter_step _ hk, ← hx]

set_option maxRecDepth 20000 in
set_option maxHeartbeats 3200000 in
theorem combineOthers_meet (v v2 : Value) (n m base : Nat) (A B : List Int) (w : World) (h : Owns w base v n A) (h2 : Owns w base v2 m B) (hn : n ≤ 2097152) (hm : m ≤ 2097152) (hs : B.Pairwise (· < ·)) :
    Calls Tryz.prog 78 #[.int .i64 1, v, v2] w (RowRes w w.heap.size (combOthers 1 A B)) := by
  obtain ⟨i0, hi, hz0, hz1, hz2⟩ := info_parts info_int
  obtain ⟨a, c, rfl⟩ := h.form
  obtain ⟨a2, c2, rfl⟩ := h2.form
  have HR := Lib.hid h.row.2.2.2
  have HR2 := Lib.hid h2.row.2.2.2
  have HL := Lib.hid h.length
  have HS := Lib.hid hs
  clear h h2 hs
  go_enter Tryz.func78, Tryz.ntmps78
  go_wp2_with fail
  go_loopw [7, 21] (fun kept i wr => ∃ (k len : Nat) (v : Value) (K : List Int), k ≤ n ∧ i = .int .i64 k ∧ kept = v ∧ Owns wr w.heap.size v len K ∧ Hid (K = (A.take k).filter (fun x => comb 1 true (hasB B x))) ∧ len ≤ k ∧ Below w.heap.size w wr) (fun _ i _ => n - (intOf i).toNat)
  case atStart => exact ⟨0, 0, _, [], Nat.zero_le _, rfl, rfl, World.ownsRow_nil _ _ _ _, rfl, Nat.le_refl _, Below.refl _ _⟩
  case round =>
    obtain ⟨k, len, v, K, hk, rfl, rfl, hown, HK, hlen, hnx⟩ := hrel
    by_cases hlt : k < n
    · obtain ⟨b, off, rfl, hb, hcell⟩ := HR.out.2 (by omega)
      obtain ⟨x, hx⟩ : ∃ x, x = A.getD k 0 := ⟨_, rfl⟩
      have g1 : wr.cell? ⟨b, off + k, none⟩ = some (.int .i64 x) := by rw [hx]; exact (hnx.cell (p := ⟨b, off + k, none⟩) hb).trans (hcell k hlt)
      have HX := Lib.hid hx
      have HKA : Hid (k < A.length) := by unfold Hid; rw [HL.out]; exact hlt
      have HST := Lib.hid (kept_step (B := B) (op := 1) HKA.out HX.out)
      clear hx hcell
      go_wp2_with fail
      refine (search_any _ _ _ _ B _ (HR2.out.below hnx) (by omega) HS.out).mono ?_
      rintro e w1 ⟨rfl, hb1⟩
      have hnx1 : Below w.heap.size w w1 := hnx.trans (hb1.mono hnx.size)
      have hown1 := hown.below hb1
      generalize (List.countP (fun y => decide (y < x)) B : Nat) = cnt
      by_cases hc : comb 1 true (hasB B x) = true
      · have T1 := hown1.alloc (.cells #[.int .i64 x] 3)
        have S1 : Src (w1.alloc (.cells #[.int .i64 x] 3)) (some ⟨w1.heap.size, 0, none⟩) 1 1 [x] := src_one (by simp)
        have hh : hasB B x = true := by simpa [comb] using hc
        have HC := Lib.hid hc
        clear hc hown hb1 hnx
        rw [hh]
        go_wp2_with (at_builtin; refine wpList_app rfl (.tmp 35) (.tmp 37) rfl w.heap.size i0 Tryz.underlying24 hi hz0 hz1 hz2 _ _ _ rfl T1 _ 1 _ [x] rfl S1 (by omega) (by have := hnx1.size; simp; omega) ?_)
        rintro v2 w2 ⟨hown2, hgrow2, _⟩
        have hb2 : Below w.heap.size w w2 := T1.grown (hnx1.alloc hnx1.size _) hgrow2 (Nat.le_refl _) (by have := hnx1.size; simp; omega)
        clear T1 S1 hgrow2
        go_wp2_with fail
        go_roundw
        case rel => exact ⟨k + 1, len + 1, v2, K ++ [x], by omega, by go_num, rfl, hown2, by unfold Hid; rw [HST.out, if_pos HC.out, HK.out], by omega, hb2⟩
        case measure => simp [intOf]; omega
      · have hh : hasB B x = false := by simpa [comb] using hc
        have HC := Lib.hid hc
        clear hc hown hb1 hnx
        rw [hh]
        go_wp2_with fail
        go_roundw
        case rel => exact ⟨k + 1, len, _, K, by omega, by go_num, rfl, hown1, by unfold Hid; rw [HST.out, if_neg HC.out, List.append_nil]; exact HK.out, by omega, hnx1⟩
        case measure => simp [intOf]; omega
    · have HK1 : Hid (K = combOthers 1 A B) := by
        have := HK.out
        rw [List.take_of_length_le (by rw [HL.out]; omega)] at this
        unfold Hid combOthers
        rw [if_neg (by decide)]
        exact this
      have H1 := Lib.hid hown
      clear hown
      go_wp2_with fail
      go_ret
      have ho := H1.out
      rw [HK1.out] at ho
      have e := ho.length
      rw [← e] at ho
      exact ⟨_, rfl, ho, hnx⟩

set_option maxRecDepth 20000 in
set_option maxHeartbeats 3200000 in
theorem combineOthers_less (v v2 : Value) (n m base : Nat) (A B : List Int) (w : World) (h : Owns w base v n A) (h2 : Owns w base v2 m B) (hn : n ≤ 2097152) (hm : m ≤ 2097152) (hs : B.Pairwise (· < ·)) :
    Calls Tryz.prog 78 #[.int .i64 2, v, v2] w (RowRes w w.heap.size (combOthers 2 A B)) := by
  obtain ⟨i0, hi, hz0, hz1, hz2⟩ := info_parts info_int
  obtain ⟨a, c, rfl⟩ := h.form
  obtain ⟨a2, c2, rfl⟩ := h2.form
  have HR := Lib.hid h.row.2.2.2
  have HR2 := Lib.hid h2.row.2.2.2
  have HL := Lib.hid h.length
  have HS := Lib.hid hs
  clear h h2 hs
  go_enter Tryz.func78, Tryz.ntmps78
  go_wp2_with fail
  go_loopw [7, 21] (fun kept i wr => ∃ (k len : Nat) (v : Value) (K : List Int), k ≤ n ∧ i = .int .i64 k ∧ kept = v ∧ Owns wr w.heap.size v len K ∧ Hid (K = (A.take k).filter (fun x => comb 2 true (hasB B x))) ∧ len ≤ k ∧ Below w.heap.size w wr) (fun _ i _ => n - (intOf i).toNat)
  case atStart => exact ⟨0, 0, _, [], Nat.zero_le _, rfl, rfl, World.ownsRow_nil _ _ _ _, rfl, Nat.le_refl _, Below.refl _ _⟩
  case round =>
    obtain ⟨k, len, v, K, hk, rfl, rfl, hown, HK, hlen, hnx⟩ := hrel
    by_cases hlt : k < n
    · obtain ⟨b, off, rfl, hb, hcell⟩ := HR.out.2 (by omega)
      obtain ⟨x, hx⟩ : ∃ x, x = A.getD k 0 := ⟨_, rfl⟩
      have g1 : wr.cell? ⟨b, off + k, none⟩ = some (.int .i64 x) := by rw [hx]; exact (hnx.cell (p := ⟨b, off + k, none⟩) hb).trans (hcell k hlt)
      have HX := Lib.hid hx
      have HKA : Hid (k < A.length) := by unfold Hid; rw [HL.out]; exact hlt
      have HST := Lib.hid (kept_step (B := B) (op := 2) HKA.out HX.out)
      clear hx hcell
      go_wp2_with fail
      refine (search_any _ _ _ _ B _ (HR2.out.below hnx) (by omega) HS.out).mono ?_
      rintro e w1 ⟨rfl, hb1⟩
      have hnx1 : Below w.heap.size w w1 := hnx.trans (hb1.mono hnx.size)
      have hown1 := hown.below hb1
      generalize (List.countP (fun y => decide (y < x)) B : Nat) = cnt
      by_cases hc : comb 2 true (hasB B x) = true
      · have T1 := hown1.alloc (.cells #[.int .i64 x] 3)
        have S1 : Src (w1.alloc (.cells #[.int .i64 x] 3)) (some ⟨w1.heap.size, 0, none⟩) 1 1 [x] := src_one (by simp)
        have hh : hasB B x = false := by simpa [comb] using hc
        have HC := Lib.hid hc
        clear hc hown hb1 hnx
        rw [hh]
        go_wp2_with (at_builtin; refine wpList_app rfl (.tmp 35) (.tmp 37) rfl w.heap.size i0 Tryz.underlying24 hi hz0 hz1 hz2 _ _ _ rfl T1 _ 1 _ [x] rfl S1 (by omega) (by have := hnx1.size; simp; omega) ?_)
        rintro v2 w2 ⟨hown2, hgrow2, _⟩
        have hb2 : Below w.heap.size w w2 := T1.grown (hnx1.alloc hnx1.size _) hgrow2 (Nat.le_refl _) (by have := hnx1.size; simp; omega)
        clear T1 S1 hgrow2
        go_wp2_with fail
        go_roundw
        case rel => exact ⟨k + 1, len + 1, v2, K ++ [x], by omega, by go_num, rfl, hown2, by unfold Hid; rw [HST.out, if_pos HC.out, HK.out], by omega, hb2⟩
        case measure => simp [intOf]; omega
      · have hh : hasB B x = true := by simpa [comb] using hc
        have HC := Lib.hid hc
        clear hc hown hb1 hnx
        rw [hh]
        go_wp2_with fail
        go_roundw
        case rel => exact ⟨k + 1, len, _, K, by omega, by go_num, rfl, hown1, by unfold Hid; rw [HST.out, if_neg HC.out, List.append_nil]; exact HK.out, by omega, hnx1⟩
        case measure => simp [intOf]; omega
    · have HK1 : Hid (K = combOthers 2 A B) := by
        have := HK.out
        rw [List.take_of_length_le (by rw [HL.out]; omega)] at this
        unfold Hid combOthers
        rw [if_neg (by decide)]
        exact this
      have H1 := Lib.hid hown
      clear hown
      go_wp2_with fail
      go_ret
      have ho := H1.out
      rw [HK1.out] at ho
      have e := ho.length
      rw [← e] at ho
      exact ⟨_, rfl, ho, hnx⟩

end Go.Proofs.YtfhjhfhfbgddeaaGreatDoor

/-
  The mathematics of the sets: what the program puts together out of bits and other numbers is what the model puts in one by one. Conditions: none; plain lists of ints.
-/
namespace Go.Proofs.YtfhjhfhfbgddeaaGreatDoor

theorem mem_put {L : List Int} {x y : Int} : y ∈ put L x ↔ y = x ∨ y ∈ L := by
  have e := List.takeWhile_append_dropWhile (p := fun y => decide (y < x)) (l := L)
  simp only [put]
  split
  · rename_i h
    constructor
    · exact Or.inr
    · rintro (rfl | h2)
      · rw [← e]
        exact List.mem_append.2 (Or.inr (List.mem_of_mem_head? (by rw [h]; rfl)))
      · exact h2
  · rw [List.mem_append, List.mem_cons]
    constructor
    · rintro (h | h | h)
      · right; rw [← e]; exact List.mem_append.2 (Or.inl h)
      · exact Or.inl h
      · right; rw [← e]; exact List.mem_append.2 (Or.inr h)
    · rintro (h | h)
      · exact Or.inr (Or.inl h)
      · rw [← e] at h
        rcases List.mem_append.1 h with h | h
        · exact Or.inl h
        · exact Or.inr (Or.inr h)

theorem drop_ge {L : List Int} {x : Int} (h : L.Pairwise (· < ·)) : ∀ y ∈ L.dropWhile (fun y => decide (y < x)), x ≤ y := by
  induction L with
  | nil => simp
  | cons z zs ih =>
    intro y hy
    by_cases hz : z < x
    · rw [List.dropWhile_cons_of_pos (by simpa using hz)] at hy
      exact ih (List.pairwise_cons.1 h).2 y hy
    · rw [List.dropWhile_cons_of_neg (by simpa using hz)] at hy
      rcases List.mem_cons.1 hy with rfl | hy
      · omega
      · have := (List.pairwise_cons.1 h).1 y hy; omega

theorem take_lt {L : List Int} {x : Int} : ∀ y ∈ L.takeWhile (fun y => decide (y < x)), y < x := by
  induction L with
  | nil => simp
  | cons z zs ih =>
    intro y hy
    by_cases hz : z < x
    · rw [List.takeWhile_cons_of_pos (by simpa using hz)] at hy
      rcases List.mem_cons.1 hy with rfl | hy
      · exact hz
      · exact ih y hy
    · rw [List.takeWhile_cons_of_neg (by simpa using hz)] at hy
      cases hy

theorem put_rises {L : List Int} {x : Int} (h : L.Pairwise (· < ·)) : (put L x).Pairwise (· < ·) := by
  have e := List.takeWhile_append_dropWhile (p := fun y => decide (y < x)) (l := L)
  have hd := drop_ge (x := x) h
  have ht : ∀ y ∈ L.takeWhile (fun y => decide (y < x)), y < x := take_lt
  simp only [put]
  split
  · exact h
  · rename_i hh
    have h' := h
    rw [← e] at h'
    obtain ⟨p1, p2, p3⟩ := List.pairwise_append.1 h'
    have hgt : ∀ y ∈ L.dropWhile (fun y => decide (y < x)), x < y := by
      intro y hy
      have h1 := hd y hy
      by_cases e2 : x = y
      · subst e2
        exfalso
        cases hdr : L.dropWhile (fun y => decide (y < x)) with
        | nil => rw [hdr] at hy; cases hy
        | cons z zs =>
          rw [hdr] at hh hy p2 hd
          have hz : z ≠ x := fun e => hh (by rw [e]; rfl)
          rcases List.mem_cons.1 hy with e3 | hy2
          · exact hz e3.symm
          · have a1 := (List.pairwise_cons.1 p2).1 x hy2
            have a2 := hd z (List.mem_cons_self ..)
            omega
      · omega
    refine List.pairwise_append.2 ⟨p1, List.pairwise_cons.2 ⟨hgt, p2⟩, fun a ha b hb => ?_⟩
    rcases List.mem_cons.1 hb with rfl | hb
    · exact ht a ha
    · exact p3 a ha b hb

theorem mem_putAll {L xs : List Int} {y : Int} : y ∈ putAll L xs ↔ y ∈ L ∨ y ∈ xs := by
  induction xs generalizing L with
  | nil => simp [putAll]
  | cons x xs ih =>
    show y ∈ putAll (put L x) xs ↔ _
    rw [ih, mem_put, List.mem_cons]
    constructor
    · rintro ((h | h) | h)
      · exact Or.inr (Or.inl h)
      · exact Or.inl h
      · exact Or.inr (Or.inr h)
    · rintro (h | h | h)
      · exact Or.inl (Or.inr h)
      · exact Or.inl (Or.inl h)
      · exact Or.inr h

theorem putAll_rises {L xs : List Int} (h : L.Pairwise (· < ·)) : (putAll L xs).Pairwise (· < ·) := by
  induction xs generalizing L with
  | nil => exact h
  | cons x xs ih => exact ih (put_rises h)

theorem parted0 {L : List Int} (h : L.Pairwise (· < ·)) : (∀ y ∈ L.take (L.countP (· < 0)), y < 0) ∧ (∀ y ∈ L.drop (L.countP (· < 0)), 0 ≤ y) := by
  induction L with
  | nil => simp
  | cons z zs ih =>
    obtain ⟨h1, h2⟩ := List.pairwise_cons.1 h
    by_cases hz : z < 0
    · rw [List.countP_cons_of_pos (by simpa using hz)]
      obtain ⟨i1, i2⟩ := ih h2
      refine ⟨fun y hy => ?_, fun y hy => ?_⟩
      · rw [List.take_succ_cons] at hy
        rcases List.mem_cons.1 hy with rfl | hy
        · exact hz
        · exact i1 y hy
      · rw [List.drop_succ_cons] at hy
        exact i2 y hy
    · have e : (z :: zs).countP (· < 0) = 0 := by
        rw [List.countP_eq_zero]
        intro a ha
        rcases List.mem_cons.1 ha with rfl | ha
        · simpa using hz
        · have := h1 a ha; simp; omega
      rw [e]
      refine ⟨by simp, fun y hy => ?_⟩
      rw [List.drop_zero] at hy
      rcases List.mem_cons.1 hy with rfl | hy
      · omega
      · have := h1 y hy; omega

theorem mem_acts {p : Nat → Bool} {k : Nat} {y : Int} : y ∈ acts p k ↔ ∃ i : Nat, i < k ∧ p i = true ∧ y = (i : Int) := by
  simp only [acts, List.mem_map, List.mem_filter, List.mem_range]
  constructor
  · rintro ⟨i, ⟨h1, h2⟩, rfl⟩; exact ⟨i, h1, h2, rfl⟩
  · rintro ⟨i, h1, h2, rfl⟩; exact ⟨i, ⟨h1, h2⟩, rfl⟩

theorem acts_rises (p : Nat → Bool) (k : Nat) : (acts p k).Pairwise (· < ·) := by
  unfold acts
  rw [List.pairwise_map]
  exact ((List.pairwise_lt_range (n := k)).filter p).imp (fun h => by omega)

theorem mem_together {p : Nat → Bool} {L : List Int} {y : Int} : y ∈ together p L ↔ y ∈ L ∨ y ∈ acts p 12 := by
  unfold together
  rw [List.mem_append, List.mem_append]
  have e := List.take_append_drop (L.countP (· < 0)) L
  constructor
  · rintro ((h | h) | h)
    · exact Or.inl (List.mem_of_mem_take h)
    · exact Or.inr h
    · exact Or.inl (List.mem_of_mem_drop h)
  · rintro (h | h)
    · rw [← e] at h
      rcases List.mem_append.1 h with h | h
      · exact Or.inl (Or.inl h)
      · exact Or.inr h
    · exact Or.inl (Or.inr h)

theorem together_rises {p : Nat → Bool} {L : List Int} (h : L.Pairwise (· < ·)) (hno : ∀ y ∈ L, btw y 0 11 = false) : (together p L).Pairwise (· < ·) := by
  obtain ⟨h1, h2⟩ := parted0 h
  have h' := h
  rw [← List.take_append_drop (L.countP (· < 0)) L] at h'
  obtain ⟨p1, p2, p3⟩ := List.pairwise_append.1 h'
  unfold together
  refine List.pairwise_append.2 ⟨List.pairwise_append.2 ⟨p1, acts_rises _ _, fun a ha b hb => ?_⟩, p2, fun a ha b hb => ?_⟩
  · obtain ⟨i, _, _, rfl⟩ := mem_acts.1 hb
    have := h1 a ha; omega
  · rcases List.mem_append.1 ha with ha | ha
    · exact p3 a ha b hb
    · obtain ⟨i, hi, _, rfl⟩ := mem_acts.1 ha
      have a1 := h2 b hb
      have a2 := hno b (List.mem_of_mem_drop hb)
      simp [btw] at a2
      omega

theorem mem_risOthers {xs : List Int} {y : Int} : y ∈ ris (others xs) ↔ y ∈ xs ∧ btw y 0 11 = false := by
  rw [mem_ris]; simp [others]

theorem combOthers_rises (op : Nat) {A B : List Int} (hA : A.Pairwise (· < ·)) : (combOthers op A B).Pairwise (· < ·) := by
  unfold combOthers
  split
  · exact ris_lt _
  · exact hA.filter _

theorem mem_combOthers {op : Nat} {A B : List Int} {y : Int} : y ∈ combOthers op A B ↔ comb op (hasB A y) (hasB B y) = true := by
  unfold combOthers
  split
  · rename_i h; subst h
    rw [mem_ris]; simp [comb, hasB]
  · rename_i h
    rw [List.mem_filter]
    unfold comb hasB
    rw [if_neg h, if_neg h]
    split
    · simp
    · simp

theorem comb_false (op : Nat) : comb op false false = false := by unfold comb; split <;> (try split) <;> rfl

theorem mem_setOf {op : Nat} {xs ys : List Int} {y : Int} : y ∈ together (fun i => comb op (maskOf xs i) (maskOf ys i)) (combOthers op (ris (others xs)) (ris (others ys))) ↔ comb op (hasB xs y) (hasB ys y) = true := by
  rw [mem_together, mem_combOthers, mem_acts]
  by_cases hb : btw y 0 11 = true
  · have hA : hasB (ris (others xs)) y = false := has_no (fun h => by have := (mem_risOthers.1 h).2; rw [hb] at this; cases this)
    have hB : hasB (ris (others ys)) y = false := has_no (fun h => by have := (mem_risOthers.1 h).2; rw [hb] at this; cases this)
    rw [hA, hB, comb_false]
    have hy : 0 ≤ y ∧ y ≤ 11 := by simpa [btw] using hb
    constructor
    · rintro (h | ⟨i, hi, h, rfl⟩)
      · cases h
      · simpa [maskOf, hi] using h
    · intro h
      refine Or.inr ⟨y.toNat, by omega, ?_, by omega⟩
      have e1 : ((y.toNat : Nat) : Int) = y := by omega
      have e2 : y.toNat < 12 := by omega
      simpa [maskOf, e1, e2] using h
  · have hbf : btw y 0 11 = false := by simpa using hb
    have hA : hasB (ris (others xs)) y = hasB xs y := by
      unfold hasB; simp [mem_risOthers, hbf]
    have hB : hasB (ris (others ys)) y = hasB ys y := by
      unfold hasB; simp [mem_risOthers, hbf]
    rw [hA, hB]
    constructor
    · rintro (h | ⟨i, hi, _, rfl⟩)
      · exact h
      · simp [btw] at hbf; omega
    · exact Or.inl

theorem setOf_rises (op : Nat) (xs ys : List Int) : (together (fun i => comb op (maskOf xs i) (maskOf ys i)) (combOthers op (ris (others xs)) (ris (others ys)))).Pairwise (· < ·) := by
  refine together_rises (combOthers_rises op (ris_lt _)) (fun y hy => ?_)
  rw [mem_combOthers] at hy
  by_cases h1 : y ∈ ris (others xs)
  · exact (mem_risOthers.1 h1).2
  · by_cases h2 : y ∈ ris (others ys)
    · exact (mem_risOthers.1 h2).2
    · rw [has_no h1, has_no h2, comb_false] at hy; cases hy

def setOf (op : Nat) (xs ys : List Int) : List Int := if op = 0 then joinOf xs ys else if op = 1 then meetOf xs ys else lessOf xs ys

theorem mem_joinOf {xs ys : List Int} {y : Int} : y ∈ joinOf xs ys ↔ y ∈ xs ∨ y ∈ ys := by
  unfold joinOf; rw [mem_putAll, mem_putAll]; simp
theorem mem_meetOf {xs ys : List Int} {y : Int} : y ∈ meetOf xs ys ↔ y ∈ xs ∧ y ∈ ys := by
  unfold meetOf; rw [mem_putAll]; simp
theorem mem_lessOf {xs ys : List Int} {y : Int} : y ∈ lessOf xs ys ↔ y ∈ xs ∧ ¬ y ∈ ys := by
  unfold lessOf; rw [mem_putAll]; simp

theorem setOf_eq (op : Nat) (xs ys : List Int) : together (fun i => comb op (maskOf xs i) (maskOf ys i)) (combOthers op (ris (others xs)) (ris (others ys))) = setOf op xs ys := by
  refine rise_eq (setOf_rises op xs ys) ?_ (fun y => ?_)
  · unfold setOf
    split
    · exact putAll_rises (putAll_rises List.Pairwise.nil)
    · split
      · exact putAll_rises List.Pairwise.nil
      · exact putAll_rises List.Pairwise.nil
  · rw [mem_setOf]
    unfold setOf comb
    split
    · rw [mem_joinOf]; simp [hasB]
    · split
      · rw [mem_meetOf]; simp [hasB]
      · rw [mem_lessOf]; simp [hasB]

theorem setOf_len (op : Nat) (A B : List Int) : (combOthers op A B).length ≤ A.length + B.length := by
  unfold combOthers
  split
  · exact Nat.le_trans (ris_len _) (by simp)
  · exact Nat.le_trans (List.length_filter_le _ _) (by omega)

theorem others_len (xs : List Int) : (ris (others xs)).length ≤ xs.length := Nat.le_trans (ris_len _) (List.length_filter_le _ _)

theorem less_nil {xs ys : List Int} : decide ((lessOf xs ys).length = 0) = inB xs ys := by
  rw [Bool.eq_iff_iff, decide_eq_true_iff, List.length_eq_zero_iff, List.eq_nil_iff_forall_not_mem]
  simp only [inB, List.all_eq_true, hasB, decide_eq_true_iff, mem_lessOf]
  constructor
  · intro h x hx
    exact Decidable.byContradiction fun hn => h x ⟨hx, hn⟩
  · rintro h x ⟨h1, h2⟩
    exact h2 (h x h1)

end Go.Proofs.YtfhjhfhfbgddeaaGreatDoor

/-
  The contracts of combine, SetJoin, SetMeet, SetLess and SetIn of the program: they answer as the model's do. Conditions: the slices read as lists of ints of at most 2^21 elements.
-/
namespace Go.Proofs.YtfhjhfhfbgddeaaGreatDoor
open Go.RowKit

set_option maxRecDepth 20000 in
set_option maxHeartbeats 1600000 in
theorem combine_join (a a2 : Option Addr) (n c m c2 : Nat) (xs ys : List Int) (w : World) (h : Row w a n xs) (h2 : Row w a2 m ys) (hn : n ≤ 2097152) (hm : m ≤ 2097152) :
    Calls Tryz.prog 63 #[.int .i64 0, .slice a n c, .slice a2 m c2] w (RowRes w w.heap.size (joinOf xs ys)) := by
  have HR := Lib.hid h
  have HR2 := Lib.hid h2
  have hox := others_len xs
  have hoy := others_len ys
  rw [h.1] at hox
  rw [h2.1] at hoy
  clear h h2
  go_enter Tryz.func63, Tryz.ntmps63
  go_wp2_with fail
  refine (takeApart_any _ _ _ xs _ HR.out hn).mono ?_
  rintro e w1 ⟨M, v, rfl, hM, hown, hb1⟩
  have HM := Lib.hid hM
  have HO := Lib.hid hown
  clear hM hown
  go_wp2_with fail
  refine (takeApart_any _ _ _ ys _ (HR2.out.below hb1) hm).mono ?_
  rintro e w2 ⟨N, v2, rfl, hN, hown2, hb2⟩
  have hb12 : Below w.heap.size w w2 := hb1.trans (hb2.mono hb1.size)
  have HN := Lib.hid hN
  have HO1 : Hid (Owns w2 w.heap.size v (ris (others xs)).length (ris (others xs))) := HO.out.below hb2
  have HO2 : Hid (Owns w2 w.heap.size v2 (ris (others ys)).length (ris (others ys))) := hown2.mono hb1.size
  clear hN hown2 hb2 HO
  go_wp2_with fail
  refine (combineLetters_any 0 (by decide) M N _ _ HM.out HN.out _).mono ?_
  rintro e w3 ⟨R, rfl, hR, rfl⟩
  have HRR := Lib.hid hR
  clear hR
  go_wp2_with fail
  refine (combineOthers_join v v2 _ _ w.heap.size _ _ _ HO1.out HO2.out (by omega) (by omega)).mono ?_
  rintro e w4 ⟨v4, rfl, hown4, hb4⟩
  have hb14 : Below w.heap.size w w4 := hb12.trans (hb4.mono hb12.size)
  have HO4 := Lib.hid hown4
  have hl4 := setOf_len 0 (ris (others xs)) (ris (others ys))
  clear hown4 hb4
  go_wp2_with fail
  refine (putTogether_any R _ v4 _ _ _ _ HRR.out HO4.out (by omega) (combOthers_rises 0 (ris_lt _))).mono ?_
  rintro e w5 ⟨v5, rfl, hown5, hb5⟩
  have hb15 : Below w.heap.size w w5 := hb14.trans (hb5.mono hb14.size)
  have HO5 : Hid (Owns w5 w.heap.size v5 (joinOf xs ys).length (joinOf xs ys)) := by
    have := hown5.mono (base := w.heap.size) hb14.size
    rw [setOf_eq] at this
    exact this
  clear hown5 hb5 hl4
  go_wp2_with fail
  go_ret
  exact ⟨_, rfl, HO5.out, hb15⟩

set_option maxRecDepth 20000 in
set_option maxHeartbeats 1600000 in
theorem combine_meet (a a2 : Option Addr) (n c m c2 : Nat) (xs ys : List Int) (w : World) (h : Row w a n xs) (h2 : Row w a2 m ys) (hn : n ≤ 2097152) (hm : m ≤ 2097152) :
    Calls Tryz.prog 63 #[.int .i64 1, .slice a n c, .slice a2 m c2] w (RowRes w w.heap.size (meetOf xs ys)) := by
  have HR := Lib.hid h
  have HR2 := Lib.hid h2
  have hox := others_len xs
  have hoy := others_len ys
  rw [h.1] at hox
  rw [h2.1] at hoy
  clear h h2
  go_enter Tryz.func63, Tryz.ntmps63
  go_wp2_with fail
  refine (takeApart_any _ _ _ xs _ HR.out hn).mono ?_
  rintro e w1 ⟨M, v, rfl, hM, hown, hb1⟩
  have HM := Lib.hid hM
  have HO := Lib.hid hown
  clear hM hown
  go_wp2_with fail
  refine (takeApart_any _ _ _ ys _ (HR2.out.below hb1) hm).mono ?_
  rintro e w2 ⟨N, v2, rfl, hN, hown2, hb2⟩
  have hb12 : Below w.heap.size w w2 := hb1.trans (hb2.mono hb1.size)
  have HN := Lib.hid hN
  have HO1 : Hid (Owns w2 w.heap.size v (ris (others xs)).length (ris (others xs))) := HO.out.below hb2
  have HO2 : Hid (Owns w2 w.heap.size v2 (ris (others ys)).length (ris (others ys))) := hown2.mono hb1.size
  clear hN hown2 hb2 HO
  go_wp2_with fail
  refine (combineLetters_any 1 (by decide) M N _ _ HM.out HN.out _).mono ?_
  rintro e w3 ⟨R, rfl, hR, rfl⟩
  have HRR := Lib.hid hR
  clear hR
  go_wp2_with fail
  refine (combineOthers_meet v v2 _ _ w.heap.size _ _ _ HO1.out HO2.out (by omega) (by omega) (ris_lt _)).mono ?_
  rintro e w4 ⟨v4, rfl, hown4, hb4⟩
  have hb14 : Below w.heap.size w w4 := hb12.trans (hb4.mono hb12.size)
  have HO4 := Lib.hid hown4
  have hl4 := setOf_len 1 (ris (others xs)) (ris (others ys))
  clear hown4 hb4
  go_wp2_with fail
  refine (putTogether_any R _ v4 _ _ _ _ HRR.out HO4.out (by omega) (combOthers_rises 1 (ris_lt _))).mono ?_
  rintro e w5 ⟨v5, rfl, hown5, hb5⟩
  have hb15 : Below w.heap.size w w5 := hb14.trans (hb5.mono hb14.size)
  have HO5 : Hid (Owns w5 w.heap.size v5 (meetOf xs ys).length (meetOf xs ys)) := by
    have := hown5.mono (base := w.heap.size) hb14.size
    rw [setOf_eq] at this
    exact this
  clear hown5 hb5 hl4
  go_wp2_with fail
  go_ret
  exact ⟨_, rfl, HO5.out, hb15⟩

theorem implSetMeet_any (a a2 : Option Addr) (n c m c2 : Nat) (xs ys : List Int) (w : World) (h : Row w a n xs) (h2 : Row w a2 m ys) (hn : n ≤ 2097152) (hm : m ≤ 2097152) :
    Calls Tryz.prog 51 #[.slice a n c, .slice a2 m c2] w (RowRes w w.heap.size (meetOf xs ys)) := by
  have HR := Lib.hid h
  have HR2 := Lib.hid h2
  clear h h2
  go_enter Tryz.func51, Tryz.ntmps51
  go_wp2_with fail
  refine (combine_meet _ _ _ _ _ _ xs ys _ HR.out HR2.out hn hm).mono ?_
  rintro e w1 ⟨v, rfl, hown, hb⟩
  have HO := Lib.hid hown
  clear hown
  go_wp2_with fail
  go_ret
  exact ⟨_, rfl, HO.out, hb⟩

set_option maxRecDepth 20000 in
set_option maxHeartbeats 1600000 in
theorem combine_less (a a2 : Option Addr) (n c m c2 : Nat) (xs ys : List Int) (w : World) (h : Row w a n xs) (h2 : Row w a2 m ys) (hn : n ≤ 2097152) (hm : m ≤ 2097152) :
    Calls Tryz.prog 63 #[.int .i64 2, .slice a n c, .slice a2 m c2] w (RowRes w w.heap.size (lessOf xs ys)) := by
  have HR := Lib.hid h
  have HR2 := Lib.hid h2
  have hox := others_len xs
  have hoy := others_len ys
  rw [h.1] at hox
  rw [h2.1] at hoy
  clear h h2
  go_enter Tryz.func63, Tryz.ntmps63
  go_wp2_with fail
  refine (takeApart_any _ _ _ xs _ HR.out hn).mono ?_
  rintro e w1 ⟨M, v, rfl, hM, hown, hb1⟩
  have HM := Lib.hid hM
  have HO := Lib.hid hown
  clear hM hown
  go_wp2_with fail
  refine (takeApart_any _ _ _ ys _ (HR2.out.below hb1) hm).mono ?_
  rintro e w2 ⟨N, v2, rfl, hN, hown2, hb2⟩
  have hb12 : Below w.heap.size w w2 := hb1.trans (hb2.mono hb1.size)
  have HN := Lib.hid hN
  have HO1 : Hid (Owns w2 w.heap.size v (ris (others xs)).length (ris (others xs))) := HO.out.below hb2
  have HO2 : Hid (Owns w2 w.heap.size v2 (ris (others ys)).length (ris (others ys))) := hown2.mono hb1.size
  clear hN hown2 hb2 HO
  go_wp2_with fail
  refine (combineLetters_any 2 (by decide) M N _ _ HM.out HN.out _).mono ?_
  rintro e w3 ⟨R, rfl, hR, rfl⟩
  have HRR := Lib.hid hR
  clear hR
  go_wp2_with fail
  refine (combineOthers_less v v2 _ _ w.heap.size _ _ _ HO1.out HO2.out (by omega) (by omega) (ris_lt _)).mono ?_
  rintro e w4 ⟨v4, rfl, hown4, hb4⟩
  have hb14 : Below w.heap.size w w4 := hb12.trans (hb4.mono hb12.size)
  have HO4 := Lib.hid hown4
  have hl4 := setOf_len 2 (ris (others xs)) (ris (others ys))
  clear hown4 hb4
  go_wp2_with fail
  refine (putTogether_any R _ v4 _ _ _ _ HRR.out HO4.out (by omega) (combOthers_rises 2 (ris_lt _))).mono ?_
  rintro e w5 ⟨v5, rfl, hown5, hb5⟩
  have hb15 : Below w.heap.size w w5 := hb14.trans (hb5.mono hb14.size)
  have HO5 : Hid (Owns w5 w.heap.size v5 (lessOf xs ys).length (lessOf xs ys)) := by
    have := hown5.mono (base := w.heap.size) hb14.size
    rw [setOf_eq] at this
    exact this
  clear hown5 hb5 hl4
  go_wp2_with fail
  go_ret
  exact ⟨_, rfl, HO5.out, hb15⟩

end Go.Proofs.YtfhjhfhfbgddeaaGreatDoor
