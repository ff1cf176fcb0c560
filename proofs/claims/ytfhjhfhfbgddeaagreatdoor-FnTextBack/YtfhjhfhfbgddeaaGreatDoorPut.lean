/-
  The contract of the model's l01Put: a number is put to a rising list. Conditions: the slice is a row of ints of the call's own, of at most 2^40 elements.
-/
import Derived.Test.YtfhjhfhfbgddeaaGreatDoorSpecHas
namespace Go.Proofs.YtfhjhfhfbgddeaaGreatDoor
open Go.RowKit

/-- 'x' put in ahead of the first that is not less, unless that one is 'x' itself. -/
def put (xs : List Int) (x : Int) : List Int :=
  let p := xs.takeWhile (fun y => decide (y < x))
  let r := xs.dropWhile (fun y => decide (y < x))
  if r.head? = some x then xs else p ++ x :: r

theorem parted (xs : List Int) (x : Int) (k : Nat) (hk : k ≤ xs.length) (h : ∀ j, j < k → xs.getD j 0 < x) (he : k = xs.length ∨ ¬ xs.getD k 0 < x) :
    xs.takeWhile (fun y => decide (y < x)) = xs.take k ∧ xs.dropWhile (fun y => decide (y < x)) = xs.drop k := by
  induction xs generalizing k with
  | nil => simp
  | cons z zs ih =>
    cases k with
    | zero =>
      rcases he with he | he
      · simp at he
      · have : ¬ z < x := by simpa using he
        simp [this]
    | succ k =>
      have h0 : z < x := by simpa using h 0 (by omega)
      have := ih k (by simpa using hk) (fun j hj => by simpa using h (j + 1) (by omega)) (by
        rcases he with he | he
        · exact Or.inl (by simpa using he)
        · exact Or.inr (by simpa using he))
      simp [h0, this.1, this.2]

theorem put_same {xs : List Int} {x : Int} {k n : Nat} (hl : xs.length = n) (hk : k < n) (h : ∀ j, j < k → xs.getD j 0 < x) (he : x = xs.getD k 0) : put xs x = xs := by
  have := parted xs x k (by omega) h (Or.inr (by omega))
  simp only [put]
  rw [this.2, if_pos]
  rw [List.head?_drop, List.getElem?_eq_getElem (by omega), he, getD_eq xs k (by omega)]

theorem put_new {xs : List Int} {x : Int} {k n : Nat} (hl : xs.length = n) (hk : k ≤ n) (h : ∀ j, j < k → xs.getD j 0 < x) (he : k = n ∨ x < xs.getD k 0) : put xs x = xs.take k ++ x :: xs.drop k := by
  have := parted xs x k (by omega) h (by rcases he with he | he <;> omega)
  simp only [put]
  rw [this.1, this.2, if_neg]
  rw [List.head?_drop]
  intro hh
  obtain ⟨h1, h2⟩ := List.getElem?_eq_some_iff.1 hh
  rcases he with he | he
  · omega
  · rw [getD_eq xs k h1, h2] at he
    omega

/-- A new row of ints comes back; all that lay there is as it was. -/
def OwnRes (w : World) (base : Nat) (xs : List Int) (e : Ending) (w' : World) : Prop :=
  ∃ g c, e = .returned (.slice (some ⟨g, 0, none⟩) xs.length c) ∧ Owns w' base (.slice (some ⟨g, 0, none⟩) xs.length c) xs.length xs ∧ Below w.heap.size w w'

theorem put_end {w w3 : World} {base N k : Nat} {x : Int} {xs L : List Int} {v3 : Value} (hb : base ≤ w.heap.size) (e : put xs x = xs.take k ++ x :: xs.drop k)
    (hown : Owns w3 w.heap.size v3 N L) (hL : L = xs.take k ++ x :: xs.drop k) (hv : ¬ v3 = .slice none 0 0) (hb3 : Below w.heap.size w w3) : OwnRes w base (put xs x) (.returned v3) w3 := by
  rw [e, ← hL]
  have hN := hown.length
  subst hN
  obtain ⟨g, c, rfl⟩ := hown.head hv
  exact ⟨g, c, rfl, hown.mono hb, hb3⟩

set_option maxRecDepth 20000 in
set_option maxHeartbeats 1600000 in
theorem put_any (g n c : Nat) (x : Int) (xs : List Int) (base : Nat) (w : World) (h : Owns w base (.slice (some ⟨g, 0, none⟩) n c) n xs) (hn : n ≤ 1099511627776) (hb : base ≤ w.heap.size) :
    Calls Tryz.prog 43 #[.slice (some ⟨g, 0, none⟩) n c, .int .i64 x] w (OwnRes w base (put xs x)) := by
  obtain ⟨i0, hi, hz0, hz1, hz2⟩ := info_parts info_int
  have hl := h.length
  obtain ⟨_, hnc, hcm, hr⟩ := h.row
  obtain ⟨hg, hcl⟩ := h.cells
  have HO := Lib.hid h
  have HL := Lib.hid hl
  have HR := Lib.hid hr
  have HC := Lib.hid hcl
  clear h hl hr hcl
  unfold maxLen at hcm
  go_enter Tryz.func43, Tryz.ntmps43
  go_wp2
  go_loop [5] (fun i => ∃ k : Nat, k ≤ n ∧ i = .int .i64 k ∧ Hid (∀ j, j < k → xs.getD j 0 < x)) (fun i => n - (intOf i).toNat)
  case atStart => exact ⟨0, Nat.zero_le _, rfl, fun j hj => absurd hj (by omega)⟩
  case round =>
    obtain ⟨k, hk, rfl, HT⟩ := hrel
    by_cases hlt : k < n
    · obtain ⟨y, hy⟩ : ∃ y, y = xs.getD k 0 := ⟨_, rfl⟩
      have g1 : w.cell? ⟨g, k, none⟩ = some (.int .i64 y) := by rw [hy]; exact HC.out k hlt
      have HY := Lib.hid hy
      clear hy
      by_cases h1 : y < x
      · go_wp2
        go_round
        case rel =>
          refine ⟨k + 1, by omega, by go_num, ?_⟩
          intro j hj
          by_cases e : j = k
          · subst e; rw [← HY.out]; exact h1
          · exact HT.out j (by omega)
        case measure => simp [intOf]; omega
      · by_cases h2 : y = x
        · subst h2
          go_wp2
          go_ret
          have e := put_same HL.out hlt HT.out HY.out
          unfold OwnRes
          rw [e]
          refine ⟨g, c, ?_, ?_, Below.refl _ _⟩
          · rw [HL.out]; rfl
          · rw [HL.out]; exact HO.out
        · have hlt2 : x < y := by omega
          clear h1 h2
          have T0 := owns_lit w [] 0 rfl (by unfold maxLen; omega)
          have S0 := src_take (c := c) HC.out hg HL.out hk ((Below.refl _ w).alloc (Nat.le_refl _) (.cells ((([] : List Int).map (Value.int .i64)).toArray) 3))
          go_wp2_with (at_builtin; refine wpList_app rfl (.tmp 34) (.tmp 37) rfl w.heap.size i0 Tryz.underlying24 hi hz0 hz1 hz2 _ _ _ rfl T0 _ k _ (xs.take k) rfl S0 (by omega) (by simp) ?_)
          rintro v1 w1 ⟨hown1, hgrow1, hnil1⟩
          have hv1 : ¬ v1 = .slice none 0 0 := fun e => by have := (hnil1.1 e).1; simp at this
          have hb1 : Below w.heap.size w w1 := T0.grown ((Below.refl _ w).alloc (Nat.le_refl _) _) hgrow1 (Nat.le_refl _) (by simp)
          have T1 := hown1.alloc (.cells #[.int .i64 x] 3)
          have S1 : Src (w1.alloc (.cells #[.int .i64 x] 3)) (some ⟨w1.heap.size, 0, none⟩) 1 1 [x] := src_one (by simp)
          clear hnil1 hgrow1 T0 S0
          go_wp2_with (at_builtin; refine wpList_app rfl (.tmp 39) (.tmp 41) rfl w.heap.size i0 Tryz.underlying24 hi hz0 hz1 hz2 _ _ _ rfl T1 _ 1 _ [x] rfl S1 (by omega) (by have := hb1.size; simp; omega) ?_)
          rintro v2 w2 ⟨hown2, hgrow2, hnil2⟩
          have hv2 : ¬ v2 = .slice none 0 0 := fun e => by have := (hnil2.1 e).2; omega
          have hb2 : Below w.heap.size w w2 := T1.grown (hb1.alloc hb1.size _) hgrow2 (Nat.le_refl _) (by have := hb1.size; simp; omega)
          clear hnil2 hgrow2 T1 S1 hown1
          go_wp2_with (at_builtin; refine wpList_app rfl (.tmp 43) (.tmp 46) rfl w.heap.size i0 Tryz.underlying24 hi hz0 hz1 hz2 _ _ _ rfl hown2 _ (n - k) _ (xs.drop k) rfl (src_drop HC.out hg HL.out hnc hk hb2 (by intro h; first | rfl | simp [h]) (by first | exact ⟨_, rfl⟩ | (split <;> exact ⟨_, rfl⟩))) (by omega) hb2.size ?_)
          all_goals
            rintro v3 w3 ⟨hown3, hgrow3, hnil3⟩
            have hv3 : ¬ v3 = .slice none 0 0 := fun e => hv2 (hnil3.1 e).1
            have hb3 : Below w.heap.size w w3 := hown2.grown hb2 hgrow3 (Nat.le_refl _) hb2.size
            clear hnil3 hgrow3 hown2
            go_wp2
            go_ret
            exact put_end hb (put_new HL.out hk HT.out (Or.inr (by rw [← HY.out]; exact hlt2))) hown3 (by simp) hv3 hb3
    · have HKN : Hid (k = n) := by unfold Hid; omega
      have T0 := owns_lit w [] 0 rfl (by unfold maxLen; omega)
      have S0 := src_take (c := c) HC.out hg HL.out hk ((Below.refl _ w).alloc (Nat.le_refl _) (.cells ((([] : List Int).map (Value.int .i64)).toArray) 3))
      go_wp2_with (at_builtin; refine wpList_app rfl (.tmp 34) (.tmp 37) rfl w.heap.size i0 Tryz.underlying24 hi hz0 hz1 hz2 _ _ _ rfl T0 _ k _ (xs.take k) rfl S0 (by omega) (by simp) ?_)
      rintro v1 w1 ⟨hown1, hgrow1, hnil1⟩
      have hv1 : ¬ v1 = .slice none 0 0 := fun e => by have := (hnil1.1 e).1; simp at this
      have hb1 : Below w.heap.size w w1 := T0.grown ((Below.refl _ w).alloc (Nat.le_refl _) _) hgrow1 (Nat.le_refl _) (by simp)
      have T1 := hown1.alloc (.cells #[.int .i64 x] 3)
      have S1 : Src (w1.alloc (.cells #[.int .i64 x] 3)) (some ⟨w1.heap.size, 0, none⟩) 1 1 [x] := src_one (by simp)
      clear hnil1 hgrow1 T0 S0
      go_wp2_with (at_builtin; refine wpList_app rfl (.tmp 39) (.tmp 41) rfl w.heap.size i0 Tryz.underlying24 hi hz0 hz1 hz2 _ _ _ rfl T1 _ 1 _ [x] rfl S1 (by omega) (by have := hb1.size; simp; omega) ?_)
      rintro v2 w2 ⟨hown2, hgrow2, hnil2⟩
      have hv2 : ¬ v2 = .slice none 0 0 := fun e => by have := (hnil2.1 e).2; omega
      have hb2 : Below w.heap.size w w2 := T1.grown (hb1.alloc hb1.size _) hgrow2 (Nat.le_refl _) (by have := hb1.size; simp; omega)
      clear hnil2 hgrow2 T1 S1 hown1
      go_wp2_with (at_builtin; refine wpList_app rfl (.tmp 43) (.tmp 46) rfl w.heap.size i0 Tryz.underlying24 hi hz0 hz1 hz2 _ _ _ rfl hown2 _ (n - k) _ (xs.drop k) rfl (src_drop HC.out hg HL.out hnc hk hb2 (by intro h; first | rfl | simp [h]) (by first | exact ⟨_, rfl⟩ | (split <;> exact ⟨_, rfl⟩))) (by omega) hb2.size ?_)
      all_goals
        rintro v3 w3 ⟨hown3, hgrow3, hnil3⟩
        have hv3 : ¬ v3 = .slice none 0 0 := fun e => hv2 (hnil3.1 e).1
        have hb3 : Below w.heap.size w w3 := hown2.grown hb2 hgrow3 (Nat.le_refl _) hb2.size
        clear hnil3 hgrow3 hown2
        go_wp2
        go_ret
        exact put_end hb (put_new HL.out hk HT.out (Or.inl HKN.out)) hown3 (by simp) hv3 hb3

end Go.Proofs.YtfhjhfhfbgddeaaGreatDoor
