/-
  Contracts of the model's SetJoin, SetMeet, SetLess and SetIn over lists. Conditions: the slices read as lists of ints of at most 2^21 elements.
-/
import Derived.Test.YtfhjhfhfbgddeaaGreatDoorPut
namespace Go.Proofs.YtfhjhfhfbgddeaaGreatDoor
open Go.RowKit

def putAll (L xs : List Int) : List Int := xs.foldl put L
def meetOf (xs ys : List Int) : List Int := putAll [] (xs.filter fun x => decide (x ∈ ys))
def lessOf (xs ys : List Int) : List Int := putAll [] (xs.filter fun x => !decide (x ∈ ys))
def joinOf (xs ys : List Int) : List Int := putAll (putAll [] xs) ys

theorem put_len (xs : List Int) (x : Int) : (put xs x).length ≤ xs.length + 1 := by
  simp only [put]
  have := congrArg List.length (List.takeWhile_append_dropWhile (p := fun y => decide (y < x)) (l := xs))
  split
  · omega
  · rw [List.length_append] at this
    simp only [List.length_append, List.length_cons]
    omega

theorem putAll_step {L xs : List Int} {k : Nat} (hk : k < xs.length) : putAll L (xs.take (k + 1)) = put (putAll L (xs.take k)) (xs.getD k 0) := by
  rw [List.take_succ_eq_append_getElem hk, getD_eq xs k hk]
  simp only [putAll, List.foldl_append, List.foldl_cons, List.foldl_nil]

theorem putAll_nil (L : List Int) : putAll L [] = L := rfl

theorem filter_step {xs : List Int} {k : Nat} (p : Int → Bool) (hk : k < xs.length) : (xs.take (k + 1)).filter p = (xs.take k).filter p ++ (if p (xs.getD k 0) then [xs.getD k 0] else []) := by
  rw [List.take_succ_eq_append_getElem hk, List.filter_append, getD_eq xs k hk]
  congr 1
  by_cases h : p xs[k] = true
  · simp [h]
  · simp [h]

theorem putAll_snoc (L xs : List Int) (x : Int) : putAll L (xs ++ [x]) = put (putAll L xs) x := by simp [putAll]

set_option maxRecDepth 20000 in
set_option maxHeartbeats 1600000 in
theorem specSetJoin_any (a a2 : Option Addr) (n c m c2 : Nat) (xs ys : List Int) (w : World) (h : Row w a n xs) (h2 : Row w a2 m ys) (hn : n ≤ 2097152) (hm : m ≤ 2097152) :
    Calls Tryz.prog 39 #[.slice a n c, .slice a2 m c2] w (OwnRes w w.heap.size (joinOf xs ys)) := by
  obtain ⟨hl, hc⟩ := h
  obtain ⟨hl2, hc2⟩ := h2
  have HL := Lib.hid hl
  have HL2 := Lib.hid hl2
  have HC := Lib.hid hc
  have HC2 := Lib.hid hc2
  clear hl hl2 hc hc2
  go_enter Tryz.func39, Tryz.ntmps39
  go_wp2
  go_loopw [5, 6] (fun out i wr => ∃ (k g c0 len : Nat) (L : List Int), k ≤ n ∧ i = .int .i64 k ∧ out = .slice (some ⟨g, 0, none⟩) len c0 ∧ Owns wr w.heap.size (.slice (some ⟨g, 0, none⟩) len c0) len L ∧ Hid (L = putAll [] (xs.take k)) ∧ len ≤ k ∧ Below w.heap.size w wr)
    (fun _ i _ => n - (intOf i).toNat)
  case atStart => exact ⟨0, w.heap.size, 0, 0, [], Nat.zero_le _, rfl, rfl, owns_lit w [] 0 rfl (by unfold maxLen; omega), rfl, Nat.le_refl _, (Below.refl _ w).alloc (Nat.le_refl _) _⟩
  case round =>
    obtain ⟨k, g, c0, len, L, hk, rfl, rfl, hown, HT, hlen, hnx⟩ := hrel
    by_cases hlt : k < n
    · obtain ⟨b, off, rfl, hb, hcell⟩ := HC.out (by omega)
      obtain ⟨x, hx⟩ : ∃ x, x = xs.getD k 0 := ⟨_, rfl⟩
      have g1 : wr.cell? ⟨b, off + k, none⟩ = some (.int .i64 x) := by rw [hx]; exact (hnx.cell (p := ⟨b, off + k, none⟩) hb).trans (hcell k hlt)
      have HX := Lib.hid hx
      clear hx hcell
      go_wp2_with fail
      refine (put_any g len c0 x L w.heap.size _ hown (by omega) hnx.size).mono ?_
      rintro e w' ⟨g', c', rfl, ho, hb'⟩
      have hpl := put_len L x
      have hll := hown.length
      have hpl2 : (put L x).length ≤ k + 1 := by omega
      clear hpl hll
      go_wp2_with fail
      go_roundw
      case rel => exact ⟨k + 1, g', c', (put L x).length, put L x, by omega, by go_num, rfl, ho, by unfold Hid; rw [putAll_step (by rw [HL.out]; exact hlt), ← HT.out, ← HX.out], hpl2, hnx.trans (hb'.mono hnx.size)⟩
      case measure => simp [intOf]; omega
    · have HT1 : Hid (L = putAll [] xs) := by
        have := HT.out
        rw [List.take_of_length_le (by rw [HL.out]; omega)] at this
        exact this
      clear HT
      go_wp2_with fail
      go_loopw [5, 7] (fun out i wr2 => ∃ (k2 g c0 len : Nat) (L2 : List Int), k2 ≤ m ∧ i = .int .i64 k2 ∧ out = .slice (some ⟨g, 0, none⟩) len c0 ∧ Owns wr2 w.heap.size (.slice (some ⟨g, 0, none⟩) len c0) len L2 ∧ Hid (L2 = putAll L (ys.take k2)) ∧ len ≤ n + k2 ∧ Below w.heap.size w wr2)
        (fun _ i _ => m - (intOf i).toNat)
      case atStart => exact ⟨0, g, c0, len, L, Nat.zero_le _, rfl, rfl, hown, rfl, by omega, hnx⟩
      case round =>
        obtain ⟨k2, g2, c3, len2, L2, hk2, rfl, rfl, hown2, HT2, hlen2, hnx2⟩ := hrel
        by_cases hlt2 : k2 < m
        · obtain ⟨b, off, rfl, hb, hcell⟩ := HC2.out (by omega)
          obtain ⟨x, hx⟩ : ∃ x, x = ys.getD k2 0 := ⟨_, rfl⟩
          have g1 : wr.cell? ⟨b, off + k2, none⟩ = some (.int .i64 x) := by rw [hx]; exact (hnx2.cell (p := ⟨b, off + k2, none⟩) hb).trans (hcell k2 hlt2)
          have HX := Lib.hid hx
          clear hx hcell
          go_wp2_with fail
          refine (put_any g2 len2 c3 x L2 w.heap.size _ hown2 (by omega) hnx2.size).mono ?_
          rintro e w' ⟨g', c', rfl, ho, hb'⟩
          have hpl := put_len L2 x
          have hll := hown2.length
          have hpl2 : (put L2 x).length ≤ n + (k2 + 1) := by omega
          clear hpl hll
          go_wp2_with fail
          go_roundw
          case rel => exact ⟨k2 + 1, g', c', (put L2 x).length, put L2 x, by omega, by go_num, rfl, ho, by unfold Hid; rw [putAll_step (by rw [HL2.out]; exact hlt2), ← HT2.out, ← HX.out], hpl2, hnx2.trans (hb'.mono hnx2.size)⟩
          case measure => simp [intOf]; omega
        · have HT3 : L2 = joinOf xs ys := by
            have := HT2.out
            rw [List.take_of_length_le (by rw [HL2.out]; omega), HT1.out] at this
            exact this
          have H3 := Lib.hid HT3
          clear HT3
          go_wp2_with fail
          go_ret
          have := H3.out
          subst this
          have e := hown2.length
          subst e
          exact ⟨g2, c3, rfl, hown2, hnx2⟩

set_option maxRecDepth 20000 in
set_option maxHeartbeats 1600000 in
theorem specSetMeet_any (a a2 : Option Addr) (n c m c2 : Nat) (xs ys : List Int) (w : World) (h : Row w a n xs) (h2 : Row w a2 m ys) (hn : n ≤ 2097152) (hm : m ≤ 2097152) :
    Calls Tryz.prog 23 #[.slice a n c, .slice a2 m c2] w (OwnRes w w.heap.size (meetOf xs ys)) := by
  obtain ⟨hl, hc⟩ := h
  have HL := Lib.hid hl
  have HR2 := Lib.hid h2
  have HC := Lib.hid hc
  clear hl hc h2
  go_enter Tryz.func23, Tryz.ntmps23
  go_wp2
  go_loopw [5, 6] (fun out i wr => ∃ (k g c0 len : Nat) (L : List Int), k ≤ n ∧ i = .int .i64 k ∧ out = .slice (some ⟨g, 0, none⟩) len c0 ∧ Owns wr w.heap.size (.slice (some ⟨g, 0, none⟩) len c0) len L ∧ Hid (L = putAll [] ((xs.take k).filter (fun x => decide (x ∈ ys)))) ∧ len ≤ k ∧ Below w.heap.size w wr)
    (fun _ i _ => n - (intOf i).toNat)
  case atStart => exact ⟨0, w.heap.size, 0, 0, [], Nat.zero_le _, rfl, rfl, owns_lit w [] 0 rfl (by unfold maxLen; omega), rfl, Nat.le_refl _, (Below.refl _ w).alloc (Nat.le_refl _) _⟩
  case round =>
    obtain ⟨k, g, c0, len, L, hk, rfl, rfl, hown, HT, hlen, hnx⟩ := hrel
    by_cases hlt : k < n
    · obtain ⟨b, off, rfl, hb, hcell⟩ := HC.out (by omega)
      obtain ⟨x, hx⟩ : ∃ x, x = xs.getD k 0 := ⟨_, rfl⟩
      have g1 : wr.cell? ⟨b, off + k, none⟩ = some (.int .i64 x) := by rw [hx]; exact (hnx.cell (p := ⟨b, off + k, none⟩) hb).trans (hcell k hlt)
      have HX := Lib.hid hx
      clear hx hcell
      have HF : Hid ((xs.take (k + 1)).filter (fun x => decide (x ∈ ys)) = (xs.take k).filter (fun x => decide (x ∈ ys)) ++ (if (fun x => decide (x ∈ ys)) x then [x] else [])) := by
        unfold Hid; rw [HX.out]; exact filter_step _ (by rw [HL.out]; exact hlt)
      by_cases hh : hasB ys x = true
      · have HH : Hid ((fun x => decide (x ∈ ys)) x = true) := by unfold hasB at hh; unfold Hid; simp at hh; simp [hh]
        go_wp2_with fail
        refine (specSetHas_any _ _ _ _ ys _ (HR2.out.below hnx) (by omega)).mono ?_
        rintro e w' ⟨rfl, rfl⟩
        go_wp2_with fail
        refine (put_any g len c0 x L w.heap.size _ hown (by omega) hnx.size).mono ?_
        rintro e w' ⟨g', c', rfl, ho, hb'⟩
        have hpl := put_len L x
        have hll := hown.length
        have hpl2 : (put L x).length ≤ k + 1 := by omega
        clear hpl hll
        go_wp2_with fail
        go_roundw
        case rel => exact ⟨k + 1, g', c', (put L x).length, put L x, by omega, by go_num, rfl, ho, by unfold Hid; rw [HF.out, if_pos HH.out, putAll_snoc, ← HT.out], hpl2, hnx.trans (hb'.mono hnx.size)⟩
        case measure => simp [intOf]; omega
      · have hh2 : hasB ys x = false := by simpa using hh
        have HH : Hid (¬ (fun x => decide (x ∈ ys)) x = true) := by unfold hasB at hh2; unfold Hid; simp at hh2; simp [hh2]
        clear hh
        go_wp2_with fail
        refine (specSetHas_any _ _ _ _ ys _ (HR2.out.below hnx) (by omega)).mono ?_
        rintro e w' ⟨rfl, rfl⟩
        go_wp2_with fail
        go_roundw
        case rel => exact ⟨k + 1, g, c0, len, L, by omega, by go_num, rfl, hown, by unfold Hid; rw [HF.out, if_neg HH.out, List.append_nil]; exact HT.out, by omega, hnx⟩
        case measure => simp [intOf]; omega
    · have HT1 : Hid (L = meetOf xs ys) := by
        have := HT.out
        rw [List.take_of_length_le (by rw [HL.out]; omega)] at this
        exact this
      clear HT
      go_wp2_with fail
      go_ret
      have := HT1.out
      subst this
      have e := hown.length
      subst e
      exact ⟨g, c0, rfl, hown, hnx⟩

def inB (xs ys : List Int) : Bool := xs.all (hasB ys)

theorem in_yes {xs ys : List Int} {n k : Nat} (hl : xs.length = n) (hk : ¬ k < n) (h : ∀ j, j < k → hasB ys (xs.getD j 0) = true) : inB xs ys = true := by
  simp only [inB, List.all_eq_true]
  intro x hx
  obtain ⟨j, hj, rfl⟩ := List.getElem_of_mem hx
  have := h j (by omega)
  rwa [getD_eq xs j hj] at this

theorem in_no {xs ys : List Int} {x : Int} {k : Nat} (hk : k < xs.length) (hx : x = xs.getD k 0) (h : hasB ys x = false) : inB xs ys = false := by
  apply Bool.eq_false_iff.2
  intro e
  simp only [inB, List.all_eq_true] at e
  have := e xs[k] (List.getElem_mem hk)
  rw [← getD_eq xs k hk, ← hx, h] at this
  cases this

end Go.Proofs.YtfhjhfhfbgddeaaGreatDoor
