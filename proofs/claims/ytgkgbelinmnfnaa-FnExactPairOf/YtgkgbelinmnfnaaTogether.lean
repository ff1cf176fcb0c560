/-
  The contracts of slices.BinarySearch, slices.Clone and slices.Concat in the words of this seat, and of combineOthers and putTogether. Conditions: rows of ints of at most 2^22 elements; the one that is searched rises.
-/
import Derived.Test.YtgkgbelinmnfnaaLetters
namespace Go.Proofs.Ytgkgbelinmnfnaa
open Go.RowKit

theorem search_any (a : Option Addr) (n c : Nat) (x : Int) (xs : List Int) (w : World) (h : Row w a n xs) (hn : n ≤ 1099511627776) (hs : xs.Pairwise (· < ·)) :
    Calls Try.prog 75 #[.slice a n c, .int .i64 x] w fun e w' => e = .returned (.tuple #[.int .i64 ((xs.countP (· < x) : Nat) : Int), .bool (hasB xs x)]) ∧ Below w.heap.size w w' := by
  obtain ⟨hl, hc⟩ := h
  by_cases h0 : 0 < n
  · obtain ⟨b, off, rfl, hb, hcell⟩ := hc h0
    have ht : xs.take n = xs := List.take_of_length_le (by omega)
    refine (Try.slices_BinarySearch_int b off n c xs x w (by omega) (by omega) (fun j hj => hcell j (by omega)) (by rw [ht]; exact hs.imp (fun h => by omega))).mono ?_
    rintro e w' ⟨rfl, q, rfl⟩
    refine ⟨?_, below_drewN (Below.refl _ _) _⟩
    rw [ht]; simp [hasB]
  · obtain rfl : n = 0 := by omega
    obtain rfl : xs = [] := List.length_eq_zero_iff.1 hl
    refine (Try.slices_BinarySearch_int_empty a c x w).mono ?_
    rintro e w' ⟨rfl, rfl⟩
    exact ⟨rfl, Below.refl _ _⟩

/-- A row of ints comes back, nil perhaps. -/
def RowRes (w : World) (base : Nat) (xs : List Int) (e : Ending) (w' : World) : Prop :=
  ∃ v, e = .returned v ∧ Owns w' base v xs.length xs ∧ Below w.heap.size w w'

theorem clone_any (a : Option Addr) (n c : Nat) (xs : List Int) (w : World) (h : Row w a n xs) (hn : n ≤ 1099511627776) :
    Calls Try.prog 76 #[.slice a n c] w (RowRes w w.heap.size xs) := by
  obtain ⟨hl, hc⟩ := h
  by_cases h0 : 0 < n
  · obtain ⟨b, off, rfl, hb, hcell⟩ := hc h0
    have ht : xs.take n = xs := List.take_of_length_le (by omega)
    refine (Try.slices_Clone_int b off n c xs w (by omega) (by omega) (fun j hj => hcell j (by omega))).mono ?_
    rintro e w' ⟨v, rfl, ho, _, hb'⟩
    rw [ht] at ho
    subst hl
    exact ⟨v, rfl, ho, hb'⟩
  · obtain rfl : n = 0 := by omega
    obtain rfl : xs = [] := List.length_eq_zero_iff.1 hl
    cases a with
    | none =>
      refine (Try.slices_Clone_int_nil 0 c w).mono ?_
      rintro e w' ⟨rfl, rfl⟩
      exact ⟨_, rfl, World.ownsRow_nil _ _ _ _, Below.refl _ _⟩
    | some ad =>
      refine (Try.slices_Clone_int_zero ad c w).mono ?_
      rintro e w' ⟨v, rfl, ho, _, hb'⟩
      exact ⟨v, rfl, ho, hb'⟩

/-- The actions of a mask, rising. -/
def acts (p : Nat → Bool) (k : Nat) : List Int := ((List.range k).filter p).map (fun i : Nat => (i : Int))

theorem acts_yes {p : Nat → Bool} {k : Nat} (h : p k = true) : acts p (k + 1) = acts p k ++ [(k : Int)] := by
  simp [acts, List.range_succ, h]
theorem acts_no {p : Nat → Bool} {k : Nat} (h : p k = false) : acts p (k + 1) = acts p k := by
  simp [acts, List.range_succ, h]

def together (p : Nat → Bool) (L : List Int) : List Int := L.take (L.countP (· < 0)) ++ acts p 12 ++ L.drop (L.countP (· < 0))

theorem together_of {p : Nat → Bool} {L T : List Int} {m k : Nat} (hm : m = L.countP (· < 0)) (hk : ¬ k < 12) (hk2 : k ≤ 12) (hT : T = L.take m ++ acts p k) : T ++ L.drop m = together p L := by
  obtain rfl : k = 12 := by omega
  subst hT; subst hm; rfl

set_option maxRecDepth 20000 in
set_option maxHeartbeats 1600000 in
theorem putTogether_any (M : Int) (p : Nat → Bool) (v : Value) (n base : Nat) (L : List Int) (w : World) (hM : Mask M p) (h : Owns w base v n L) (hn : n ≤ 4194304) (hs : L.Pairwise (· < ·)) :
    Calls Try.prog 67 #[.int .u16 M, v] w (RowRes w w.heap.size (together p L)) := by
  obtain ⟨i0, hi, hz0, hz1, hz2⟩ := info_parts info_int
  have HM := Lib.hid hM
  have HL := Lib.hid h.length
  have HS := Lib.hid hs
  clear hM hs
  obtain ⟨m, hm⟩ : ∃ m, m = L.countP (· < 0) := ⟨_, rfl⟩
  have hmn : m ≤ n := by rw [hm, ← HL.out]; exact List.countP_le_length
  have HMM := Lib.hid hm
  by_cases hv : v = .slice none 0 0
  · subst hv
    obtain rfl : n = 0 := h.row.1.symm
    have e0 : L = [] := List.length_eq_zero_iff.1 HL.out
    subst e0
    have hr := h.row.2.2.2
    have HR := Lib.hid hr
    obtain rfl : m = 0 := by omega
    clear h hr hm
    go_enter Try.func67, Try.ntmps67
    go_wp2_with fail
    refine (Try.slices_BinarySearch_int_empty _ _ _ _).mono ?_
    rintro e w' ⟨rfl, rfl⟩
    go_wp2_with fail
    refine (Try.slices_Clone_int_nil _ _ _).mono ?_
    rintro e w' ⟨rfl, rfl⟩
    go_wp2_with fail
    go_loopw [7, 18] (fun v i wr => ∃ (k len : Nat) (v0 : Value) (T : List Int), k ≤ 12 ∧ i = .int .i64 k ∧ v = v0 ∧ Owns wr w'.heap.size v0 len T ∧ Hid (T = ([] : List Int).take 0 ++ acts p k) ∧ len ≤ k ∧ Below w'.heap.size w' wr) (fun _ i _ => 12 - (intOf i).toNat)
    case atStart => exact ⟨0, 0, _, [], by omega, rfl, rfl, World.ownsRow_nil _ _ _ _, rfl, Nat.le_refl _, Below.refl _ _⟩
    case round =>
      obtain ⟨k, len, v0, T, hk, rfl, rfl, hown, HT, hlen, hnx⟩ := hrel
      by_cases hlt : k < 12
      · have ht := HM.out.test (k := k) (by omega)
        by_cases hp : p k = true
        · rw [hp] at ht
          have T1 := hown.alloc (.cells #[.int .i64 (k : Int)] 3)
          have S1 : Src (wr.alloc (.cells #[.int .i64 (k : Int)] 3)) (some ⟨wr.heap.size, 0, none⟩) 1 1 [(k : Int)] := src_one (by simp)
          go_wp2_with (at_builtin; refine wpList_app rfl (.tmp 26) (.tmp 28) rfl w'.heap.size i0 Try.underlying22 hi hz0 hz1 hz2 _ _ _ rfl T1 _ 1 _ [(k : Int)] rfl S1 (by omega) (by have := hnx.size; simp; omega) ?_)
          rintro v2 w2 ⟨hown2, hgrow2, _⟩
          have hb2 : Below w'.heap.size w' w2 := T1.grown (hnx.alloc hnx.size _) hgrow2 (Nat.le_refl _) (by have := hnx.size; simp; omega)
          clear T1 S1 hgrow2 hown
          go_wp2_with fail
          go_roundw
          case rel => exact ⟨k + 1, len + 1, v2, T ++ [(k : Int)], by omega, by go_num, rfl, hown2, by unfold Hid; rw [acts_yes hp, ← List.append_assoc, ← HT.out], by omega, hb2⟩
          case measure => simp [intOf]; omega
        · have hp2 : p k = false := by simpa using hp
          rw [hp2] at ht
          clear hp
          go_wp2_with fail
          go_roundw
          case rel => exact ⟨k + 1, len, _, T, by omega, by go_num, rfl, hown, by unfold Hid; rw [acts_no hp2]; exact HT.out, by omega, hnx⟩
          case measure => simp [intOf]; omega
      · have HT2 : Hid (T ++ ([] : List Int) = together p []) := together_of (L := []) HMM.out hlt hk HT.out
        go_wp2_with (at_builtin; refine wpList_app rfl (.tmp 31) (.tmp 34) rfl w'.heap.size i0 Try.underlying22 hi hz0 hz1 hz2 _ _ _ rfl hown _ 0 _ [] rfl (Src.nil _) (by omega) hnx.size ?_)
        rintro v2 w2 ⟨hown2, hgrow2, _⟩
        have hb2 := hown.grown hnx hgrow2 (Nat.le_refl _) hnx.size
        have H2 := Lib.hid hown2
        clear hgrow2 hown hown2
        go_wp2_with fail
        go_ret
        have hh := H2.out
        have e := HT2.out
        rw [List.append_nil] at e
        simp only [List.append_nil] at hh
        rw [e] at hh
        have e2 := hh.length
        rw [← e2] at hh
        exact ⟨_, rfl, hh, hb2⟩
  · obtain ⟨g, c, rfl⟩ := h.head hv
    have hnc := h.row.2.1
    have hcm := h.row.2.2.1
    unfold maxLen at hcm
    have HR := Lib.hid h.row.2.2.2
    have HC := Lib.hid h.cells.2
    have hg := h.cells.1
    clear h hm hv
    go_enter Try.func67, Try.ntmps67
    go_wp2_with fail
    refine (search_any _ _ _ _ L _ HR.out (by omega) HS.out).mono ?_
    rintro e w1 ⟨rfl, hb1⟩
    rw [← HMM.out]
    have S1 := src_take (c := c) HC.out hg HL.out hmn hb1
    have R1 : Row w1 (some ⟨g, 0, none⟩) m (L.take m) := ⟨by simp; have := HL.out; omega, fun _ => ⟨g, 0, rfl, Nat.lt_of_lt_of_le hg hb1.size, fun j hj => by
      rw [hb1.cell (p := ⟨g, 0 + j, none⟩) hg, Nat.zero_add, HC.out j (by omega)]; simp [hj]⟩⟩
    have HR1 := Lib.hid R1
    clear S1 R1
    go_wp2_with fail
    refine (clone_any _ _ _ (L.take m) _ HR1.out (by omega)).mono ?_
    rintro e w2 ⟨v2, rfl, hown2, hb2⟩
    have hb12 : Below w.heap.size w w2 := hb1.trans (hb2.mono hb1.size)
    have e3 : (L.take m).length = m := by simp; have := HL.out; omega
    rw [e3] at hown2
    have hown3 := hown2.mono (base := w.heap.size) hb1.size
    clear hown2 hb2 e3
    go_wp2_with fail
    go_loopw [7, 18] (fun v i wr => ∃ (k len : Nat) (v0 : Value) (T : List Int), k ≤ 12 ∧ i = .int .i64 k ∧ v = v0 ∧ Owns wr w.heap.size v0 len T ∧ Hid (T = L.take m ++ acts p k) ∧ len ≤ n + k ∧ Below w.heap.size w wr) (fun _ i _ => 12 - (intOf i).toNat)
    case atStart => exact ⟨0, m, _, L.take m, by omega, rfl, rfl, hown3, by simp [Hid, acts], by omega, hb12⟩
    case round =>
      obtain ⟨k, len, v0, T, hk, rfl, rfl, hown, HT, hlen, hnx⟩ := hrel
      by_cases hlt : k < 12
      · have ht := HM.out.test (k := k) (by omega)
        by_cases hp : p k = true
        · rw [hp] at ht
          have T1 := hown.alloc (.cells #[.int .i64 (k : Int)] 3)
          have S1 : Src (wr.alloc (.cells #[.int .i64 (k : Int)] 3)) (some ⟨wr.heap.size, 0, none⟩) 1 1 [(k : Int)] := src_one (by simp)
          go_wp2_with (at_builtin; refine wpList_app rfl (.tmp 26) (.tmp 28) rfl w.heap.size i0 Try.underlying22 hi hz0 hz1 hz2 _ _ _ rfl T1 _ 1 _ [(k : Int)] rfl S1 (by omega) (by have := hnx.size; simp; omega) ?_)
          rintro v2 w2 ⟨hown2, hgrow2, _⟩
          have hb2 : Below w.heap.size w w2 := T1.grown (hnx.alloc hnx.size _) hgrow2 (Nat.le_refl _) (by have := hnx.size; simp; omega)
          clear T1 S1 hgrow2 hown
          go_wp2_with fail
          go_roundw
          case rel => exact ⟨k + 1, len + 1, v2, T ++ [(k : Int)], by omega, by go_num, rfl, hown2, by unfold Hid; rw [acts_yes hp, ← List.append_assoc, ← HT.out], by omega, hb2⟩
          case measure => simp [intOf]; omega
        · have hp2 : p k = false := by simpa using hp
          rw [hp2] at ht
          clear hp
          go_wp2_with fail
          go_roundw
          case rel => exact ⟨k + 1, len, _, T, by omega, by go_num, rfl, hown, by unfold Hid; rw [acts_no hp2]; exact HT.out, by omega, hnx⟩
          case measure => simp [intOf]; omega
      · have HT2 : Hid (T ++ L.drop m = together p L) := together_of HMM.out hlt hk HT.out
        go_wp2_with (at_builtin; refine wpList_app rfl (.tmp 31) (.tmp 34) rfl w.heap.size i0 Try.underlying22 hi hz0 hz1 hz2 _ _ _ rfl hown _ (n - m) _ (L.drop m) rfl (src_drop HC.out hg HL.out hnc hmn hnx (by intro h; first | rfl | simp [h]) (by first | exact ⟨_, rfl⟩ | (split <;> exact ⟨_, rfl⟩))) (by omega) hnx.size ?_)
        all_goals
          rintro v2 w2 ⟨hown2, hgrow2, _⟩
          have hb2 := hown.grown hnx hgrow2 (Nat.le_refl _) hnx.size
          have H2 := Lib.hid hown2
          clear hgrow2 hown hown2
          go_wp2_with fail
          go_ret
          have hh := H2.out
          rw [HT2.out] at hh
          have e2 := hh.length
          rw [← e2] at hh
          exact ⟨_, rfl, hh, hb2⟩

end Go.Proofs.Ytgkgbelinmnfnaa
