/-
  Contracts of the model's draws of sets (l01Open, set, DrawSetJoin, DrawSetMeet): two lists of at most 13 ints in new memory. Conditions: the code is a slice of at most 2^20 bytes.
-/
import Derived.Test.YtbhcdfliedgalaaDraw
import Derived.Test.YtbhcdfliedgalaaMark
namespace Go.Proofs.Ytbhcdfliedgalaa
open Go.RowKit

theorem grownBy_own {w w1 w2 : World} {P : Nat} {r : Option Nat} (h : w.grownBy w1 (some P)) (k : w1.grownBy w2 r) (hr : ∀ i, r = some i → w.heap.size ≤ i) : w.grownBy w2 (some P) :=
  ⟨k.os.trans h.os, k.tape.trans h.tape, k.output.trans h.output, Nat.le_trans h.size k.size, fun i hi hne => (k.block i (Nat.lt_of_lt_of_le hi h.size) (fun e => by have := hr i e.symm; omega)).trans (h.block i hi hne)⟩

/-- What set leaves. -/
def SetRes (w : World) (P t : Nat) (e : Ending) (w' : World) : Prop :=
  ∃ v n xs, e = .returned v ∧ Owns w' w.heap.size v n xs ∧ n ≤ 13 ∧ Cur w' P (t + 15) ∧ w.grownBy w' (some P)

set_option maxHeartbeats 1600000 in
theorem set_any (P t : Nat) (w : World) (h : Cur w P t) (ht : t ≤ 1000000) :
    Calls Try.prog 31 #[.pointer (some ⟨P, 0, none⟩)] w (SetRes w P t) := by
  obtain ⟨i0, hi, hz0, hz1, hz2⟩ := info_parts info_int
  have hP := h.lt
  have H := Lib.hid h
  clear h
  go_enter Try.func31, Try.ntmps31
  go_wp2_with fail
  go_loopw [3, 4] (fun out i wr => ∃ (k len : Nat) (v : Value) (T : List Int), k ≤ 12 ∧ i = .int .i64 k ∧ v = out ∧ Owns wr w.heap.size v len T ∧ len ≤ k ∧ Cur wr P (t + k) ∧ w.grownBy wr (some P)) (fun _ i _ => 12 - (intOf i).toNat)
  case atStart => exact ⟨0, 0, _, [], by omega, rfl, rfl, owns_lit w [] 0 rfl (by unfold maxLen; omega), Nat.le_refl _, H.out.below ((Below.refl _ w).alloc (Nat.le_refl _) _), World.grownBy_alloc w _ _⟩
  case round =>
    obtain ⟨k, len, v, T, hk, rfl, rfl, hown, hlen, hcur, hg⟩ := hrel
    have HO := Lib.hid hown
    have HC := Lib.hid hcur
    clear hown hcur
    have hgs := hg.size
    by_cases hlt : k < 12
    · go_wp2_with fail
      refine (pick_any P (t + k) 4 _ HC.out (by omega) (by omega) (by omega)).mono ?_
      rintro e w1 ⟨r, rfl, hr0, hr1, hcur1, hg1⟩
      have HG1 := Lib.hid (grownBy_trans hg hg1)
      have HO1 := Lib.hid (HO.out.keep hg1 (fun i hi e => by have := (HO.out.lt i hi).1; cases e; omega))
      have HC1 := Lib.hid hcur1
      have hs1 := hg1.size
      clear hg1 hcur1
      by_cases h0 : r = 0
      · subst h0
        have T1 := HO1.out.alloc (.cells #[.int .i64 (k : Int)] 3)
        have S1 : Src (w1.alloc (.cells #[.int .i64 (k : Int)] 3)) (some ⟨w1.heap.size, 0, none⟩) 1 1 [(k : Int)] := src_one (by simp)
        go_wp2_with (at_builtin; refine wpList_app rfl (.tmp 13) (.tmp 15) rfl w.heap.size i0 Try.underlying24 hi hz0 hz1 hz2 _ _ _ rfl T1 _ 1 _ [(k : Int)] rfl S1 (by omega) (by simp; omega) ?_)
        rintro v2 w2 ⟨hown2, hgrow2, _⟩
        have hr : ∀ i, v.ownBlock = some i → w.heap.size ≤ i := fun i hi => (HO1.out.lt i hi).1
        have HG2 := Lib.hid (grownBy_own HG1.out (r := v.ownBlock) (grownBy_trans (World.grownBy_alloc w1 (.cells #[.int .i64 (k : Int)] 3) _) hgrow2) hr)
        have HC2 := Lib.hid ((HC1.out.below ((Below.refl _ w1).alloc (Nat.le_refl _) (.cells #[.int .i64 (k : Int)] 3))).keep hgrow2 hP hr)
        clear T1 S1 hgrow2 hr
        go_wp2_with fail
        go_roundw
        case rel => exact ⟨k + 1, len + 1, v2, T ++ [(k : Int)], by omega, by go_num, rfl, hown2, by omega, HC2.out, HG2.out⟩
        case measure => simp [intOf]; omega
      · have h0b : (r == 0) = false := by simpa using h0
        clear h0
        go_wp2_with fail
        go_roundw
        case rel => exact ⟨k + 1, len, v, T, by omega, by go_num, rfl, HO1.out, by omega, HC1.out, HG1.out⟩
        case measure => simp [intOf]; omega
    · go_wp2_with fail
      refine (once_any P (t + k) 10 _ HC.out (by omega) (by omega) (by omega)).mono ?_
      rintro e w1 ⟨r, rfl, hcur1, hg1⟩
      have HG1 := Lib.hid (grownBy_trans hg hg1)
      have HO1 := Lib.hid (HO.out.keep hg1 (fun i hi e => by have := (HO.out.lt i hi).1; cases e; omega))
      have HC1 := Lib.hid hcur1
      have hs1 := hg1.size
      clear hg1 hcur1
      cases r with
      | false =>
        go_wp2_with fail
        go_ret
        exact ⟨v, len, T, rfl, HO1.out, by omega, HC1.out.mono (by omega), HG1.out⟩
      | true =>
        go_wp2_with fail
        refine (raw_any P (t + k + 1) _ HC1.out (by omega)).mono ?_
        rintro e w2 ⟨x, rfl, _, hcur2, hg2⟩
        have HG2 := Lib.hid (grownBy_trans HG1.out hg2)
        have HO2 := Lib.hid (HO1.out.keep hg2 (fun i hi e => by have := (HO1.out.lt i hi).1; cases e; omega))
        have HC2 := Lib.hid hcur2
        have hs2 := hg2.size
        clear hg2 hcur2
        have T1 := HO2.out.alloc (.cells #[.int .i64 x] 3)
        have S1 : Src (w2.alloc (.cells #[.int .i64 x] 3)) (some ⟨w2.heap.size, 0, none⟩) 1 1 [x] := src_one (by simp)
        go_wp2_with (at_builtin; refine wpList_app rfl (.tmp 19) (.tmp 22) rfl w.heap.size i0 Try.underlying24 hi hz0 hz1 hz2 _ _ _ rfl T1 _ 1 _ [x] rfl S1 (by omega) (by simp; omega) ?_)
        rintro v3 w3 ⟨hown3, hgrow3, _⟩
        have hr : ∀ i, v.ownBlock = some i → w.heap.size ≤ i := fun i hi => (HO2.out.lt i hi).1
        have HG3 := Lib.hid (grownBy_own HG2.out (r := v.ownBlock) (grownBy_trans (World.grownBy_alloc w2 (.cells #[.int .i64 x] 3) _) hgrow3) hr)
        have HC3 := Lib.hid ((HC2.out.below ((Below.refl _ w2).alloc (Nat.le_refl _) (.cells #[.int .i64 x] 3))).keep hgrow3 hP hr)
        clear T1 S1 hgrow3 hr
        go_wp2_with fail
        go_ret
        exact ⟨v3, len + 1, T ++ [x], rfl, hown3, by omega, HC3.out.mono (by omega), HG3.out⟩

/-- What a draw of two sets leaves. -/
def TwoSets (w : World) (e : Ending) (w' : World) : Prop :=
  ∃ v v2 n m xs ys, e = .returned (.tuple #[v, v2]) ∧ Owns w' w.heap.size v n xs ∧ Owns w' w.heap.size v2 m ys ∧ n ≤ 13 ∧ m ≤ 13 ∧ Below w.heap.size w w'

set_option maxHeartbeats 800000 in
theorem drawJoin_any (a : Option Addr) (n c : Nat) (w : World) (hn : n ≤ 1048576) (hcode : Code w w.heap.size a n) :
    Calls Try.prog 11 #[.slice a n c] w (TwoSets w) := by
  have HC := Lib.hid hcode
  clear hcode
  go_enter Try.func11, Try.ntmps11
  go_wp2_with fail
  refine (open_any a n c _ hn HC.out).mono ?_
  rintro e w1 ⟨rfl, hcur, hb1⟩
  have hP := hcur.lt
  have H1 := Lib.hid hcur
  clear hcur
  go_wp2_with fail
  refine (set_any _ 0 _ H1.out (by omega)).mono ?_
  rintro e w2 ⟨v, n1, xs, rfl, hown, hn1, hcur2, hg2⟩
  have H2 := Lib.hid hcur2
  have HO := Lib.hid hown
  have hb2 := below_of_grown hb1 hg2
  have hs2 := hg2.size
  clear hcur2 hown hg2
  go_wp2_with fail
  refine (set_any _ (0 + 15) _ H2.out (by omega)).mono ?_
  rintro e w3 ⟨v2, n2, ys, rfl, hown3, hn2, _, hg3⟩
  have hb3 := below_of_grown hb2 hg3
  have HO1 := Lib.hid (HO.out.keep hg3 (fun i hi e => by have := (HO.out.lt i hi).1; cases e; omega))
  have HO3 := Lib.hid hown3
  clear hown3 hg3
  go_wp2_with fail
  go_ret2
  exact ⟨v, v2, n1, n2, xs, ys, rfl, HO1.out.mono (by omega), HO3.out.mono hb2.size, hn1, hn2, hb3⟩

set_option maxHeartbeats 800000 in
theorem drawMeet_any (a : Option Addr) (n c : Nat) (w : World) (hn : n ≤ 1048576) (hcode : Code w w.heap.size a n) :
    Calls Try.prog 12 #[.slice a n c] w (TwoSets w) := by
  have HC := Lib.hid hcode
  clear hcode
  go_enter Try.func12, Try.ntmps12
  go_wp2_with fail
  refine (open_any a n c _ hn HC.out).mono ?_
  rintro e w1 ⟨rfl, hcur, hb1⟩
  have hP := hcur.lt
  have H1 := Lib.hid hcur
  clear hcur
  go_wp2_with fail
  refine (set_any _ 0 _ H1.out (by omega)).mono ?_
  rintro e w2 ⟨v, n1, xs, rfl, hown, hn1, hcur2, hg2⟩
  have H2 := Lib.hid hcur2
  have HO := Lib.hid hown
  have hb2 := below_of_grown hb1 hg2
  have hs2 := hg2.size
  clear hcur2 hown hg2
  go_wp2_with fail
  refine (set_any _ (0 + 15) _ H2.out (by omega)).mono ?_
  rintro e w3 ⟨v2, n2, ys, rfl, hown3, hn2, _, hg3⟩
  have hb3 := below_of_grown hb2 hg3
  have HO1 := Lib.hid (HO.out.keep hg3 (fun i hi e => by have := (HO.out.lt i hi).1; cases e; omega))
  have HO3 := Lib.hid hown3
  clear hown3 hg3
  go_wp2_with fail
  go_ret2
  exact ⟨v, v2, n1, n2, xs, ys, rfl, HO1.out.mono (by omega), HO3.out.mono hb2.size, hn1, hn2, hb3⟩


end Go.Proofs.Ytbhcdfliedgalaa
