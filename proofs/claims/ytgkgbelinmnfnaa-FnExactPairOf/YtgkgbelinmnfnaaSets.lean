/-
  The contracts of combine, SetJoin, SetMeet, SetLess and SetIn of the program: they answer as the model's do. Conditions: the slices read as lists of ints of at most 2^21 elements.
-/
import Derived.Test.YtgkgbelinmnfnaaSetMath
namespace Go.Proofs.Ytgkgbelinmnfnaa
open Go.RowKit

set_option maxRecDepth 20000 in
set_option maxHeartbeats 1600000 in
theorem combine_join (a a2 : Option Addr) (n c m c2 : Nat) (xs ys : List Int) (w : World) (h : Row w a n xs) (h2 : Row w a2 m ys) (hn : n ≤ 2097152) (hm : m ≤ 2097152) :
    Calls Try.prog 61 #[.int .i64 0, .slice a n c, .slice a2 m c2] w (RowRes w w.heap.size (joinOf xs ys)) := by
  have HR := Lib.hid h
  have HR2 := Lib.hid h2
  have hox := others_len xs
  have hoy := others_len ys
  rw [h.1] at hox
  rw [h2.1] at hoy
  clear h h2
  go_enter Try.func61, Try.ntmps61
  go_wp2_with fail
  refine (takeApart_any _ _ _ xs _ HR.out hn).mono ?_
  rintro e w1 ⟨M, v, rfl, hM, hown, hb1⟩
  have HM := Lib.hid hM
  have HO := Lib.hid hown
  clear hM hown
  go_wp2_with fail
  refine (takeApart_any _ _ _ ys _ (HR2.out.below hb1) hm).mono ?_
  rintro e w2 ⟨N, v2, rfl, hN, hown2, hb2⟩
  have hb12 : Below w.heap.size w w2 := hb1.trans (hb2.mono hb1.size)
  have HN := Lib.hid hN
  have HO1 : Hid (Owns w2 w.heap.size v (ris (others xs)).length (ris (others xs))) := HO.out.below hb2
  have HO2 : Hid (Owns w2 w.heap.size v2 (ris (others ys)).length (ris (others ys))) := hown2.mono hb1.size
  clear hN hown2 hb2 HO
  go_wp2_with fail
  refine (combineLetters_any 0 (by decide) M N _ _ HM.out HN.out _).mono ?_
  rintro e w3 ⟨R, rfl, hR, rfl⟩
  have HRR := Lib.hid hR
  clear hR
  go_wp2_with fail
  refine (combineOthers_join v v2 _ _ w.heap.size _ _ _ HO1.out HO2.out (by omega) (by omega)).mono ?_
  rintro e w4 ⟨v4, rfl, hown4, hb4⟩
  have hb14 : Below w.heap.size w w4 := hb12.trans (hb4.mono hb12.size)
  have HO4 := Lib.hid hown4
  have hl4 := setOf_len 0 (ris (others xs)) (ris (others ys))
  clear hown4 hb4
  go_wp2_with fail
  refine (putTogether_any R _ v4 _ _ _ _ HRR.out HO4.out (by omega) (combOthers_rises 0 (ris_lt _))).mono ?_
  rintro e w5 ⟨v5, rfl, hown5, hb5⟩
  have hb15 : Below w.heap.size w w5 := hb14.trans (hb5.mono hb14.size)
  have HO5 : Hid (Owns w5 w.heap.size v5 (joinOf xs ys).length (joinOf xs ys)) := by
    have := hown5.mono (base := w.heap.size) hb14.size
    rw [setOf_eq] at this
    exact this
  clear hown5 hb5 hl4
  go_wp2_with fail
  go_ret
  exact ⟨_, rfl, HO5.out, hb15⟩

theorem implSetJoin_any (a a2 : Option Addr) (n c m c2 : Nat) (xs ys : List Int) (w : World) (h : Row w a n xs) (h2 : Row w a2 m ys) (hn : n ≤ 2097152) (hm : m ≤ 2097152) :
    Calls Try.prog 53 #[.slice a n c, .slice a2 m c2] w (RowRes w w.heap.size (joinOf xs ys)) := by
  have HR := Lib.hid h
  have HR2 := Lib.hid h2
  clear h h2
  go_enter Try.func53, Try.ntmps53
  go_wp2_with fail
  refine (combine_join _ _ _ _ _ _ xs ys _ HR.out HR2.out hn hm).mono ?_
  rintro e w1 ⟨v, rfl, hown, hb⟩
  have HO := Lib.hid hown
  clear hown
  go_wp2_with fail
  go_ret
  exact ⟨_, rfl, HO.out, hb⟩

set_option maxRecDepth 20000 in
set_option maxHeartbeats 1600000 in
theorem combine_meet (a a2 : Option Addr) (n c m c2 : Nat) (xs ys : List Int) (w : World) (h : Row w a n xs) (h2 : Row w a2 m ys) (hn : n ≤ 2097152) (hm : m ≤ 2097152) :
    Calls Try.prog 61 #[.int .i64 1, .slice a n c, .slice a2 m c2] w (RowRes w w.heap.size (meetOf xs ys)) := by
  have HR := Lib.hid h
  have HR2 := Lib.hid h2
  have hox := others_len xs
  have hoy := others_len ys
  rw [h.1] at hox
  rw [h2.1] at hoy
  clear h h2
  go_enter Try.func61, Try.ntmps61
  go_wp2_with fail
  refine (takeApart_any _ _ _ xs _ HR.out hn).mono ?_
  rintro e w1 ⟨M, v, rfl, hM, hown, hb1⟩
  have HM := Lib.hid hM
  have HO := Lib.hid hown
  clear hM hown
  go_wp2_with fail
  refine (takeApart_any _ _ _ ys _ (HR2.out.below hb1) hm).mono ?_
  rintro e w2 ⟨N, v2, rfl, hN, hown2, hb2⟩
  have hb12 : Below w.heap.size w w2 := hb1.trans (hb2.mono hb1.size)
  have HN := Lib.hid hN
  have HO1 : Hid (Owns w2 w.heap.size v (ris (others xs)).length (ris (others xs))) := HO.out.below hb2
  have HO2 : Hid (Owns w2 w.heap.size v2 (ris (others ys)).length (ris (others ys))) := hown2.mono hb1.size
  clear hN hown2 hb2 HO
  go_wp2_with fail
  refine (combineLetters_any 1 (by decide) M N _ _ HM.out HN.out _).mono ?_
  rintro e w3 ⟨R, rfl, hR, rfl⟩
  have HRR := Lib.hid hR
  clear hR
  go_wp2_with fail
  refine (combineOthers_meet v v2 _ _ w.heap.size _ _ _ HO1.out HO2.out (by omega) (by omega) (ris_lt _)).mono ?_
  rintro e w4 ⟨v4, rfl, hown4, hb4⟩
  have hb14 : Below w.heap.size w w4 := hb12.trans (hb4.mono hb12.size)
  have HO4 := Lib.hid hown4
  have hl4 := setOf_len 1 (ris (others xs)) (ris (others ys))
  clear hown4 hb4
  go_wp2_with fail
  refine (putTogether_any R _ v4 _ _ _ _ HRR.out HO4.out (by omega) (combOthers_rises 1 (ris_lt _))).mono ?_
  rintro e w5 ⟨v5, rfl, hown5, hb5⟩
  have hb15 : Below w.heap.size w w5 := hb14.trans (hb5.mono hb14.size)
  have HO5 : Hid (Owns w5 w.heap.size v5 (meetOf xs ys).length (meetOf xs ys)) := by
    have := hown5.mono (base := w.heap.size) hb14.size
    rw [setOf_eq] at this
    exact this
  clear hown5 hb5 hl4
  go_wp2_with fail
  go_ret
  exact ⟨_, rfl, HO5.out, hb15⟩

theorem implSetMeet_any (a a2 : Option Addr) (n c m c2 : Nat) (xs ys : List Int) (w : World) (h : Row w a n xs) (h2 : Row w a2 m ys) (hn : n ≤ 2097152) (hm : m ≤ 2097152) :
    Calls Try.prog 51 #[.slice a n c, .slice a2 m c2] w (RowRes w w.heap.size (meetOf xs ys)) := by
  have HR := Lib.hid h
  have HR2 := Lib.hid h2
  clear h h2
  go_enter Try.func51, Try.ntmps51
  go_wp2_with fail
  refine (combine_meet _ _ _ _ _ _ xs ys _ HR.out HR2.out hn hm).mono ?_
  rintro e w1 ⟨v, rfl, hown, hb⟩
  have HO := Lib.hid hown
  clear hown
  go_wp2_with fail
  go_ret
  exact ⟨_, rfl, HO.out, hb⟩

set_option maxRecDepth 20000 in
set_option maxHeartbeats 1600000 in
theorem combine_less (a a2 : Option Addr) (n c m c2 : Nat) (xs ys : List Int) (w : World) (h : Row w a n xs) (h2 : Row w a2 m ys) (hn : n ≤ 2097152) (hm : m ≤ 2097152) :
    Calls Try.prog 61 #[.int .i64 2, .slice a n c, .slice a2 m c2] w (RowRes w w.heap.size (lessOf xs ys)) := by
  have HR := Lib.hid h
  have HR2 := Lib.hid h2
  have hox := others_len xs
  have hoy := others_len ys
  rw [h.1] at hox
  rw [h2.1] at hoy
  clear h h2
  go_enter Try.func61, Try.ntmps61
  go_wp2_with fail
  refine (takeApart_any _ _ _ xs _ HR.out hn).mono ?_
  rintro e w1 ⟨M, v, rfl, hM, hown, hb1⟩
  have HM := Lib.hid hM
  have HO := Lib.hid hown
  clear hM hown
  go_wp2_with fail
  refine (takeApart_any _ _ _ ys _ (HR2.out.below hb1) hm).mono ?_
  rintro e w2 ⟨N, v2, rfl, hN, hown2, hb2⟩
  have hb12 : Below w.heap.size w w2 := hb1.trans (hb2.mono hb1.size)
  have HN := Lib.hid hN
  have HO1 : Hid (Owns w2 w.heap.size v (ris (others xs)).length (ris (others xs))) := HO.out.below hb2
  have HO2 : Hid (Owns w2 w.heap.size v2 (ris (others ys)).length (ris (others ys))) := hown2.mono hb1.size
  clear hN hown2 hb2 HO
  go_wp2_with fail
  refine (combineLetters_any 2 (by decide) M N _ _ HM.out HN.out _).mono ?_
  rintro e w3 ⟨R, rfl, hR, rfl⟩
  have HRR := Lib.hid hR
  clear hR
  go_wp2_with fail
  refine (combineOthers_less v v2 _ _ w.heap.size _ _ _ HO1.out HO2.out (by omega) (by omega) (ris_lt _)).mono ?_
  rintro e w4 ⟨v4, rfl, hown4, hb4⟩
  have hb14 : Below w.heap.size w w4 := hb12.trans (hb4.mono hb12.size)
  have HO4 := Lib.hid hown4
  have hl4 := setOf_len 2 (ris (others xs)) (ris (others ys))
  clear hown4 hb4
  go_wp2_with fail
  refine (putTogether_any R _ v4 _ _ _ _ HRR.out HO4.out (by omega) (combOthers_rises 2 (ris_lt _))).mono ?_
  rintro e w5 ⟨v5, rfl, hown5, hb5⟩
  have hb15 : Below w.heap.size w w5 := hb14.trans (hb5.mono hb14.size)
  have HO5 : Hid (Owns w5 w.heap.size v5 (lessOf xs ys).length (lessOf xs ys)) := by
    have := hown5.mono (base := w.heap.size) hb14.size
    rw [setOf_eq] at this
    exact this
  clear hown5 hb5 hl4
  go_wp2_with fail
  go_ret
  exact ⟨_, rfl, HO5.out, hb15⟩

end Go.Proofs.Ytgkgbelinmnfnaa
