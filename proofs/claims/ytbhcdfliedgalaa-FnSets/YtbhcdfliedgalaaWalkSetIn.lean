/-
  The walk of the law FnExactSetIn: it returns true at every two slices of ints and writes nothing that was there. Conditions: none.
-/
import Derived.Test.YtbhcdfliedgalaaSets
namespace Go.Proofs.Ytbhcdfliedgalaa
open Go.RowKit

theorem IsRow.len {w : World} {a : Option Addr} {len cap : Nat} {zs : List Int} (h : IsRow .i64 w a len cap zs) : len ≤ 9223372036854775807 := by
  rcases h with ⟨_, rfl, _⟩ | ⟨_, _, h1, h2, _⟩
  · omega
  · unfold maxLen at h2; omega

set_option maxHeartbeats 1600000 in
theorem walk_FnExactSetIn (a0 : Option Addr) (len0 cap0 : Nat) (z0 : List Int) (a1 : Option Addr) (len1 cap1 : Nat) (z1 : List Int) (w : World) (w0 : IsRow .i64 w a0 len0 cap0 z0) (w1 : IsRow .i64 w a1 len1 cap1 z1) :
    Calls Try.prog 8 #[.slice a0 len0 cap0, .slice a1 len1 cap1] w fun e w' => e = .returned (.bool true) ∧ Below w.heap.size w w' := by
  have hr := w0.row
  have hl := w0.len
  have hr1 := w1.row
  have hl1 := w1.len
  generalize z0.take len0 = xs at hr
  generalize z1.take len1 = ys at hr1
  clear w0 w1
  by_cases hbig : 1048576 < len0
  · go_enter Try.func8, Try.ntmps8
    go_wp2
    go_ret
    exact ⟨rfl, Below.refl _ _⟩
  by_cases hbig1 : 1048576 < len1
  · go_enter Try.func8, Try.ntmps8
    go_wp2
    go_ret
    exact ⟨rfl, Below.refl _ _⟩
  have HX := Lib.hid hr
  have HY := Lib.hid hr1
  clear hr hr1
  go_enter Try.func8, Try.ntmps8
  go_wp2_with fail
  refine (toIntS_any _ _ _ xs _ HX.out (by omega)).mono ?_
  rintro e w1 ⟨rfl, ho1, b1⟩
  go_wp2_with fail
  refine (toIntS_any _ _ _ ys _ (HY.out.below b1) (by omega)).mono ?_
  rintro e w2 ⟨rfl, ho2, hb2⟩
  have b2 := b1.trans (hb2.mono b1.size)
  have R1 := Lib.hid (ho1.below hb2).row.2.2.2
  have R2 := Lib.hid ho2.row.2.2.2
  clear ho1 ho2 hb2 b1
  go_wp2_with fail
  refine (specSetIn_any _ _ _ _ _ _ xs ys _ R1.out R2.out (by omega) (by omega)).mono ?_
  rintro e w3 ⟨rfl, rfl⟩
  clear R1 R2
  go_wp2_with fail
  refine (toIntS_any _ _ _ xs _ (HX.out.below b2) (by omega)).mono ?_
  rintro e w4 ⟨rfl, ho4, hb4⟩
  have b4 := b2.trans (hb4.mono b2.size)
  clear hb4 b2
  go_wp2_with fail
  refine (toIntS_any _ _ _ ys _ (HY.out.below b4) (by omega)).mono ?_
  rintro e w5 ⟨rfl, ho5, hb5⟩
  have b5 := b4.trans (hb5.mono b4.size)
  have O4 := Lib.hid (ho4.below hb5)
  have O5 := Lib.hid ho5
  clear ho4 ho5 hb5 b4
  go_wp2_with fail
  refine (implSetIn_any _ _ _ _ _ _ xs ys _ O4.out.row.2.2.2 O5.out.row.2.2.2 (by omega) (by omega)).mono ?_
  rintro e w6 ⟨rfl, hb6⟩
  have b6 := b5.trans (hb6.mono b5.size)
  have P4 := Lib.hid (O4.out.below hb6)
  have P5 := Lib.hid (O5.out.below hb6)
  clear O4 O5 hb6 b5
  go_wp2_with fail
  refine (toIntS_any _ _ _ xs _ (HX.out.below b6) (by omega)).mono ?_
  rintro e w7 ⟨rfl, ho7, hb7⟩
  have b7 := b6.trans (hb7.mono b6.size)
  have Q4 := Lib.hid (P4.out.below hb7)
  have Q5 := Lib.hid (P5.out.below hb7)
  have R7 := Lib.hid ho7.row.2.2.2
  clear P4 P5 hb7 b6 ho7
  go_wp2_with fail
  refine (eqIntS_any _ _ _ _ _ _ xs xs _ Q4.out.row.2.2.2 R7.out (by omega) (by omega)).mono ?_
  rintro e w8 ⟨rfl, hb8⟩
  have b8 := b7.trans (hb8.mono b7.size)
  have P5 := Lib.hid (Q5.out.below hb8)
  clear hb8 b7 Q4 Q5 R7
  go_wp2_with fail
  refine (toIntS_any _ _ _ ys _ (HY.out.below b8) (by omega)).mono ?_
  rintro e w9 ⟨rfl, ho9, hb9⟩
  have b9 := b8.trans (hb9.mono b8.size)
  have Q5 := Lib.hid (P5.out.below hb9)
  have R9 := Lib.hid ho9.row.2.2.2
  clear P5 hb9 b8 ho9
  go_wp2_with fail
  refine (eqIntS_any _ _ _ _ _ _ ys ys _ Q5.out.row.2.2.2 R9.out (by omega) (by omega)).mono ?_
  rintro e w10 ⟨rfl, hb10⟩
  have b10 := b9.trans (hb10.mono b9.size)
  clear hb10 b9 Q5 R9
  go_wp2_with fail
  go_ret
  exact ⟨rfl, b10⟩

end Go.Proofs.Ytbhcdfliedgalaa
