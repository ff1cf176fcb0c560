/-
  The walk of the law FnExactHolds: it returns true at every argument and writes nothing that was there. Conditions: none.
-/
import Derived.Test.YtdbgjgeglgipiaaGreatHolds
import Derived.Test.YtdbgjgeglgipiaaGreatPairQ
import Derived.Test.YtdbgjgeglgipiaaGreatLenHid
import Derived.Test.YtdbgjgeglgipiaaGreatIaLaw
import Derived.Test.YtdbgjgeglgipiaaGreatFast
import Derived.Test.YtdbgjgeglgipiaaGreatTwoLaw
namespace Go.Proofs.YtdbgjgeglgipiaaGreat
open Go.RowKit

set_option maxRecDepth 20000 in
set_option maxHeartbeats 6400000 in
theorem walk_FnExactHolds (st_0 it_0 : Int) (a2_0 : Option Addr) (n2_0 c2_0 : Nat) (z2_0 : List Int) (a3_0 : Option Addr) (n3_0 c3_0 : Nat) (z3_0 : List Int) (a4_0 : Option Addr) (n4_0 c4_0 : Nat) (z4_0 : List Int) (a5_0 : Option Addr) (n5_0 c5_0 : Nat) (z5_0 : List St) (st_1 it_1 : Int) (a2_1 : Option Addr) (n2_1 c2_1 : Nat) (z2_1 : List Int) (a3_1 : Option Addr) (n3_1 c3_1 : Nat) (z3_1 : List Int) (a4_1 : Option Addr) (n4_1 c4_1 : Nat) (z4_1 : List Int) (a5_1 : Option Addr) (n5_1 c5_1 : Nat) (z5_1 : List St) (s_2 : Int) (s_3 : Int) (a_4 : Option Addr) (n_4 c_4 : Nat) (xs_4 : List (Int × Int)) (w : World) (i2_0 : IsRow .i64 w a2_0 n2_0 c2_0 z2_0) (i3_0 : IsRow .i64 w a3_0 n3_0 c3_0 z3_0) (i4_0 : IsRow .i64 w a4_0 n4_0 c4_0 z4_0) (i5_0 : IsRowS w a5_0 n5_0 c5_0 z5_0) (i2_1 : IsRow .i64 w a2_1 n2_1 c2_1 z2_1) (i3_1 : IsRow .i64 w a3_1 n3_1 c3_1 z3_1) (i4_1 : IsRow .i64 w a4_1 n4_1 c4_1 z4_1) (i5_1 : IsRowS w a5_1 n5_1 c5_1 z5_1) (r_4 : RowQ w a_4 n_4 xs_4) (l_4 : n_4 ≤ maxLen) :
    Calls Tryz.prog 4 #[.agg #[.int .i64 st_0, .int .i64 it_0, .slice a2_0 n2_0 c2_0, .slice a3_0 n3_0 c3_0, .slice a4_0 n4_0 c4_0, .slice a5_0 n5_0 c5_0], .agg #[.int .i64 st_1, .int .i64 it_1, .slice a2_1 n2_1 c2_1, .slice a3_1 n3_1 c3_1, .slice a4_1 n4_1 c4_1, .slice a5_1 n5_1 c5_1], .int .i64 s_2, .int .i64 s_3, .slice a_4 n_4 c_4] w fun e w' => e = .returned (.bool true) ∧ Below w.heap.size w w' := by
  obtain ⟨ins_0, hins_0⟩ : ∃ l, l = z2_0.take n2_0 := ⟨_, rfl⟩
  have r2_0 := i2_0.row
  rw [← hins_0] at r2_0
  have l2_0 := i2_0.len1
  have e2_0 := r2_0.1
  obtain ⟨outs_0, houts_0⟩ : ∃ l, l = z3_0.take n3_0 := ⟨_, rfl⟩
  have r3_0 := i3_0.row
  rw [← houts_0] at r3_0
  have l3_0 := i3_0.len1
  have e3_0 := r3_0.1
  obtain ⟨hids_0, hhids_0⟩ : ∃ l, l = z4_0.take n4_0 := ⟨_, rfl⟩
  have r4_0 := i4_0.row
  rw [← hhids_0] at r4_0
  have l4_0 := i4_0.len1
  have e4_0 := r4_0.1
  obtain ⟨steps_0, hsteps_0⟩ : ∃ l, l = z5_0.take n5_0 := ⟨_, rfl⟩
  have r5_0 := i5_0.row
  rw [← hsteps_0] at r5_0
  have l5_0 := i5_0.len1
  have e5_0 := r5_0.1
  have HA_0 : Hid (∀ W, Below w.heap.size w W → IaRow W ⟨st_0, it_0, ins_0, outs_0, hids_0, steps_0⟩ (.agg #[.int .i64 st_0, .int .i64 it_0, .slice a2_0 n2_0 c2_0, .slice a3_0 n3_0 c3_0, .slice a4_0 n4_0 c4_0, .slice a5_0 n5_0 c5_0])) := fun W hW => IaRow.below ⟨a2_0, n2_0, c2_0, a3_0, n3_0, c3_0, a4_0, n4_0, c4_0, a5_0, n5_0, c5_0, rfl, r2_0, r3_0, r4_0, r5_0⟩ hW
  have CZ_0 : Hid (∀ W (left : Int), 0 ≤ left → left ≤ 1048576 → Calls Tryz.prog 5 #[.agg #[.int .i64 st_0, .int .i64 it_0, .slice a2_0 n2_0 c2_0, .slice a3_0 n3_0 c3_0, .slice a4_0 n4_0 c4_0, .slice a5_0 n5_0 c5_0], .int .i64 left] W fun e w' => e = .returned (.int .i64 (roomOf left (n2_0 + n3_0 + n4_0 + n5_0))) ∧ Below W.heap.size W w') := fun W left h0 h1 => szIa_any st_0 it_0 a2_0 n2_0 c2_0 a3_0 n3_0 c3_0 a4_0 n4_0 c4_0 a5_0 n5_0 c5_0 left W h0 (by omega) l2_0 l3_0 l4_0 l5_0
  clear r2_0 i2_0 hins_0 l2_0 r3_0 i3_0 houts_0 l3_0 r4_0 i4_0 hhids_0 l4_0 r5_0 i5_0 hsteps_0 l5_0 z2_0 z3_0 z4_0 z5_0
  obtain ⟨ins_1, hins_1⟩ : ∃ l, l = z2_1.take n2_1 := ⟨_, rfl⟩
  have r2_1 := i2_1.row
  rw [← hins_1] at r2_1
  have l2_1 := i2_1.len1
  have e2_1 := r2_1.1
  obtain ⟨outs_1, houts_1⟩ : ∃ l, l = z3_1.take n3_1 := ⟨_, rfl⟩
  have r3_1 := i3_1.row
  rw [← houts_1] at r3_1
  have l3_1 := i3_1.len1
  have e3_1 := r3_1.1
  obtain ⟨hids_1, hhids_1⟩ : ∃ l, l = z4_1.take n4_1 := ⟨_, rfl⟩
  have r4_1 := i4_1.row
  rw [← hhids_1] at r4_1
  have l4_1 := i4_1.len1
  have e4_1 := r4_1.1
  obtain ⟨steps_1, hsteps_1⟩ : ∃ l, l = z5_1.take n5_1 := ⟨_, rfl⟩
  have r5_1 := i5_1.row
  rw [← hsteps_1] at r5_1
  have l5_1 := i5_1.len1
  have e5_1 := r5_1.1
  have HA_1 : Hid (∀ W, Below w.heap.size w W → IaRow W ⟨st_1, it_1, ins_1, outs_1, hids_1, steps_1⟩ (.agg #[.int .i64 st_1, .int .i64 it_1, .slice a2_1 n2_1 c2_1, .slice a3_1 n3_1 c3_1, .slice a4_1 n4_1 c4_1, .slice a5_1 n5_1 c5_1])) := fun W hW => IaRow.below ⟨a2_1, n2_1, c2_1, a3_1, n3_1, c3_1, a4_1, n4_1, c4_1, a5_1, n5_1, c5_1, rfl, r2_1, r3_1, r4_1, r5_1⟩ hW
  have CZ_1 : Hid (∀ W (left : Int), 0 ≤ left → left ≤ 1048576 → Calls Tryz.prog 5 #[.agg #[.int .i64 st_1, .int .i64 it_1, .slice a2_1 n2_1 c2_1, .slice a3_1 n3_1 c3_1, .slice a4_1 n4_1 c4_1, .slice a5_1 n5_1 c5_1], .int .i64 left] W fun e w' => e = .returned (.int .i64 (roomOf left (n2_1 + n3_1 + n4_1 + n5_1))) ∧ Below W.heap.size W w') := fun W left h0 h1 => szIa_any st_1 it_1 a2_1 n2_1 c2_1 a3_1 n3_1 c3_1 a4_1 n4_1 c4_1 a5_1 n5_1 c5_1 left W h0 (by omega) l2_1 l3_1 l4_1 l5_1
  clear r2_1 i2_1 hins_1 l2_1 r3_1 i3_1 houts_1 l3_1 r4_1 i4_1 hhids_1 l4_1 r5_1 i5_1 hsteps_1 l5_1 z2_1 z3_1 z4_1 z5_1
  have HA_4 : Hid (∀ W, Below w.heap.size w W → RowQ W a_4 n_4 xs_4) := fun W hW => r_4.below hW
  have CZ_4 : Hid (∀ W (left : Int), 0 ≤ left → left ≤ 1048576 → Calls Tryz.prog 13 #[.slice a_4 n_4 c_4, .int .i64 left] W fun e w' => e = .returned (.int .i64 (roomOf left n_4)) ∧ W = w') := fun W left h0 h1 => (szPairS_any a_4 n_4 c_4 left W h0 (by omega) l_4).mono fun e w' h => ⟨h.1, h.2.symm⟩
  unfold maxLen at l_4
  clear r_4
  have hz0 : ((w.alloc (.cells #[.int .i64 st_0, .int .i64 it_0, .slice a2_0 n2_0 c2_0, .slice a3_0 n3_0 c3_0, .slice a4_0 n4_0 c4_0, .slice a5_0 n5_0 c5_0] 25)).alloc (.cells #[.int .i64 st_1, .int .i64 it_1, .slice a2_1 n2_1 c2_1, .slice a3_1 n3_1 c3_1, .slice a4_1 n4_1 c4_1, .slice a5_1 n5_1 c5_1] 25)).heap.size = w.heap.size + 2 := by simp
  have B0 : Hid (Below w.heap.size w ((w.alloc (.cells #[.int .i64 st_0, .int .i64 it_0, .slice a2_0 n2_0 c2_0, .slice a3_0 n3_0 c3_0, .slice a4_0 n4_0 c4_0, .slice a5_0 n5_0 c5_0] 25)).alloc (.cells #[.int .i64 st_1, .int .i64 it_1, .slice a2_1 n2_1 c2_1, .slice a3_1 n3_1 c3_1, .slice a4_1 n4_1 c4_1, .slice a5_1 n5_1 c5_1] 25))) := ((Below.refl _ _).alloc (by simp) _).alloc (by simp) _
  have P0_0 : Hid (VarIs ((w.alloc (.cells #[.int .i64 st_0, .int .i64 it_0, .slice a2_0 n2_0 c2_0, .slice a3_0 n3_0 c3_0, .slice a4_0 n4_0 c4_0, .slice a5_0 n5_0 c5_0] 25)).alloc (.cells #[.int .i64 st_1, .int .i64 it_1, .slice a2_1 n2_1 c2_1, .slice a3_1 n3_1 c3_1, .slice a4_1 n4_1 c4_1, .slice a5_1 n5_1 c5_1] 25)) (w.heap.size) #[.int .i64 st_0, .int .i64 it_0, .slice a2_0 n2_0 c2_0, .slice a3_0 n3_0 c3_0, .slice a4_0 n4_0 c4_0, .slice a5_0 n5_0 c5_0] 25) := (VarIs.new w #[.int .i64 st_0, .int .i64 it_0, .slice a2_0 n2_0 c2_0, .slice a3_0 n3_0 c3_0, .slice a4_0 n4_0 c4_0, .slice a5_0 n5_0 c5_0] 25 rfl).alloc _
  have P1_0 : Hid (VarIs ((w.alloc (.cells #[.int .i64 st_0, .int .i64 it_0, .slice a2_0 n2_0 c2_0, .slice a3_0 n3_0 c3_0, .slice a4_0 n4_0 c4_0, .slice a5_0 n5_0 c5_0] 25)).alloc (.cells #[.int .i64 st_1, .int .i64 it_1, .slice a2_1 n2_1 c2_1, .slice a3_1 n3_1 c3_1, .slice a4_1 n4_1 c4_1, .slice a5_1 n5_1 c5_1] 25)) (w.heap.size + 1) #[.int .i64 st_1, .int .i64 it_1, .slice a2_1 n2_1 c2_1, .slice a3_1 n3_1 c3_1, .slice a4_1 n4_1 c4_1, .slice a5_1 n5_1 c5_1] 25) := VarIs.new (w.alloc (.cells #[.int .i64 st_0, .int .i64 it_0, .slice a2_0 n2_0 c2_0, .slice a3_0 n3_0 c3_0, .slice a4_0 n4_0 c4_0, .slice a5_0 n5_0 c5_0] 25)) #[.int .i64 st_1, .int .i64 it_1, .slice a2_1 n2_1 c2_1, .slice a3_1 n3_1 c3_1, .slice a4_1 n4_1 c4_1, .slice a5_1 n5_1 c5_1] 25 (by simp)
  have hleft : (0 : Int) ≤ 1048576 ∧ (1048576 : Int) ≤ 1048576 := by omega
  by_cases fits_0 : n2_0 + n3_0 + n4_0 + n5_0 ≤ 1048576
  case neg =>
    have hr_0 : roomOf (1048576 : Int) (n2_0 + n3_0 + n4_0 + n5_0) = -1 := roomOf_neg (by omega)
    have m0 := P0_0.out.cell (j := 0) (u := .int .i64 st_0) rfl
    have m1 := P0_0.out.cell (j := 1) (u := .int .i64 it_0) rfl
    have m2 := P0_0.out.cell (j := 2) (u := .slice a2_0 n2_0 c2_0) rfl
    have m3 := P0_0.out.cell (j := 3) (u := .slice a3_0 n3_0 c3_0) rfl
    have m4 := P0_0.out.cell (j := 4) (u := .slice a4_0 n4_0 c4_0) rfl
    have m5 := P0_0.out.cell (j := 5) (u := .slice a5_0 n5_0 c5_0) rfl
    go_enter Tryz.func4, Tryz.ntmps4
    go_wp2_with fail
    clear m0 m1 m2 m3 m4 m5
    have CZc := CZ_0.out ((w.alloc (.cells #[.int .i64 st_0, .int .i64 it_0, .slice a2_0 n2_0 c2_0, .slice a3_0 n3_0 c3_0, .slice a4_0 n4_0 c4_0, .slice a5_0 n5_0 c5_0] 25)).alloc (.cells #[.int .i64 st_1, .int .i64 it_1, .slice a2_1 n2_1 c2_1, .slice a3_1 n3_1 c3_1, .slice a4_1 n4_1 c4_1, .slice a5_1 n5_1 c5_1] 25)) (1048576 : Int) (by omega) (by omega)
    rw [hr_0] at CZc
    refine (CZc).mono ?_
    rintro e w1 ⟨rfl, hb⟩
    have hzzw1 := hb.size
    have B1 : Hid (Below w.heap.size w w1) := B0.out.trans (hb.mono B0.out.size)
    have P0_1 : Hid (VarIs w1 (w.heap.size) #[.int .i64 st_0, .int .i64 it_0, .slice a2_0 n2_0 c2_0, .slice a3_0 n3_0 c3_0, .slice a4_0 n4_0 c4_0, .slice a5_0 n5_0 c5_0] 25) := P0_0.out.below hb
    have P1_1 : Hid (VarIs w1 (w.heap.size + 1) #[.int .i64 st_1, .int .i64 it_1, .slice a2_1 n2_1 c2_1, .slice a3_1 n3_1 c3_1, .slice a4_1 n4_1 c4_1, .slice a5_1 n5_1 c5_1] 25) := P1_0.out.below hb
    clear B0 P0_0 P1_0
    clear hb CZc
    go_wp2_with fail
    go_ret
    exact ⟨rfl, B1.out⟩
  have hr_0 : roomOf (1048576 : Int) (n2_0 + n3_0 + n4_0 + n5_0) = (1048576 : Int) - ((n2_0 + n3_0 + n4_0 + n5_0 : Nat) : Int) := roomOf_pos (by omega)
  obtain ⟨rm_0, hrm_0⟩ : ∃ m : Nat, (m : Int) = (1048576 : Int) - ((n2_0 + n3_0 + n4_0 + n5_0 : Nat) : Int) := ⟨1048576 - (n2_0 + n3_0 + n4_0 + n5_0), by omega⟩
  rw [← hrm_0] at hr_0
  have hrx_0 : (0 : Int) ≤ (rm_0 : Int) ∧ (rm_0 : Int) ≤ 1048576 := by omega
  clear hrm_0
  have m0 := P0_0.out.cell (j := 0) (u := .int .i64 st_0) rfl
  have m1 := P0_0.out.cell (j := 1) (u := .int .i64 it_0) rfl
  have m2 := P0_0.out.cell (j := 2) (u := .slice a2_0 n2_0 c2_0) rfl
  have m3 := P0_0.out.cell (j := 3) (u := .slice a3_0 n3_0 c3_0) rfl
  have m4 := P0_0.out.cell (j := 4) (u := .slice a4_0 n4_0 c4_0) rfl
  have m5 := P0_0.out.cell (j := 5) (u := .slice a5_0 n5_0 c5_0) rfl
  go_enter Tryz.func4, Tryz.ntmps4
  go_wp2_with fail
  clear m0 m1 m2 m3 m4 m5
  have CZc := CZ_0.out ((w.alloc (.cells #[.int .i64 st_0, .int .i64 it_0, .slice a2_0 n2_0 c2_0, .slice a3_0 n3_0 c3_0, .slice a4_0 n4_0 c4_0, .slice a5_0 n5_0 c5_0] 25)).alloc (.cells #[.int .i64 st_1, .int .i64 it_1, .slice a2_1 n2_1 c2_1, .slice a3_1 n3_1 c3_1, .slice a4_1 n4_1 c4_1, .slice a5_1 n5_1 c5_1] 25)) (1048576 : Int) (by omega) (by omega)
  rw [hr_0] at CZc
  refine (CZc).mono ?_
  rintro e w1 ⟨rfl, hb⟩
  have hzzw1 := hb.size
  have B1 : Hid (Below w.heap.size w w1) := B0.out.trans (hb.mono B0.out.size)
  have P0_1 : Hid (VarIs w1 (w.heap.size) #[.int .i64 st_0, .int .i64 it_0, .slice a2_0 n2_0 c2_0, .slice a3_0 n3_0 c3_0, .slice a4_0 n4_0 c4_0, .slice a5_0 n5_0 c5_0] 25) := P0_0.out.below hb
  have P1_1 : Hid (VarIs w1 (w.heap.size + 1) #[.int .i64 st_1, .int .i64 it_1, .slice a2_1 n2_1 c2_1, .slice a3_1 n3_1 c3_1, .slice a4_1 n4_1 c4_1, .slice a5_1 n5_1 c5_1] 25) := P1_0.out.below hb
  clear B0 P0_0 P1_0
  clear hb CZc
  clear hr_0
  have f2_0 : ins_0.length ≤ 1048576 := by omega
  have f3_0 : outs_0.length ≤ 1048576 := by omega
  have f4_0 : hids_0.length ≤ 1048576 := by omega
  have f5_0 : steps_0.length ≤ 1048576 := by omega
  by_cases fits_1 : n2_1 + n3_1 + n4_1 + n5_1 ≤ rm_0
  case neg =>
    have hr_1 : roomOf ((rm_0 : Nat) : Int) (n2_1 + n3_1 + n4_1 + n5_1) = -1 := roomOf_neg (by omega)
    have m0 := P1_1.out.cell (j := 0) (u := .int .i64 st_1) rfl
    have m1 := P1_1.out.cell (j := 1) (u := .int .i64 it_1) rfl
    have m2 := P1_1.out.cell (j := 2) (u := .slice a2_1 n2_1 c2_1) rfl
    have m3 := P1_1.out.cell (j := 3) (u := .slice a3_1 n3_1 c3_1) rfl
    have m4 := P1_1.out.cell (j := 4) (u := .slice a4_1 n4_1 c4_1) rfl
    have m5 := P1_1.out.cell (j := 5) (u := .slice a5_1 n5_1 c5_1) rfl
    go_wp2_with fail
    clear m0 m1 m2 m3 m4 m5
    have CZc := CZ_1.out w1 ((rm_0 : Nat) : Int) (by omega) (by omega)
    rw [hr_1] at CZc
    refine (CZc).mono ?_
    rintro e w2 ⟨rfl, hb⟩
    have hzzw2 := hb.size
    have B2 : Hid (Below w.heap.size w w2) := B1.out.trans (hb.mono B1.out.size)
    have P0_2 : Hid (VarIs w2 (w.heap.size) #[.int .i64 st_0, .int .i64 it_0, .slice a2_0 n2_0 c2_0, .slice a3_0 n3_0 c3_0, .slice a4_0 n4_0 c4_0, .slice a5_0 n5_0 c5_0] 25) := P0_1.out.below hb
    have P1_2 : Hid (VarIs w2 (w.heap.size + 1) #[.int .i64 st_1, .int .i64 it_1, .slice a2_1 n2_1 c2_1, .slice a3_1 n3_1 c3_1, .slice a4_1 n4_1 c4_1, .slice a5_1 n5_1 c5_1] 25) := P1_1.out.below hb
    clear B1 P0_1 P1_1
    clear hb CZc
    go_wp2_with fail
    go_ret
    exact ⟨rfl, B2.out⟩
  have hr_1 : roomOf ((rm_0 : Nat) : Int) (n2_1 + n3_1 + n4_1 + n5_1) = ((rm_0 : Nat) : Int) - ((n2_1 + n3_1 + n4_1 + n5_1 : Nat) : Int) := roomOf_pos (by omega)
  obtain ⟨rm_1, hrm_1⟩ : ∃ m : Nat, (m : Int) = ((rm_0 : Nat) : Int) - ((n2_1 + n3_1 + n4_1 + n5_1 : Nat) : Int) := ⟨rm_0 - (n2_1 + n3_1 + n4_1 + n5_1), by omega⟩
  rw [← hrm_1] at hr_1
  have hrx_1 : (0 : Int) ≤ (rm_1 : Int) ∧ (rm_1 : Int) ≤ 1048576 := by omega
  clear hrm_1
  have m0 := P1_1.out.cell (j := 0) (u := .int .i64 st_1) rfl
  have m1 := P1_1.out.cell (j := 1) (u := .int .i64 it_1) rfl
  have m2 := P1_1.out.cell (j := 2) (u := .slice a2_1 n2_1 c2_1) rfl
  have m3 := P1_1.out.cell (j := 3) (u := .slice a3_1 n3_1 c3_1) rfl
  have m4 := P1_1.out.cell (j := 4) (u := .slice a4_1 n4_1 c4_1) rfl
  have m5 := P1_1.out.cell (j := 5) (u := .slice a5_1 n5_1 c5_1) rfl
  go_wp2_with fail
  clear m0 m1 m2 m3 m4 m5
  have CZc := CZ_1.out w1 ((rm_0 : Nat) : Int) (by omega) (by omega)
  rw [hr_1] at CZc
  refine (CZc).mono ?_
  rintro e w2 ⟨rfl, hb⟩
  have hzzw2 := hb.size
  have B2 : Hid (Below w.heap.size w w2) := B1.out.trans (hb.mono B1.out.size)
  have P0_2 : Hid (VarIs w2 (w.heap.size) #[.int .i64 st_0, .int .i64 it_0, .slice a2_0 n2_0 c2_0, .slice a3_0 n3_0 c3_0, .slice a4_0 n4_0 c4_0, .slice a5_0 n5_0 c5_0] 25) := P0_1.out.below hb
  have P1_2 : Hid (VarIs w2 (w.heap.size + 1) #[.int .i64 st_1, .int .i64 it_1, .slice a2_1 n2_1 c2_1, .slice a3_1 n3_1 c3_1, .slice a4_1 n4_1 c4_1, .slice a5_1 n5_1 c5_1] 25) := P1_1.out.below hb
  clear B1 P0_1 P1_1
  clear hb CZc
  clear hr_1
  have f2_1 : ins_1.length ≤ 1048576 := by omega
  have f3_1 : outs_1.length ≤ 1048576 := by omega
  have f4_1 : hids_1.length ≤ 1048576 := by omega
  have f5_1 : steps_1.length ≤ 1048576 := by omega
  by_cases fits_4 : n_4 ≤ rm_1
  case neg =>
    have hr_4 : roomOf ((rm_1 : Nat) : Int) (n_4) = -1 := roomOf_neg (by omega)
    go_wp2_with fail
    have CZc := CZ_4.out w2 ((rm_1 : Nat) : Int) (by omega) (by omega)
    rw [hr_4] at CZc
    refine CZc.mono ?_
    rintro e wz ⟨rfl, rfl⟩
    clear CZc
    go_wp2_with fail
    go_ret
    exact ⟨rfl, B2.out⟩
  have hr_4 : roomOf ((rm_1 : Nat) : Int) (n_4) = ((rm_1 : Nat) : Int) - ((n_4 : Nat) : Int) := roomOf_pos (by omega)
  obtain ⟨rm_4, hrm_4⟩ : ∃ m : Nat, (m : Int) = ((rm_1 : Nat) : Int) - ((n_4 : Nat) : Int) := ⟨rm_1 - (n_4), by omega⟩
  rw [← hrm_4] at hr_4
  have hrx_4 : (0 : Int) ≤ (rm_4 : Int) ∧ (rm_4 : Int) ≤ 1048576 := by omega
  clear hrm_4
  go_wp2_with fail
  have CZc := CZ_4.out w2 ((rm_1 : Nat) : Int) (by omega) (by omega)
  rw [hr_4] at CZc
  refine CZc.mono ?_
  rintro e wz ⟨rfl, rfl⟩
  clear CZc
  clear hr_4
  clear CZ_0 CZ_1 CZ_4
  have CT_0 : Hid (∀ W, Below w.heap.size w W → Calls Tryz.prog 8 #[.agg #[.int .i64 st_0, .int .i64 it_0, .slice a2_0 n2_0 c2_0, .slice a3_0 n3_0 c3_0, .slice a4_0 n4_0 c4_0, .slice a5_0 n5_0 c5_0]] W fun e w' => ∃ v', e = .returned v' ∧ IaAt w' W.heap.size ⟨st_0, it_0, ins_0, outs_0, hids_0, steps_0⟩ v' ∧ Below W.heap.size W w') := fun W hW => toIa_any ⟨st_0, it_0, ins_0, outs_0, hids_0, steps_0⟩ _ W (HA_0.out W hW) (IaFits.small f2_0 f3_0 f4_0 f5_0)
  have CQ_0 : Hid (∀ W u v, IaRow W ⟨st_0, it_0, ins_0, outs_0, hids_0, steps_0⟩ u → IaRow W ⟨st_0, it_0, ins_0, outs_0, hids_0, steps_0⟩ v → Calls Tryz.prog 11 #[u, v] W fun e w' => e = .returned (.bool true) ∧ Below W.heap.size W w') := fun W u v hu hv => (eqIa_any ⟨st_0, it_0, ins_0, outs_0, hids_0, steps_0⟩ ⟨st_0, it_0, ins_0, outs_0, hids_0, steps_0⟩ _ _ W hu hv (IaFits.small f2_0 f3_0 f4_0 f5_0) (IaFits.small f2_0 f3_0 f4_0 f5_0)).mono fun e w' ⟨he, hb⟩ => ⟨by rw [he, sameB_refl], hb⟩
  have CT_1 : Hid (∀ W, Below w.heap.size w W → Calls Tryz.prog 8 #[.agg #[.int .i64 st_1, .int .i64 it_1, .slice a2_1 n2_1 c2_1, .slice a3_1 n3_1 c3_1, .slice a4_1 n4_1 c4_1, .slice a5_1 n5_1 c5_1]] W fun e w' => ∃ v', e = .returned v' ∧ IaAt w' W.heap.size ⟨st_1, it_1, ins_1, outs_1, hids_1, steps_1⟩ v' ∧ Below W.heap.size W w') := fun W hW => toIa_any ⟨st_1, it_1, ins_1, outs_1, hids_1, steps_1⟩ _ W (HA_1.out W hW) (IaFits.small f2_1 f3_1 f4_1 f5_1)
  have CQ_1 : Hid (∀ W u v, IaRow W ⟨st_1, it_1, ins_1, outs_1, hids_1, steps_1⟩ u → IaRow W ⟨st_1, it_1, ins_1, outs_1, hids_1, steps_1⟩ v → Calls Tryz.prog 11 #[u, v] W fun e w' => e = .returned (.bool true) ∧ Below W.heap.size W w') := fun W u v hu hv => (eqIa_any ⟨st_1, it_1, ins_1, outs_1, hids_1, steps_1⟩ ⟨st_1, it_1, ins_1, outs_1, hids_1, steps_1⟩ _ _ W hu hv (IaFits.small f2_1 f3_1 f4_1 f5_1) (IaFits.small f2_1 f3_1 f4_1 f5_1)).mono fun e w' ⟨he, hb⟩ => ⟨by rw [he, sameB_refl], hb⟩
  obtain ⟨q, hq⟩ : ∃ q, q = holdsB ⟨st_0, it_0, ins_0, outs_0, hids_0, steps_0⟩ ⟨st_1, it_1, ins_1, outs_1, hids_1, steps_1⟩ s_2 s_3 xs_4 := ⟨_, rfl⟩
  have CP : Hid (∀ W v_0 v_1 b_4 d_4, IaRow W ⟨st_0, it_0, ins_0, outs_0, hids_0, steps_0⟩ v_0 → IaRow W ⟨st_1, it_1, ins_1, outs_1, hids_1, steps_1⟩ v_1 → RowQ W b_4 n_4 xs_4 → InsC v_0 → InsC v_1 → Calls Tryz.prog 14 #[v_0, v_1, .int .i64 s_2, .int .i64 s_3, .slice b_4 n_4 d_4] W fun e w' => e = .returned (.bool q) ∧ Below W.heap.size W w') := fun W v_0 v_1 b_4 d_4 hv_0 hv_1 hv_4 hc_0 hc_1 => by
    rw [hq]
    exact specHolds_any ⟨st_0, it_0, ins_0, outs_0, hids_0, steps_0⟩ ⟨st_1, it_1, ins_1, outs_1, hids_1, steps_1⟩ v_0 v_1 s_2 s_3 b_4 n_4 d_4 xs_4 W hv_0 hv_1 ⟨f2_0, f3_0, f4_0, f5_0⟩ ⟨f2_1, f3_1, f4_1, f5_1⟩ hc_0 hc_1 hv_4 (by omega)
  have CI : Hid (∀ W v_0 v_1 b_4 d_4, IaRow W ⟨st_0, it_0, ins_0, outs_0, hids_0, steps_0⟩ v_0 → IaRow W ⟨st_1, it_1, ins_1, outs_1, hids_1, steps_1⟩ v_1 → RowQ W b_4 n_4 xs_4 → Calls Tryz.prog 16 #[v_0, v_1, .int .i64 s_2, .int .i64 s_3, .slice b_4 n_4 d_4] W fun e w' => e = .returned (.bool q) ∧ Below W.heap.size W w') := fun W v_0 v_1 b_4 d_4 hv_0 hv_1 hv_4 => by
    rw [hq]
    exact implHolds_any ⟨st_0, it_0, ins_0, outs_0, hids_0, steps_0⟩ ⟨st_1, it_1, ins_1, outs_1, hids_1, steps_1⟩ v_0 v_1 s_2 s_3 b_4 n_4 d_4 xs_4 W hv_0 hv_1 ⟨f2_0, f3_0, f4_0, f5_0⟩ ⟨f2_1, f3_1, f4_1, f5_1⟩ hv_4 (by omega)
  clear hq
  clear e2_0 e3_0 e4_0 e5_0 e2_1 e3_1 e4_1 e5_1 
  go_wp2_with fail
  have SD : (Below w.heap.size w w2.drew) ∧ (VarIs w2.drew (w.heap.size) #[.int .i64 st_0, .int .i64 it_0, .slice a2_0 n2_0 c2_0, .slice a3_0 n3_0 c3_0, .slice a4_0 n4_0 c4_0, .slice a5_0 n5_0 c5_0] 25) ∧ (VarIs w2.drew (w.heap.size + 1) #[.int .i64 st_1, .int .i64 it_1, .slice a2_1 n2_1 c2_1, .slice a3_1 n3_1 c3_1, .slice a4_1 n4_1 c4_1, .slice a5_1 n5_1 c5_1] 25) := ⟨B2.out.drew, P0_2.out.drew, P1_2.out.drew⟩
  refine wp_region_tf (S := fun w' => (Below w.heap.size w w') ∧ (VarIs w' (w.heap.size) #[.int .i64 st_0, .int .i64 it_0, .slice a2_0 n2_0 c2_0, .slice a3_0 n3_0 c3_0, .slice a4_0 n4_0 c4_0, .slice a5_0 n5_0 c5_0] 25) ∧ (VarIs w' (w.heap.size + 1) #[.int .i64 st_1, .int .i64 it_1, .slice a2_1 n2_1 c2_1, .slice a3_1 n3_1 c3_1, .slice a4_1 n4_1 c4_1, .slice a5_1 n5_1 c5_1] 25)) 10 (by kernel_rfl) (by kernel_rfl) (by kernel_rfl) SD (fun hHeld => ?_)
  refine fast_yields 0 32 (.agg #[.int .i64 st_0, .int .i64 it_0, .slice a2_0 n2_0 c2_0, .slice a3_0 n3_0 c3_0, .slice a4_0 n4_0 c4_0, .slice a5_0 n5_0 c5_0]) (fuel := 9) rfl rfl (by kernel_rfl) (by kernel_rfl) (by kernel_rfl) (fun _ _ _ h => h) (yieldsIf_load_mid (by rfl) _ _ rfl (w.heap.size) 0 rfl #[.int .i64 st_0, .int .i64 it_0, .slice a2_0 n2_0 c2_0, .slice a3_0 n3_0 c3_0, .slice a4_0 n4_0 c4_0, .slice a5_0 n5_0 c5_0].toList _ (fun w hw => hw.2.1.range) Tryz.underlying25 rfl (by kernel_rfl)) hHeld (tf 1 10) (by kernel_rfl) (fun K hK => ?_)
  go_big_move
  refine hK.out _ ?_
  clear hK K
  refine fast_yields 2 34 (.agg #[.int .i64 st_1, .int .i64 it_1, .slice a2_1 n2_1 c2_1, .slice a3_1 n3_1 c3_1, .slice a4_1 n4_1 c4_1, .slice a5_1 n5_1 c5_1]) (fuel := 8) rfl rfl (by kernel_rfl) (by kernel_rfl) (by kernel_rfl) (fun _ _ _ h => h) (yieldsIf_load_mid (by rfl) _ _ rfl (w.heap.size + 1) 0 rfl #[.int .i64 st_1, .int .i64 it_1, .slice a2_1 n2_1 c2_1, .slice a3_1 n3_1 c3_1, .slice a4_1 n4_1 c4_1, .slice a5_1 n5_1 c5_1].toList _ (fun w hw => hw.2.2.range) Tryz.underlying25 rfl (by kernel_rfl)) hHeld (tf 5 10) (by kernel_rfl) (fun K hK => ?_)
  go_big_move
  refine hK.out _ ?_
  clear hK K
  refine fast_move 4 36 (.int .i64 s_2) (.tmp 2) (fuel := 7) rfl rfl (by kernel_rfl) (by kernel_rfl) (by kernel_rfl) (fun _ _ _ h => h) (by kernel_rfl) (by kernel_rfl) (by first | exact Or.inl rfl | exact Or.inr rfl) hHeld (tf 21 10) (by kernel_rfl) (fun K hK => ?_)
  go_big_move
  refine hK.out _ ?_
  clear hK K
  refine fast_move 5 37 (.int .i64 s_3) (.tmp 3) (fuel := 6) rfl rfl (by kernel_rfl) (by kernel_rfl) (by kernel_rfl) (fun _ _ _ h => h) (by kernel_rfl) (by kernel_rfl) (by first | exact Or.inl rfl | exact Or.inr rfl) hHeld (tf 53 10) (by kernel_rfl) (fun K hK => ?_)
  go_big_move
  refine hK.out _ ?_
  clear hK K
  refine fast_move 6 38 (.slice a_4 n_4 c_4) (.tmp 4) (fuel := 5) rfl rfl (by kernel_rfl) (by kernel_rfl) (by kernel_rfl) (fun _ _ _ h => h) (by kernel_rfl) (by kernel_rfl) (by first | exact Or.inl rfl | exact Or.inr rfl) hHeld (tf 117 10) (by kernel_rfl) (fun K hK => ?_)
  go_big_move
  refine hK.out _ ?_
  clear hK K
  refine wpAnyH_ready (rs := [1]) (fuel := 4) (by kernel_rfl) (by simp) ?_
  refine ready_want rfl (by kernel_rfl) (tf 119 10) (by kernel_rfl) (fun K hK => ?_) AllReadyH.nil
  simp only [List.getElem_toArray, List.getElem_cons_succ, List.getElem_cons_zero]
  go_big_op
  refine (CT_0.out _ hHeld.1).mono ?_
  rintro e w3 ⟨u_0, rfl, hat, hb⟩
  have ic_0 := insC_at hat
  have k_0 := hat.row
  have hS : (Below w.heap.size w w3) ∧ (VarIs w3 (w.heap.size) #[.int .i64 st_0, .int .i64 it_0, .slice a2_0 n2_0 c2_0, .slice a3_0 n3_0 c3_0, .slice a4_0 n4_0 c4_0, .slice a5_0 n5_0 c5_0] 25) ∧ (VarIs w3 (w.heap.size + 1) #[.int .i64 st_1, .int .i64 it_1, .slice a2_1 n2_1 c2_1, .slice a3_1 n3_1 c3_1, .slice a4_1 n4_1 c4_1, .slice a5_1 n5_1 c5_1] 25) := ⟨hHeld.1.trans (hb.mono hHeld.1.size), hHeld.2.1.below hb, hHeld.2.2.below hb⟩
  clear hat hb
  refine hK.out _ _ hS (fun hHeld => ?_)
  clear hK K
  refine wpAnyH_ready (rs := [3]) (fuel := 3) (by kernel_rfl) (by simp) ?_
  refine ready_want rfl (by kernel_rfl) (tf 127 10) (by kernel_rfl) (fun K hK => ?_) AllReadyH.nil
  simp only [List.getElem_toArray, List.getElem_cons_succ, List.getElem_cons_zero]
  go_big_op
  refine (CT_1.out _ hHeld.1).mono ?_
  rintro e w4 ⟨u_1, rfl, hat, hb⟩
  have k_0x := k_0.below hb
  clear k_0
  have k_0 := k_0x
  clear k_0x
  have ic_1 := insC_at hat
  have k_1 := hat.row
  have hS : (Below w.heap.size w w4) ∧ (VarIs w4 (w.heap.size) #[.int .i64 st_0, .int .i64 it_0, .slice a2_0 n2_0 c2_0, .slice a3_0 n3_0 c3_0, .slice a4_0 n4_0 c4_0, .slice a5_0 n5_0 c5_0] 25) ∧ (VarIs w4 (w.heap.size + 1) #[.int .i64 st_1, .int .i64 it_1, .slice a2_1 n2_1 c2_1, .slice a3_1 n3_1 c3_1, .slice a4_1 n4_1 c4_1, .slice a5_1 n5_1 c5_1] 25) := ⟨hHeld.1.trans (hb.mono hHeld.1.size), hHeld.2.1.below hb, hHeld.2.2.below hb⟩
  clear hat hb
  refine hK.out _ _ hS (fun hHeld => ?_)
  clear hK K
  refine wpAnyH_ready (rs := [7]) (fuel := 2) (by kernel_rfl) (by simp) ?_
  refine ready_want rfl (by kernel_rfl) (tf 255 10) (by kernel_rfl) (fun K hK => ?_) AllReadyH.nil
  simp only [List.getElem_toArray, List.getElem_cons_succ, List.getElem_cons_zero]
  go_big_op
  refine (toPairS_any a_4 n_4 c_4 xs_4 _ (HA_4.out _ hHeld.1) (by omega)).mono ?_
  rintro e w5 ⟨rfl, ho, hb⟩
  have k_0x := k_0.below hb
  clear k_0
  have k_0 := k_0x
  clear k_0x
  have k_1x := k_1.below hb
  clear k_1
  have k_1 := k_1x
  clear k_1x
  have k_4 := ho
  have hS : (Below w.heap.size w w5) ∧ (VarIs w5 (w.heap.size) #[.int .i64 st_0, .int .i64 it_0, .slice a2_0 n2_0 c2_0, .slice a3_0 n3_0 c3_0, .slice a4_0 n4_0 c4_0, .slice a5_0 n5_0 c5_0] 25) ∧ (VarIs w5 (w.heap.size + 1) #[.int .i64 st_1, .int .i64 it_1, .slice a2_1 n2_1 c2_1, .slice a3_1 n3_1 c3_1, .slice a4_1 n4_1 c4_1, .slice a5_1 n5_1 c5_1] 25) := ⟨hHeld.1.trans (hb.mono hHeld.1.size), hHeld.2.1.below hb, hHeld.2.2.below hb⟩
  clear ho hb
  refine hK.out _ _ hS (fun hHeld => ?_)
  clear hK K
  refine wpAnyH_ready (rs := [8]) (fuel := 1) (by kernel_rfl) (by simp) ?_
  refine ready_want rfl (by kernel_rfl) (tf 511 10) (by kernel_rfl) (fun K hK => ?_) AllReadyH.nil
  simp only [List.getElem_toArray, List.getElem_cons_succ, List.getElem_cons_zero]
  go_big_op
  refine (CP.out _ _ _   _ _ k_0 k_1 k_4 ic_0 ic_1).mono ?_
  rintro e w6 ⟨rfl, hb⟩
  have hS : (Below w.heap.size w w6) ∧ (VarIs w6 (w.heap.size) #[.int .i64 st_0, .int .i64 it_0, .slice a2_0 n2_0 c2_0, .slice a3_0 n3_0 c3_0, .slice a4_0 n4_0 c4_0, .slice a5_0 n5_0 c5_0] 25) ∧ (VarIs w6 (w.heap.size + 1) #[.int .i64 st_1, .int .i64 it_1, .slice a2_1 n2_1 c2_1, .slice a3_1 n3_1 c3_1, .slice a4_1 n4_1 c4_1, .slice a5_1 n5_1 c5_1] 25) := ⟨hHeld.1.trans (hb.mono hHeld.1.size), hHeld.2.1.below hb, hHeld.2.2.below hb⟩
  clear hb k_0 k_1 k_4 ic_0 ic_1
  refine hK.out _ _ hS (fun hHeld => ?_)
  clear hK K
  refine fast_move 9 12 (.bool q) (.tmp 40) (fuel := 0) rfl rfl (by kernel_rfl) (by kernel_rfl) (by kernel_rfl) (fun _ _ _ h => h) (by kernel_rfl) (by kernel_rfl) (by first | exact Or.inl rfl | exact Or.inr rfl) hHeld (tf 1023 10) (by kernel_rfl) (fun K hK => ?_)
  go_big_move
  refine hK.out _ ?_
  clear hK K
  refine wpAnyH_done (by kernel_rfl) ?_ _
  have B3 : Hid (Below w.heap.size w w6) := hHeld.1
  have P0_3 : Hid (VarIs w6 (w.heap.size) #[.int .i64 st_0, .int .i64 it_0, .slice a2_0 n2_0 c2_0, .slice a3_0 n3_0 c3_0, .slice a4_0 n4_0 c4_0, .slice a5_0 n5_0 c5_0] 25) := hHeld.2.1
  have P1_3 : Hid (VarIs w6 (w.heap.size + 1) #[.int .i64 st_1, .int .i64 it_1, .slice a2_1 n2_1 c2_1, .slice a3_1 n3_1 c3_1, .slice a4_1 n4_1 c4_1, .slice a5_1 n5_1 c5_1] 25) := hHeld.2.2
  clear hHeld SD B2 P0_2 P1_2
  have m0 := P0_3.out.cell (j := 0) (u := .int .i64 st_0) rfl
  have m1 := P0_3.out.cell (j := 1) (u := .int .i64 it_0) rfl
  have m2 := P0_3.out.cell (j := 2) (u := .slice a2_0 n2_0 c2_0) rfl
  have m3 := P0_3.out.cell (j := 3) (u := .slice a3_0 n3_0 c3_0) rfl
  have m4 := P0_3.out.cell (j := 4) (u := .slice a4_0 n4_0 c4_0) rfl
  have m5 := P0_3.out.cell (j := 5) (u := .slice a5_0 n5_0 c5_0) rfl
  go_wp2_with fail
  clear m0 m1 m2 m3 m4 m5
  refine (CT_0.out _ B3.out).mono ?_
  rintro e w7 ⟨vx, rfl, hat, hb⟩
  have hzzw7 := hb.size
  have B4 : Hid (Below w.heap.size w w7) := B3.out.trans (hb.mono B3.out.size)
  have P0_4 : Hid (VarIs w7 (w.heap.size) #[.int .i64 st_0, .int .i64 it_0, .slice a2_0 n2_0 c2_0, .slice a3_0 n3_0 c3_0, .slice a4_0 n4_0 c4_0, .slice a5_0 n5_0 c5_0] 25) := P0_3.out.below hb
  have P1_4 : Hid (VarIs w7 (w.heap.size + 1) #[.int .i64 st_1, .int .i64 it_1, .slice a2_1 n2_1 c2_1, .slice a3_1 n3_1 c3_1, .slice a4_1 n4_1 c4_1, .slice a5_1 n5_1 c5_1] 25) := P1_3.out.below hb
  clear B3 P0_3 P1_3
  clear hb
  obtain ⟨g2_0, g3_0, g4_0, g5_0, rfl, gb_0, lt3_0, lt4_0, lt5_0, o2, o3, o4, o5⟩ := hat
  have hg_0 := (o5.lt g5_0 rfl).2

  have Y0_4 : Hid (IaAt w7 w6.heap.size ⟨st_0, it_0, ins_0, outs_0, hids_0, steps_0⟩ (.agg #[.int .i64 st_0, .int .i64 it_0, .slice (some ⟨g2_0, 0, none⟩) ins_0.length ins_0.length, .slice (some ⟨g3_0, 0, none⟩) outs_0.length outs_0.length, .slice (some ⟨g4_0, 0, none⟩) hids_0.length hids_0.length, .slice (some ⟨g5_0, 0, none⟩) steps_0.length steps_0.length])) := ⟨g2_0, g3_0, g4_0, g5_0, rfl, gb_0, lt3_0, lt4_0, lt5_0, o2, o3, o4, o5⟩
  clear o2 o3 o4 o5
  simp only
  have hb := (Below.refl w7.heap.size w7).alloc (Nat.le_refl _) (.cells #[.int .i64 st_0, .int .i64 it_0, .slice (some ⟨g2_0, 0, none⟩) ins_0.length ins_0.length, .slice (some ⟨g3_0, 0, none⟩) outs_0.length outs_0.length, .slice (some ⟨g4_0, 0, none⟩) hids_0.length hids_0.length, .slice (some ⟨g5_0, 0, none⟩) steps_0.length steps_0.length] 31)
  have hzb_0 : (w7.alloc (.cells #[.int .i64 st_0, .int .i64 it_0, .slice (some ⟨g2_0, 0, none⟩) ins_0.length ins_0.length, .slice (some ⟨g3_0, 0, none⟩) outs_0.length outs_0.length, .slice (some ⟨g4_0, 0, none⟩) hids_0.length hids_0.length, .slice (some ⟨g5_0, 0, none⟩) steps_0.length steps_0.length] 31)).heap.size = w7.heap.size + 1 := by simp
  have B5 : Hid (Below w.heap.size w (w7.alloc (.cells #[.int .i64 st_0, .int .i64 it_0, .slice (some ⟨g2_0, 0, none⟩) ins_0.length ins_0.length, .slice (some ⟨g3_0, 0, none⟩) outs_0.length outs_0.length, .slice (some ⟨g4_0, 0, none⟩) hids_0.length hids_0.length, .slice (some ⟨g5_0, 0, none⟩) steps_0.length steps_0.length] 31))) := B4.out.trans (hb.mono B4.out.size)
  have P0_5 : Hid (VarIs (w7.alloc (.cells #[.int .i64 st_0, .int .i64 it_0, .slice (some ⟨g2_0, 0, none⟩) ins_0.length ins_0.length, .slice (some ⟨g3_0, 0, none⟩) outs_0.length outs_0.length, .slice (some ⟨g4_0, 0, none⟩) hids_0.length hids_0.length, .slice (some ⟨g5_0, 0, none⟩) steps_0.length steps_0.length] 31)) (w.heap.size) #[.int .i64 st_0, .int .i64 it_0, .slice a2_0 n2_0 c2_0, .slice a3_0 n3_0 c3_0, .slice a4_0 n4_0 c4_0, .slice a5_0 n5_0 c5_0] 25) := P0_4.out.below hb
  have P1_5 : Hid (VarIs (w7.alloc (.cells #[.int .i64 st_0, .int .i64 it_0, .slice (some ⟨g2_0, 0, none⟩) ins_0.length ins_0.length, .slice (some ⟨g3_0, 0, none⟩) outs_0.length outs_0.length, .slice (some ⟨g4_0, 0, none⟩) hids_0.length hids_0.length, .slice (some ⟨g5_0, 0, none⟩) steps_0.length steps_0.length] 31)) (w.heap.size + 1) #[.int .i64 st_1, .int .i64 it_1, .slice a2_1 n2_1 c2_1, .slice a3_1 n3_1 c3_1, .slice a4_1 n4_1 c4_1, .slice a5_1 n5_1 c5_1] 25) := P1_4.out.below hb
  have Y0_5 : Hid (IaAt (w7.alloc (.cells #[.int .i64 st_0, .int .i64 it_0, .slice (some ⟨g2_0, 0, none⟩) ins_0.length ins_0.length, .slice (some ⟨g3_0, 0, none⟩) outs_0.length outs_0.length, .slice (some ⟨g4_0, 0, none⟩) hids_0.length hids_0.length, .slice (some ⟨g5_0, 0, none⟩) steps_0.length steps_0.length] 31)) w6.heap.size ⟨st_0, it_0, ins_0, outs_0, hids_0, steps_0⟩ (.agg #[.int .i64 st_0, .int .i64 it_0, .slice (some ⟨g2_0, 0, none⟩) ins_0.length ins_0.length, .slice (some ⟨g3_0, 0, none⟩) outs_0.length outs_0.length, .slice (some ⟨g4_0, 0, none⟩) hids_0.length hids_0.length, .slice (some ⟨g5_0, 0, none⟩) steps_0.length steps_0.length])) := Y0_4.out.below hb
  clear B4 P0_4 P1_4 Y0_4
  clear hb
  have X0_5 : Hid (VarIs (w7.alloc (.cells #[.int .i64 st_0, .int .i64 it_0, .slice (some ⟨g2_0, 0, none⟩) ins_0.length ins_0.length, .slice (some ⟨g3_0, 0, none⟩) outs_0.length outs_0.length, .slice (some ⟨g4_0, 0, none⟩) hids_0.length hids_0.length, .slice (some ⟨g5_0, 0, none⟩) steps_0.length steps_0.length] 31)) w7.heap.size #[.int .i64 st_0, .int .i64 it_0, .slice (some ⟨g2_0, 0, none⟩) ins_0.length ins_0.length, .slice (some ⟨g3_0, 0, none⟩) outs_0.length outs_0.length, .slice (some ⟨g4_0, 0, none⟩) hids_0.length hids_0.length, .slice (some ⟨g5_0, 0, none⟩) steps_0.length steps_0.length] 31) := VarIs.new w7 #[.int .i64 st_0, .int .i64 it_0, .slice (some ⟨g2_0, 0, none⟩) ins_0.length ins_0.length, .slice (some ⟨g3_0, 0, none⟩) outs_0.length outs_0.length, .slice (some ⟨g4_0, 0, none⟩) hids_0.length hids_0.length, .slice (some ⟨g5_0, 0, none⟩) steps_0.length steps_0.length] 31 rfl
  have m0 := P1_5.out.cell (j := 0) (u := .int .i64 st_1) rfl
  have m1 := P1_5.out.cell (j := 1) (u := .int .i64 it_1) rfl
  have m2 := P1_5.out.cell (j := 2) (u := .slice a2_1 n2_1 c2_1) rfl
  have m3 := P1_5.out.cell (j := 3) (u := .slice a3_1 n3_1 c3_1) rfl
  have m4 := P1_5.out.cell (j := 4) (u := .slice a4_1 n4_1 c4_1) rfl
  have m5 := P1_5.out.cell (j := 5) (u := .slice a5_1 n5_1 c5_1) rfl
  go_wp2_with fail
  clear m0 m1 m2 m3 m4 m5
  refine (CT_1.out _ B5.out).mono ?_
  rintro e w8 ⟨vx, rfl, hat, hb⟩
  have hzzw8 := hb.size
  have B6 : Hid (Below w.heap.size w w8) := B5.out.trans (hb.mono B5.out.size)
  have P0_6 : Hid (VarIs w8 (w.heap.size) #[.int .i64 st_0, .int .i64 it_0, .slice a2_0 n2_0 c2_0, .slice a3_0 n3_0 c3_0, .slice a4_0 n4_0 c4_0, .slice a5_0 n5_0 c5_0] 25) := P0_5.out.below hb
  have P1_6 : Hid (VarIs w8 (w.heap.size + 1) #[.int .i64 st_1, .int .i64 it_1, .slice a2_1 n2_1 c2_1, .slice a3_1 n3_1 c3_1, .slice a4_1 n4_1 c4_1, .slice a5_1 n5_1 c5_1] 25) := P1_5.out.below hb
  have Y0_6 : Hid (IaAt w8 w6.heap.size ⟨st_0, it_0, ins_0, outs_0, hids_0, steps_0⟩ (.agg #[.int .i64 st_0, .int .i64 it_0, .slice (some ⟨g2_0, 0, none⟩) ins_0.length ins_0.length, .slice (some ⟨g3_0, 0, none⟩) outs_0.length outs_0.length, .slice (some ⟨g4_0, 0, none⟩) hids_0.length hids_0.length, .slice (some ⟨g5_0, 0, none⟩) steps_0.length steps_0.length])) := Y0_5.out.below hb
  have X0_6 : Hid (VarIs w8 w7.heap.size #[.int .i64 st_0, .int .i64 it_0, .slice (some ⟨g2_0, 0, none⟩) ins_0.length ins_0.length, .slice (some ⟨g3_0, 0, none⟩) outs_0.length outs_0.length, .slice (some ⟨g4_0, 0, none⟩) hids_0.length hids_0.length, .slice (some ⟨g5_0, 0, none⟩) steps_0.length steps_0.length] 31) := X0_5.out.below hb
  clear B5 P0_5 P1_5 Y0_5 X0_5
  clear hb
  obtain ⟨g2_1, g3_1, g4_1, g5_1, rfl, gb_1, lt3_1, lt4_1, lt5_1, o2, o3, o4, o5⟩ := hat
  have hg_1 := (o5.lt g5_1 rfl).2

  have Y1_6 : Hid (IaAt w8 ((w7.alloc (.cells #[.int .i64 st_0, .int .i64 it_0, .slice (some ⟨g2_0, 0, none⟩) ins_0.length ins_0.length, .slice (some ⟨g3_0, 0, none⟩) outs_0.length outs_0.length, .slice (some ⟨g4_0, 0, none⟩) hids_0.length hids_0.length, .slice (some ⟨g5_0, 0, none⟩) steps_0.length steps_0.length] 31))).heap.size ⟨st_1, it_1, ins_1, outs_1, hids_1, steps_1⟩ (.agg #[.int .i64 st_1, .int .i64 it_1, .slice (some ⟨g2_1, 0, none⟩) ins_1.length ins_1.length, .slice (some ⟨g3_1, 0, none⟩) outs_1.length outs_1.length, .slice (some ⟨g4_1, 0, none⟩) hids_1.length hids_1.length, .slice (some ⟨g5_1, 0, none⟩) steps_1.length steps_1.length])) := ⟨g2_1, g3_1, g4_1, g5_1, rfl, gb_1, lt3_1, lt4_1, lt5_1, o2, o3, o4, o5⟩
  clear o2 o3 o4 o5
  simp only
  have hb := (Below.refl w8.heap.size w8).alloc (Nat.le_refl _) (.cells #[.int .i64 st_1, .int .i64 it_1, .slice (some ⟨g2_1, 0, none⟩) ins_1.length ins_1.length, .slice (some ⟨g3_1, 0, none⟩) outs_1.length outs_1.length, .slice (some ⟨g4_1, 0, none⟩) hids_1.length hids_1.length, .slice (some ⟨g5_1, 0, none⟩) steps_1.length steps_1.length] 31)
  have hzb_1 : (w8.alloc (.cells #[.int .i64 st_1, .int .i64 it_1, .slice (some ⟨g2_1, 0, none⟩) ins_1.length ins_1.length, .slice (some ⟨g3_1, 0, none⟩) outs_1.length outs_1.length, .slice (some ⟨g4_1, 0, none⟩) hids_1.length hids_1.length, .slice (some ⟨g5_1, 0, none⟩) steps_1.length steps_1.length] 31)).heap.size = w8.heap.size + 1 := by simp
  have B7 : Hid (Below w.heap.size w (w8.alloc (.cells #[.int .i64 st_1, .int .i64 it_1, .slice (some ⟨g2_1, 0, none⟩) ins_1.length ins_1.length, .slice (some ⟨g3_1, 0, none⟩) outs_1.length outs_1.length, .slice (some ⟨g4_1, 0, none⟩) hids_1.length hids_1.length, .slice (some ⟨g5_1, 0, none⟩) steps_1.length steps_1.length] 31))) := B6.out.trans (hb.mono B6.out.size)
  have P0_7 : Hid (VarIs (w8.alloc (.cells #[.int .i64 st_1, .int .i64 it_1, .slice (some ⟨g2_1, 0, none⟩) ins_1.length ins_1.length, .slice (some ⟨g3_1, 0, none⟩) outs_1.length outs_1.length, .slice (some ⟨g4_1, 0, none⟩) hids_1.length hids_1.length, .slice (some ⟨g5_1, 0, none⟩) steps_1.length steps_1.length] 31)) (w.heap.size) #[.int .i64 st_0, .int .i64 it_0, .slice a2_0 n2_0 c2_0, .slice a3_0 n3_0 c3_0, .slice a4_0 n4_0 c4_0, .slice a5_0 n5_0 c5_0] 25) := P0_6.out.below hb
  have P1_7 : Hid (VarIs (w8.alloc (.cells #[.int .i64 st_1, .int .i64 it_1, .slice (some ⟨g2_1, 0, none⟩) ins_1.length ins_1.length, .slice (some ⟨g3_1, 0, none⟩) outs_1.length outs_1.length, .slice (some ⟨g4_1, 0, none⟩) hids_1.length hids_1.length, .slice (some ⟨g5_1, 0, none⟩) steps_1.length steps_1.length] 31)) (w.heap.size + 1) #[.int .i64 st_1, .int .i64 it_1, .slice a2_1 n2_1 c2_1, .slice a3_1 n3_1 c3_1, .slice a4_1 n4_1 c4_1, .slice a5_1 n5_1 c5_1] 25) := P1_6.out.below hb
  have Y0_7 : Hid (IaAt (w8.alloc (.cells #[.int .i64 st_1, .int .i64 it_1, .slice (some ⟨g2_1, 0, none⟩) ins_1.length ins_1.length, .slice (some ⟨g3_1, 0, none⟩) outs_1.length outs_1.length, .slice (some ⟨g4_1, 0, none⟩) hids_1.length hids_1.length, .slice (some ⟨g5_1, 0, none⟩) steps_1.length steps_1.length] 31)) w6.heap.size ⟨st_0, it_0, ins_0, outs_0, hids_0, steps_0⟩ (.agg #[.int .i64 st_0, .int .i64 it_0, .slice (some ⟨g2_0, 0, none⟩) ins_0.length ins_0.length, .slice (some ⟨g3_0, 0, none⟩) outs_0.length outs_0.length, .slice (some ⟨g4_0, 0, none⟩) hids_0.length hids_0.length, .slice (some ⟨g5_0, 0, none⟩) steps_0.length steps_0.length])) := Y0_6.out.below hb
  have X0_7 : Hid (VarIs (w8.alloc (.cells #[.int .i64 st_1, .int .i64 it_1, .slice (some ⟨g2_1, 0, none⟩) ins_1.length ins_1.length, .slice (some ⟨g3_1, 0, none⟩) outs_1.length outs_1.length, .slice (some ⟨g4_1, 0, none⟩) hids_1.length hids_1.length, .slice (some ⟨g5_1, 0, none⟩) steps_1.length steps_1.length] 31)) w7.heap.size #[.int .i64 st_0, .int .i64 it_0, .slice (some ⟨g2_0, 0, none⟩) ins_0.length ins_0.length, .slice (some ⟨g3_0, 0, none⟩) outs_0.length outs_0.length, .slice (some ⟨g4_0, 0, none⟩) hids_0.length hids_0.length, .slice (some ⟨g5_0, 0, none⟩) steps_0.length steps_0.length] 31) := X0_6.out.below hb
  have Y1_7 : Hid (IaAt (w8.alloc (.cells #[.int .i64 st_1, .int .i64 it_1, .slice (some ⟨g2_1, 0, none⟩) ins_1.length ins_1.length, .slice (some ⟨g3_1, 0, none⟩) outs_1.length outs_1.length, .slice (some ⟨g4_1, 0, none⟩) hids_1.length hids_1.length, .slice (some ⟨g5_1, 0, none⟩) steps_1.length steps_1.length] 31)) ((w7.alloc (.cells #[.int .i64 st_0, .int .i64 it_0, .slice (some ⟨g2_0, 0, none⟩) ins_0.length ins_0.length, .slice (some ⟨g3_0, 0, none⟩) outs_0.length outs_0.length, .slice (some ⟨g4_0, 0, none⟩) hids_0.length hids_0.length, .slice (some ⟨g5_0, 0, none⟩) steps_0.length steps_0.length] 31))).heap.size ⟨st_1, it_1, ins_1, outs_1, hids_1, steps_1⟩ (.agg #[.int .i64 st_1, .int .i64 it_1, .slice (some ⟨g2_1, 0, none⟩) ins_1.length ins_1.length, .slice (some ⟨g3_1, 0, none⟩) outs_1.length outs_1.length, .slice (some ⟨g4_1, 0, none⟩) hids_1.length hids_1.length, .slice (some ⟨g5_1, 0, none⟩) steps_1.length steps_1.length])) := Y1_6.out.below hb
  clear B6 P0_6 P1_6 Y0_6 X0_6 Y1_6
  clear hb
  have X1_7 : Hid (VarIs (w8.alloc (.cells #[.int .i64 st_1, .int .i64 it_1, .slice (some ⟨g2_1, 0, none⟩) ins_1.length ins_1.length, .slice (some ⟨g3_1, 0, none⟩) outs_1.length outs_1.length, .slice (some ⟨g4_1, 0, none⟩) hids_1.length hids_1.length, .slice (some ⟨g5_1, 0, none⟩) steps_1.length steps_1.length] 31)) w8.heap.size #[.int .i64 st_1, .int .i64 it_1, .slice (some ⟨g2_1, 0, none⟩) ins_1.length ins_1.length, .slice (some ⟨g3_1, 0, none⟩) outs_1.length outs_1.length, .slice (some ⟨g4_1, 0, none⟩) hids_1.length hids_1.length, .slice (some ⟨g5_1, 0, none⟩) steps_1.length steps_1.length] 31) := VarIs.new w8 #[.int .i64 st_1, .int .i64 it_1, .slice (some ⟨g2_1, 0, none⟩) ins_1.length ins_1.length, .slice (some ⟨g3_1, 0, none⟩) outs_1.length outs_1.length, .slice (some ⟨g4_1, 0, none⟩) hids_1.length hids_1.length, .slice (some ⟨g5_1, 0, none⟩) steps_1.length steps_1.length] 31 rfl
  go_wp2_with fail
  have CF : Hid (Calls Tryz.prog 15 #[.slice a_4 n_4 c_4] (w8.alloc (.cells #[.int .i64 st_1, .int .i64 it_1, .slice (some ⟨g2_1, 0, none⟩) ins_1.length ins_1.length, .slice (some ⟨g3_1, 0, none⟩) outs_1.length outs_1.length, .slice (some ⟨g4_1, 0, none⟩) hids_1.length hids_1.length, .slice (some ⟨g5_1, 0, none⟩) steps_1.length steps_1.length] 31)) fun e w' => e = .returned (.slice (some ⟨w8.heap.size + 1, 0, none⟩) n_4 n_4) ∧ RowQ w' (some ⟨w8.heap.size + 1, 0, none⟩) n_4 xs_4 ∧ Below (w8.alloc (.cells #[.int .i64 st_1, .int .i64 it_1, .slice (some ⟨g2_1, 0, none⟩) ins_1.length ins_1.length, .slice (some ⟨g3_1, 0, none⟩) outs_1.length outs_1.length, .slice (some ⟨g4_1, 0, none⟩) hids_1.length hids_1.length, .slice (some ⟨g5_1, 0, none⟩) steps_1.length steps_1.length] 31)).heap.size (w8.alloc (.cells #[.int .i64 st_1, .int .i64 it_1, .slice (some ⟨g2_1, 0, none⟩) ins_1.length ins_1.length, .slice (some ⟨g3_1, 0, none⟩) outs_1.length outs_1.length, .slice (some ⟨g4_1, 0, none⟩) hids_1.length hids_1.length, .slice (some ⟨g5_1, 0, none⟩) steps_1.length steps_1.length] 31)) w') := by
    have h0 := toPairS_any a_4 n_4 c_4 xs_4 (w8.alloc (.cells #[.int .i64 st_1, .int .i64 it_1, .slice (some ⟨g2_1, 0, none⟩) ins_1.length ins_1.length, .slice (some ⟨g3_1, 0, none⟩) outs_1.length outs_1.length, .slice (some ⟨g4_1, 0, none⟩) hids_1.length hids_1.length, .slice (some ⟨g5_1, 0, none⟩) steps_1.length steps_1.length] 31)) (HA_4.out _ B7.out) (by omega)
    have hz0 : (w8.alloc (.cells #[.int .i64 st_1, .int .i64 it_1, .slice (some ⟨g2_1, 0, none⟩) ins_1.length ins_1.length, .slice (some ⟨g3_1, 0, none⟩) outs_1.length outs_1.length, .slice (some ⟨g4_1, 0, none⟩) hids_1.length hids_1.length, .slice (some ⟨g5_1, 0, none⟩) steps_1.length steps_1.length] 31)).heap.size = w8.heap.size + 1 := by simp
    unfold Hid
    rw [hz0] at h0 ⊢
    exact h0
  refine (CF.out).mono ?_
  rintro e w9 ⟨rfl, ho, hb⟩
  have hzzw9 := hb.size
  have B8 : Hid (Below w.heap.size w w9) := B7.out.trans (hb.mono B7.out.size)
  have P0_8 : Hid (VarIs w9 (w.heap.size) #[.int .i64 st_0, .int .i64 it_0, .slice a2_0 n2_0 c2_0, .slice a3_0 n3_0 c3_0, .slice a4_0 n4_0 c4_0, .slice a5_0 n5_0 c5_0] 25) := P0_7.out.below hb
  have P1_8 : Hid (VarIs w9 (w.heap.size + 1) #[.int .i64 st_1, .int .i64 it_1, .slice a2_1 n2_1 c2_1, .slice a3_1 n3_1 c3_1, .slice a4_1 n4_1 c4_1, .slice a5_1 n5_1 c5_1] 25) := P1_7.out.below hb
  have Y0_8 : Hid (IaAt w9 w6.heap.size ⟨st_0, it_0, ins_0, outs_0, hids_0, steps_0⟩ (.agg #[.int .i64 st_0, .int .i64 it_0, .slice (some ⟨g2_0, 0, none⟩) ins_0.length ins_0.length, .slice (some ⟨g3_0, 0, none⟩) outs_0.length outs_0.length, .slice (some ⟨g4_0, 0, none⟩) hids_0.length hids_0.length, .slice (some ⟨g5_0, 0, none⟩) steps_0.length steps_0.length])) := Y0_7.out.below hb
  have X0_8 : Hid (VarIs w9 w7.heap.size #[.int .i64 st_0, .int .i64 it_0, .slice (some ⟨g2_0, 0, none⟩) ins_0.length ins_0.length, .slice (some ⟨g3_0, 0, none⟩) outs_0.length outs_0.length, .slice (some ⟨g4_0, 0, none⟩) hids_0.length hids_0.length, .slice (some ⟨g5_0, 0, none⟩) steps_0.length steps_0.length] 31) := X0_7.out.below hb
  have Y1_8 : Hid (IaAt w9 ((w7.alloc (.cells #[.int .i64 st_0, .int .i64 it_0, .slice (some ⟨g2_0, 0, none⟩) ins_0.length ins_0.length, .slice (some ⟨g3_0, 0, none⟩) outs_0.length outs_0.length, .slice (some ⟨g4_0, 0, none⟩) hids_0.length hids_0.length, .slice (some ⟨g5_0, 0, none⟩) steps_0.length steps_0.length] 31))).heap.size ⟨st_1, it_1, ins_1, outs_1, hids_1, steps_1⟩ (.agg #[.int .i64 st_1, .int .i64 it_1, .slice (some ⟨g2_1, 0, none⟩) ins_1.length ins_1.length, .slice (some ⟨g3_1, 0, none⟩) outs_1.length outs_1.length, .slice (some ⟨g4_1, 0, none⟩) hids_1.length hids_1.length, .slice (some ⟨g5_1, 0, none⟩) steps_1.length steps_1.length])) := Y1_7.out.below hb
  have X1_8 : Hid (VarIs w9 w8.heap.size #[.int .i64 st_1, .int .i64 it_1, .slice (some ⟨g2_1, 0, none⟩) ins_1.length ins_1.length, .slice (some ⟨g3_1, 0, none⟩) outs_1.length outs_1.length, .slice (some ⟨g4_1, 0, none⟩) hids_1.length hids_1.length, .slice (some ⟨g5_1, 0, none⟩) steps_1.length steps_1.length] 31) := X1_7.out.below hb
  clear B7 P0_7 P1_7 Y0_7 X0_7 Y1_7 X1_7
  clear hb CF
  have Y4_8 : Hid (RowQ w9 (some ⟨w8.heap.size + 1, 0, none⟩) n_4 xs_4) := ho
  clear ho
  have x0c0 := X0_8.out.cell (j := 0) (u := .int .i64 st_0) rfl
  have x0c1 := X0_8.out.cell (j := 1) (u := .int .i64 it_0) rfl
  have x0c2 := X0_8.out.cell (j := 2) (u := .slice (some ⟨g2_0, 0, none⟩) ins_0.length ins_0.length) rfl
  have x0c3 := X0_8.out.cell (j := 3) (u := .slice (some ⟨g3_0, 0, none⟩) outs_0.length outs_0.length) rfl
  have x0c4 := X0_8.out.cell (j := 4) (u := .slice (some ⟨g4_0, 0, none⟩) hids_0.length hids_0.length) rfl
  have x0c5 := X0_8.out.cell (j := 5) (u := .slice (some ⟨g5_0, 0, none⟩) steps_0.length steps_0.length) rfl
  have x1c0 := X1_8.out.cell (j := 0) (u := .int .i64 st_1) rfl
  have x1c1 := X1_8.out.cell (j := 1) (u := .int .i64 it_1) rfl
  have x1c2 := X1_8.out.cell (j := 2) (u := .slice (some ⟨g2_1, 0, none⟩) ins_1.length ins_1.length) rfl
  have x1c3 := X1_8.out.cell (j := 3) (u := .slice (some ⟨g3_1, 0, none⟩) outs_1.length outs_1.length) rfl
  have x1c4 := X1_8.out.cell (j := 4) (u := .slice (some ⟨g4_1, 0, none⟩) hids_1.length hids_1.length) rfl
  have x1c5 := X1_8.out.cell (j := 5) (u := .slice (some ⟨g5_1, 0, none⟩) steps_1.length steps_1.length) rfl
  go_wp2_with fail
  clear  x0c0 x0c1 x0c2 x0c3 x0c4 x0c5 x1c0 x1c1 x1c2 x1c3 x1c4 x1c5
  refine (CI.out _ _ _ _ _ Y0_8.out.row Y1_8.out.row Y4_8.out).mono ?_
  rintro e w10 ⟨rfl, hb⟩
  have hzzw10 := hb.size
  have B9 : Hid (Below w.heap.size w w10) := B8.out.trans (hb.mono B8.out.size)
  have P0_9 : Hid (VarIs w10 (w.heap.size) #[.int .i64 st_0, .int .i64 it_0, .slice a2_0 n2_0 c2_0, .slice a3_0 n3_0 c3_0, .slice a4_0 n4_0 c4_0, .slice a5_0 n5_0 c5_0] 25) := P0_8.out.below hb
  have P1_9 : Hid (VarIs w10 (w.heap.size + 1) #[.int .i64 st_1, .int .i64 it_1, .slice a2_1 n2_1 c2_1, .slice a3_1 n3_1 c3_1, .slice a4_1 n4_1 c4_1, .slice a5_1 n5_1 c5_1] 25) := P1_8.out.below hb
  have Y0_9 : Hid (IaAt w10 w6.heap.size ⟨st_0, it_0, ins_0, outs_0, hids_0, steps_0⟩ (.agg #[.int .i64 st_0, .int .i64 it_0, .slice (some ⟨g2_0, 0, none⟩) ins_0.length ins_0.length, .slice (some ⟨g3_0, 0, none⟩) outs_0.length outs_0.length, .slice (some ⟨g4_0, 0, none⟩) hids_0.length hids_0.length, .slice (some ⟨g5_0, 0, none⟩) steps_0.length steps_0.length])) := Y0_8.out.below hb
  have X0_9 : Hid (VarIs w10 w7.heap.size #[.int .i64 st_0, .int .i64 it_0, .slice (some ⟨g2_0, 0, none⟩) ins_0.length ins_0.length, .slice (some ⟨g3_0, 0, none⟩) outs_0.length outs_0.length, .slice (some ⟨g4_0, 0, none⟩) hids_0.length hids_0.length, .slice (some ⟨g5_0, 0, none⟩) steps_0.length steps_0.length] 31) := X0_8.out.below hb
  have Y1_9 : Hid (IaAt w10 ((w7.alloc (.cells #[.int .i64 st_0, .int .i64 it_0, .slice (some ⟨g2_0, 0, none⟩) ins_0.length ins_0.length, .slice (some ⟨g3_0, 0, none⟩) outs_0.length outs_0.length, .slice (some ⟨g4_0, 0, none⟩) hids_0.length hids_0.length, .slice (some ⟨g5_0, 0, none⟩) steps_0.length steps_0.length] 31))).heap.size ⟨st_1, it_1, ins_1, outs_1, hids_1, steps_1⟩ (.agg #[.int .i64 st_1, .int .i64 it_1, .slice (some ⟨g2_1, 0, none⟩) ins_1.length ins_1.length, .slice (some ⟨g3_1, 0, none⟩) outs_1.length outs_1.length, .slice (some ⟨g4_1, 0, none⟩) hids_1.length hids_1.length, .slice (some ⟨g5_1, 0, none⟩) steps_1.length steps_1.length])) := Y1_8.out.below hb
  have X1_9 : Hid (VarIs w10 w8.heap.size #[.int .i64 st_1, .int .i64 it_1, .slice (some ⟨g2_1, 0, none⟩) ins_1.length ins_1.length, .slice (some ⟨g3_1, 0, none⟩) outs_1.length outs_1.length, .slice (some ⟨g4_1, 0, none⟩) hids_1.length hids_1.length, .slice (some ⟨g5_1, 0, none⟩) steps_1.length steps_1.length] 31) := X1_8.out.below hb
  have Y4_9 : Hid (RowQ w10 (some ⟨w8.heap.size + 1, 0, none⟩) n_4 xs_4) := Y4_8.out.below hb
  clear B8 P0_8 P1_8 Y0_8 X0_8 Y1_8 X1_8 Y4_8
  clear hb
  have hqn : (q != q) = false := by cases q <;> rfl
  go_wp2_with fail
  have SD : (Below w.heap.size w w10.drew) ∧ (VarIs w10.drew (w.heap.size) #[.int .i64 st_0, .int .i64 it_0, .slice a2_0 n2_0 c2_0, .slice a3_0 n3_0 c3_0, .slice a4_0 n4_0 c4_0, .slice a5_0 n5_0 c5_0] 25) ∧ (VarIs w10.drew (w.heap.size + 1) #[.int .i64 st_1, .int .i64 it_1, .slice a2_1 n2_1 c2_1, .slice a3_1 n3_1 c3_1, .slice a4_1 n4_1 c4_1, .slice a5_1 n5_1 c5_1] 25) ∧ (IaAt w10.drew w6.heap.size ⟨st_0, it_0, ins_0, outs_0, hids_0, steps_0⟩ (.agg #[.int .i64 st_0, .int .i64 it_0, .slice (some ⟨g2_0, 0, none⟩) ins_0.length ins_0.length, .slice (some ⟨g3_0, 0, none⟩) outs_0.length outs_0.length, .slice (some ⟨g4_0, 0, none⟩) hids_0.length hids_0.length, .slice (some ⟨g5_0, 0, none⟩) steps_0.length steps_0.length])) ∧ (VarIs w10.drew w7.heap.size #[.int .i64 st_0, .int .i64 it_0, .slice (some ⟨g2_0, 0, none⟩) ins_0.length ins_0.length, .slice (some ⟨g3_0, 0, none⟩) outs_0.length outs_0.length, .slice (some ⟨g4_0, 0, none⟩) hids_0.length hids_0.length, .slice (some ⟨g5_0, 0, none⟩) steps_0.length steps_0.length] 31) ∧ (IaAt w10.drew ((w7.alloc (.cells #[.int .i64 st_0, .int .i64 it_0, .slice (some ⟨g2_0, 0, none⟩) ins_0.length ins_0.length, .slice (some ⟨g3_0, 0, none⟩) outs_0.length outs_0.length, .slice (some ⟨g4_0, 0, none⟩) hids_0.length hids_0.length, .slice (some ⟨g5_0, 0, none⟩) steps_0.length steps_0.length] 31))).heap.size ⟨st_1, it_1, ins_1, outs_1, hids_1, steps_1⟩ (.agg #[.int .i64 st_1, .int .i64 it_1, .slice (some ⟨g2_1, 0, none⟩) ins_1.length ins_1.length, .slice (some ⟨g3_1, 0, none⟩) outs_1.length outs_1.length, .slice (some ⟨g4_1, 0, none⟩) hids_1.length hids_1.length, .slice (some ⟨g5_1, 0, none⟩) steps_1.length steps_1.length])) ∧ (VarIs w10.drew w8.heap.size #[.int .i64 st_1, .int .i64 it_1, .slice (some ⟨g2_1, 0, none⟩) ins_1.length ins_1.length, .slice (some ⟨g3_1, 0, none⟩) outs_1.length outs_1.length, .slice (some ⟨g4_1, 0, none⟩) hids_1.length hids_1.length, .slice (some ⟨g5_1, 0, none⟩) steps_1.length steps_1.length] 31) ∧ (RowQ w10.drew (some ⟨w8.heap.size + 1, 0, none⟩) n_4 xs_4) := ⟨B9.out.drew, P0_9.out.drew, P1_9.out.drew, Y0_9.out.drew, X0_9.out.drew, Y1_9.out.drew, X1_9.out.drew, Y4_9.out.drew⟩
  refine wp_region_tf (S := fun w' => (Below w.heap.size w w') ∧ (VarIs w' (w.heap.size) #[.int .i64 st_0, .int .i64 it_0, .slice a2_0 n2_0 c2_0, .slice a3_0 n3_0 c3_0, .slice a4_0 n4_0 c4_0, .slice a5_0 n5_0 c5_0] 25) ∧ (VarIs w' (w.heap.size + 1) #[.int .i64 st_1, .int .i64 it_1, .slice a2_1 n2_1 c2_1, .slice a3_1 n3_1 c3_1, .slice a4_1 n4_1 c4_1, .slice a5_1 n5_1 c5_1] 25) ∧ (IaAt w' w6.heap.size ⟨st_0, it_0, ins_0, outs_0, hids_0, steps_0⟩ (.agg #[.int .i64 st_0, .int .i64 it_0, .slice (some ⟨g2_0, 0, none⟩) ins_0.length ins_0.length, .slice (some ⟨g3_0, 0, none⟩) outs_0.length outs_0.length, .slice (some ⟨g4_0, 0, none⟩) hids_0.length hids_0.length, .slice (some ⟨g5_0, 0, none⟩) steps_0.length steps_0.length])) ∧ (VarIs w' w7.heap.size #[.int .i64 st_0, .int .i64 it_0, .slice (some ⟨g2_0, 0, none⟩) ins_0.length ins_0.length, .slice (some ⟨g3_0, 0, none⟩) outs_0.length outs_0.length, .slice (some ⟨g4_0, 0, none⟩) hids_0.length hids_0.length, .slice (some ⟨g5_0, 0, none⟩) steps_0.length steps_0.length] 31) ∧ (IaAt w' ((w7.alloc (.cells #[.int .i64 st_0, .int .i64 it_0, .slice (some ⟨g2_0, 0, none⟩) ins_0.length ins_0.length, .slice (some ⟨g3_0, 0, none⟩) outs_0.length outs_0.length, .slice (some ⟨g4_0, 0, none⟩) hids_0.length hids_0.length, .slice (some ⟨g5_0, 0, none⟩) steps_0.length steps_0.length] 31))).heap.size ⟨st_1, it_1, ins_1, outs_1, hids_1, steps_1⟩ (.agg #[.int .i64 st_1, .int .i64 it_1, .slice (some ⟨g2_1, 0, none⟩) ins_1.length ins_1.length, .slice (some ⟨g3_1, 0, none⟩) outs_1.length outs_1.length, .slice (some ⟨g4_1, 0, none⟩) hids_1.length hids_1.length, .slice (some ⟨g5_1, 0, none⟩) steps_1.length steps_1.length])) ∧ (VarIs w' w8.heap.size #[.int .i64 st_1, .int .i64 it_1, .slice (some ⟨g2_1, 0, none⟩) ins_1.length ins_1.length, .slice (some ⟨g3_1, 0, none⟩) outs_1.length outs_1.length, .slice (some ⟨g4_1, 0, none⟩) hids_1.length hids_1.length, .slice (some ⟨g5_1, 0, none⟩) steps_1.length steps_1.length] 31) ∧ (RowQ w' (some ⟨w8.heap.size + 1, 0, none⟩) n_4 xs_4)) 5 (by kernel_rfl) (by kernel_rfl) (by kernel_rfl) SD (fun hHeld => ?_)
  refine fast_yields 0 56 (.agg #[.int .i64 st_0, .int .i64 it_0, .slice (some ⟨g2_0, 0, none⟩) ins_0.length ins_0.length, .slice (some ⟨g3_0, 0, none⟩) outs_0.length outs_0.length, .slice (some ⟨g4_0, 0, none⟩) hids_0.length hids_0.length, .slice (some ⟨g5_0, 0, none⟩) steps_0.length steps_0.length]) (fuel := 4) rfl rfl (by kernel_rfl) (by kernel_rfl) (by kernel_rfl) (fun _ _ _ h => h) (yieldsIf_load_mid (by rfl) _ _ rfl (w7.heap.size) 0 rfl #[.int .i64 st_0, .int .i64 it_0, .slice (some ⟨g2_0, 0, none⟩) ins_0.length ins_0.length, .slice (some ⟨g3_0, 0, none⟩) outs_0.length outs_0.length, .slice (some ⟨g4_0, 0, none⟩) hids_0.length hids_0.length, .slice (some ⟨g5_0, 0, none⟩) steps_0.length steps_0.length].toList _ (fun w hw => hw.2.2.2.2.1.range) Tryz.underlying31 rfl (by kernel_rfl)) hHeld (tf 1 5) (by kernel_rfl) (fun K hK => ?_)
  go_big_move
  refine hK.out _ ?_
  clear hK K
  refine fast_yields 1 57 (.agg #[.int .i64 st_0, .int .i64 it_0, .slice a2_0 n2_0 c2_0, .slice a3_0 n3_0 c3_0, .slice a4_0 n4_0 c4_0, .slice a5_0 n5_0 c5_0]) (fuel := 3) rfl rfl (by kernel_rfl) (by kernel_rfl) (by kernel_rfl) (fun _ _ _ h => h) (yieldsIf_load_mid (by rfl) _ _ rfl (w.heap.size) 0 rfl #[.int .i64 st_0, .int .i64 it_0, .slice a2_0 n2_0 c2_0, .slice a3_0 n3_0 c3_0, .slice a4_0 n4_0 c4_0, .slice a5_0 n5_0 c5_0].toList _ (fun w hw => hw.2.1.range) Tryz.underlying25 rfl (by kernel_rfl)) hHeld (tf 3 5) (by kernel_rfl) (fun K hK => ?_)
  go_big_move
  refine hK.out _ ?_
  clear hK K
  refine wpAnyH_ready (rs := [2]) (fuel := 2) (by kernel_rfl) (by simp) ?_
  refine ready_want rfl (by kernel_rfl) (tf 7 5) (by kernel_rfl) (fun K hK => ?_) AllReadyH.nil
  simp only [List.getElem_toArray, List.getElem_cons_succ, List.getElem_cons_zero]
  go_big_op
  refine (CT_0.out _ hHeld.1).mono ?_
  rintro e w11 ⟨vq, rfl, hat, hb⟩
  have hzzw11 : w10.heap.size ≤ w11.heap.size := hb.size
  have kq := hat.row
  have hS : (Below w.heap.size w w11) ∧ (VarIs w11 (w.heap.size) #[.int .i64 st_0, .int .i64 it_0, .slice a2_0 n2_0 c2_0, .slice a3_0 n3_0 c3_0, .slice a4_0 n4_0 c4_0, .slice a5_0 n5_0 c5_0] 25) ∧ (VarIs w11 (w.heap.size + 1) #[.int .i64 st_1, .int .i64 it_1, .slice a2_1 n2_1 c2_1, .slice a3_1 n3_1 c3_1, .slice a4_1 n4_1 c4_1, .slice a5_1 n5_1 c5_1] 25) ∧ (IaAt w11 w6.heap.size ⟨st_0, it_0, ins_0, outs_0, hids_0, steps_0⟩ (.agg #[.int .i64 st_0, .int .i64 it_0, .slice (some ⟨g2_0, 0, none⟩) ins_0.length ins_0.length, .slice (some ⟨g3_0, 0, none⟩) outs_0.length outs_0.length, .slice (some ⟨g4_0, 0, none⟩) hids_0.length hids_0.length, .slice (some ⟨g5_0, 0, none⟩) steps_0.length steps_0.length])) ∧ (VarIs w11 w7.heap.size #[.int .i64 st_0, .int .i64 it_0, .slice (some ⟨g2_0, 0, none⟩) ins_0.length ins_0.length, .slice (some ⟨g3_0, 0, none⟩) outs_0.length outs_0.length, .slice (some ⟨g4_0, 0, none⟩) hids_0.length hids_0.length, .slice (some ⟨g5_0, 0, none⟩) steps_0.length steps_0.length] 31) ∧ (IaAt w11 ((w7.alloc (.cells #[.int .i64 st_0, .int .i64 it_0, .slice (some ⟨g2_0, 0, none⟩) ins_0.length ins_0.length, .slice (some ⟨g3_0, 0, none⟩) outs_0.length outs_0.length, .slice (some ⟨g4_0, 0, none⟩) hids_0.length hids_0.length, .slice (some ⟨g5_0, 0, none⟩) steps_0.length steps_0.length] 31))).heap.size ⟨st_1, it_1, ins_1, outs_1, hids_1, steps_1⟩ (.agg #[.int .i64 st_1, .int .i64 it_1, .slice (some ⟨g2_1, 0, none⟩) ins_1.length ins_1.length, .slice (some ⟨g3_1, 0, none⟩) outs_1.length outs_1.length, .slice (some ⟨g4_1, 0, none⟩) hids_1.length hids_1.length, .slice (some ⟨g5_1, 0, none⟩) steps_1.length steps_1.length])) ∧ (VarIs w11 w8.heap.size #[.int .i64 st_1, .int .i64 it_1, .slice (some ⟨g2_1, 0, none⟩) ins_1.length ins_1.length, .slice (some ⟨g3_1, 0, none⟩) outs_1.length outs_1.length, .slice (some ⟨g4_1, 0, none⟩) hids_1.length hids_1.length, .slice (some ⟨g5_1, 0, none⟩) steps_1.length steps_1.length] 31) ∧ (RowQ w11 (some ⟨w8.heap.size + 1, 0, none⟩) n_4 xs_4) := ⟨hHeld.1.trans (hb.mono hHeld.1.size), hHeld.2.1.below hb, hHeld.2.2.1.below hb, hHeld.2.2.2.1.below hb, hHeld.2.2.2.2.1.below hb, hHeld.2.2.2.2.2.1.below hb, hHeld.2.2.2.2.2.2.1.below hb, hHeld.2.2.2.2.2.2.2.below hb⟩
  clear hat hb
  refine hK.out _ _ hS (fun hHeld => ?_)
  clear hK K
  refine wpAnyH_ready (rs := [3]) (fuel := 1) (by kernel_rfl) (by simp) ?_
  refine ready_want rfl (by kernel_rfl) (tf 15 5) (by kernel_rfl) (fun K hK => ?_) AllReadyH.nil
  simp only [List.getElem_toArray, List.getElem_cons_succ, List.getElem_cons_zero]
  go_big_op
  refine (CQ_0.out _ _ _ hHeld.2.2.2.1.row kq).mono ?_
  rintro e w12 ⟨rfl, hb⟩
  have hzzw12 : w11.heap.size ≤ w12.heap.size := hb.size
  have hS : (Below w.heap.size w w12) ∧ (VarIs w12 (w.heap.size) #[.int .i64 st_0, .int .i64 it_0, .slice a2_0 n2_0 c2_0, .slice a3_0 n3_0 c3_0, .slice a4_0 n4_0 c4_0, .slice a5_0 n5_0 c5_0] 25) ∧ (VarIs w12 (w.heap.size + 1) #[.int .i64 st_1, .int .i64 it_1, .slice a2_1 n2_1 c2_1, .slice a3_1 n3_1 c3_1, .slice a4_1 n4_1 c4_1, .slice a5_1 n5_1 c5_1] 25) ∧ (IaAt w12 w6.heap.size ⟨st_0, it_0, ins_0, outs_0, hids_0, steps_0⟩ (.agg #[.int .i64 st_0, .int .i64 it_0, .slice (some ⟨g2_0, 0, none⟩) ins_0.length ins_0.length, .slice (some ⟨g3_0, 0, none⟩) outs_0.length outs_0.length, .slice (some ⟨g4_0, 0, none⟩) hids_0.length hids_0.length, .slice (some ⟨g5_0, 0, none⟩) steps_0.length steps_0.length])) ∧ (VarIs w12 w7.heap.size #[.int .i64 st_0, .int .i64 it_0, .slice (some ⟨g2_0, 0, none⟩) ins_0.length ins_0.length, .slice (some ⟨g3_0, 0, none⟩) outs_0.length outs_0.length, .slice (some ⟨g4_0, 0, none⟩) hids_0.length hids_0.length, .slice (some ⟨g5_0, 0, none⟩) steps_0.length steps_0.length] 31) ∧ (IaAt w12 ((w7.alloc (.cells #[.int .i64 st_0, .int .i64 it_0, .slice (some ⟨g2_0, 0, none⟩) ins_0.length ins_0.length, .slice (some ⟨g3_0, 0, none⟩) outs_0.length outs_0.length, .slice (some ⟨g4_0, 0, none⟩) hids_0.length hids_0.length, .slice (some ⟨g5_0, 0, none⟩) steps_0.length steps_0.length] 31))).heap.size ⟨st_1, it_1, ins_1, outs_1, hids_1, steps_1⟩ (.agg #[.int .i64 st_1, .int .i64 it_1, .slice (some ⟨g2_1, 0, none⟩) ins_1.length ins_1.length, .slice (some ⟨g3_1, 0, none⟩) outs_1.length outs_1.length, .slice (some ⟨g4_1, 0, none⟩) hids_1.length hids_1.length, .slice (some ⟨g5_1, 0, none⟩) steps_1.length steps_1.length])) ∧ (VarIs w12 w8.heap.size #[.int .i64 st_1, .int .i64 it_1, .slice (some ⟨g2_1, 0, none⟩) ins_1.length ins_1.length, .slice (some ⟨g3_1, 0, none⟩) outs_1.length outs_1.length, .slice (some ⟨g4_1, 0, none⟩) hids_1.length hids_1.length, .slice (some ⟨g5_1, 0, none⟩) steps_1.length steps_1.length] 31) ∧ (RowQ w12 (some ⟨w8.heap.size + 1, 0, none⟩) n_4 xs_4) := ⟨hHeld.1.trans (hb.mono hHeld.1.size), hHeld.2.1.below hb, hHeld.2.2.1.below hb, hHeld.2.2.2.1.below hb, hHeld.2.2.2.2.1.below hb, hHeld.2.2.2.2.2.1.below hb, hHeld.2.2.2.2.2.2.1.below hb, hHeld.2.2.2.2.2.2.2.below hb⟩
  clear hb kq
  refine hK.out _ _ hS (fun hHeld => ?_)
  clear hK K
  refine fast1 4 60 (.bool false) (.tmp 59) (.bool true) (fuel := 0) rfl rfl (by kernel_rfl) (by kernel_rfl) (by kernel_rfl) (fun _ _ _ h => h) (by kernel_rfl) (by kernel_rfl) (fun ρ hr0 _ w hSw => by simp [go_sem, hr0]) hHeld (tf 31 5) (by kernel_rfl) (fun K hK => ?_)
  go_big_move
  refine hK.out _ ?_
  clear hK K
  refine wpAnyH_done (by kernel_rfl) ?_ _
  have B10 : Hid (Below w.heap.size w w12) := hHeld.1
  have P0_10 : Hid (VarIs w12 (w.heap.size) #[.int .i64 st_0, .int .i64 it_0, .slice a2_0 n2_0 c2_0, .slice a3_0 n3_0 c3_0, .slice a4_0 n4_0 c4_0, .slice a5_0 n5_0 c5_0] 25) := hHeld.2.1
  have P1_10 : Hid (VarIs w12 (w.heap.size + 1) #[.int .i64 st_1, .int .i64 it_1, .slice a2_1 n2_1 c2_1, .slice a3_1 n3_1 c3_1, .slice a4_1 n4_1 c4_1, .slice a5_1 n5_1 c5_1] 25) := hHeld.2.2.1
  have Y0_10 : Hid (IaAt w12 w6.heap.size ⟨st_0, it_0, ins_0, outs_0, hids_0, steps_0⟩ (.agg #[.int .i64 st_0, .int .i64 it_0, .slice (some ⟨g2_0, 0, none⟩) ins_0.length ins_0.length, .slice (some ⟨g3_0, 0, none⟩) outs_0.length outs_0.length, .slice (some ⟨g4_0, 0, none⟩) hids_0.length hids_0.length, .slice (some ⟨g5_0, 0, none⟩) steps_0.length steps_0.length])) := hHeld.2.2.2.1
  have X0_10 : Hid (VarIs w12 w7.heap.size #[.int .i64 st_0, .int .i64 it_0, .slice (some ⟨g2_0, 0, none⟩) ins_0.length ins_0.length, .slice (some ⟨g3_0, 0, none⟩) outs_0.length outs_0.length, .slice (some ⟨g4_0, 0, none⟩) hids_0.length hids_0.length, .slice (some ⟨g5_0, 0, none⟩) steps_0.length steps_0.length] 31) := hHeld.2.2.2.2.1
  have Y1_10 : Hid (IaAt w12 ((w7.alloc (.cells #[.int .i64 st_0, .int .i64 it_0, .slice (some ⟨g2_0, 0, none⟩) ins_0.length ins_0.length, .slice (some ⟨g3_0, 0, none⟩) outs_0.length outs_0.length, .slice (some ⟨g4_0, 0, none⟩) hids_0.length hids_0.length, .slice (some ⟨g5_0, 0, none⟩) steps_0.length steps_0.length] 31))).heap.size ⟨st_1, it_1, ins_1, outs_1, hids_1, steps_1⟩ (.agg #[.int .i64 st_1, .int .i64 it_1, .slice (some ⟨g2_1, 0, none⟩) ins_1.length ins_1.length, .slice (some ⟨g3_1, 0, none⟩) outs_1.length outs_1.length, .slice (some ⟨g4_1, 0, none⟩) hids_1.length hids_1.length, .slice (some ⟨g5_1, 0, none⟩) steps_1.length steps_1.length])) := hHeld.2.2.2.2.2.1
  have X1_10 : Hid (VarIs w12 w8.heap.size #[.int .i64 st_1, .int .i64 it_1, .slice (some ⟨g2_1, 0, none⟩) ins_1.length ins_1.length, .slice (some ⟨g3_1, 0, none⟩) outs_1.length outs_1.length, .slice (some ⟨g4_1, 0, none⟩) hids_1.length hids_1.length, .slice (some ⟨g5_1, 0, none⟩) steps_1.length steps_1.length] 31) := hHeld.2.2.2.2.2.2.1
  have Y4_10 : Hid (RowQ w12 (some ⟨w8.heap.size + 1, 0, none⟩) n_4 xs_4) := hHeld.2.2.2.2.2.2.2
  clear hHeld SD B9 P0_9 P1_9 Y0_9 X0_9 Y1_9 X1_9 Y4_9
  go_wp2_with fail
  have SD : (Below w.heap.size w w12.drew) ∧ (VarIs w12.drew (w.heap.size) #[.int .i64 st_0, .int .i64 it_0, .slice a2_0 n2_0 c2_0, .slice a3_0 n3_0 c3_0, .slice a4_0 n4_0 c4_0, .slice a5_0 n5_0 c5_0] 25) ∧ (VarIs w12.drew (w.heap.size + 1) #[.int .i64 st_1, .int .i64 it_1, .slice a2_1 n2_1 c2_1, .slice a3_1 n3_1 c3_1, .slice a4_1 n4_1 c4_1, .slice a5_1 n5_1 c5_1] 25) ∧ (IaAt w12.drew w6.heap.size ⟨st_0, it_0, ins_0, outs_0, hids_0, steps_0⟩ (.agg #[.int .i64 st_0, .int .i64 it_0, .slice (some ⟨g2_0, 0, none⟩) ins_0.length ins_0.length, .slice (some ⟨g3_0, 0, none⟩) outs_0.length outs_0.length, .slice (some ⟨g4_0, 0, none⟩) hids_0.length hids_0.length, .slice (some ⟨g5_0, 0, none⟩) steps_0.length steps_0.length])) ∧ (VarIs w12.drew w7.heap.size #[.int .i64 st_0, .int .i64 it_0, .slice (some ⟨g2_0, 0, none⟩) ins_0.length ins_0.length, .slice (some ⟨g3_0, 0, none⟩) outs_0.length outs_0.length, .slice (some ⟨g4_0, 0, none⟩) hids_0.length hids_0.length, .slice (some ⟨g5_0, 0, none⟩) steps_0.length steps_0.length] 31) ∧ (IaAt w12.drew ((w7.alloc (.cells #[.int .i64 st_0, .int .i64 it_0, .slice (some ⟨g2_0, 0, none⟩) ins_0.length ins_0.length, .slice (some ⟨g3_0, 0, none⟩) outs_0.length outs_0.length, .slice (some ⟨g4_0, 0, none⟩) hids_0.length hids_0.length, .slice (some ⟨g5_0, 0, none⟩) steps_0.length steps_0.length] 31))).heap.size ⟨st_1, it_1, ins_1, outs_1, hids_1, steps_1⟩ (.agg #[.int .i64 st_1, .int .i64 it_1, .slice (some ⟨g2_1, 0, none⟩) ins_1.length ins_1.length, .slice (some ⟨g3_1, 0, none⟩) outs_1.length outs_1.length, .slice (some ⟨g4_1, 0, none⟩) hids_1.length hids_1.length, .slice (some ⟨g5_1, 0, none⟩) steps_1.length steps_1.length])) ∧ (VarIs w12.drew w8.heap.size #[.int .i64 st_1, .int .i64 it_1, .slice (some ⟨g2_1, 0, none⟩) ins_1.length ins_1.length, .slice (some ⟨g3_1, 0, none⟩) outs_1.length outs_1.length, .slice (some ⟨g4_1, 0, none⟩) hids_1.length hids_1.length, .slice (some ⟨g5_1, 0, none⟩) steps_1.length steps_1.length] 31) ∧ (RowQ w12.drew (some ⟨w8.heap.size + 1, 0, none⟩) n_4 xs_4) := ⟨B10.out.drew, P0_10.out.drew, P1_10.out.drew, Y0_10.out.drew, X0_10.out.drew, Y1_10.out.drew, X1_10.out.drew, Y4_10.out.drew⟩
  refine wp_region_tf (S := fun w' => (Below w.heap.size w w') ∧ (VarIs w' (w.heap.size) #[.int .i64 st_0, .int .i64 it_0, .slice a2_0 n2_0 c2_0, .slice a3_0 n3_0 c3_0, .slice a4_0 n4_0 c4_0, .slice a5_0 n5_0 c5_0] 25) ∧ (VarIs w' (w.heap.size + 1) #[.int .i64 st_1, .int .i64 it_1, .slice a2_1 n2_1 c2_1, .slice a3_1 n3_1 c3_1, .slice a4_1 n4_1 c4_1, .slice a5_1 n5_1 c5_1] 25) ∧ (IaAt w' w6.heap.size ⟨st_0, it_0, ins_0, outs_0, hids_0, steps_0⟩ (.agg #[.int .i64 st_0, .int .i64 it_0, .slice (some ⟨g2_0, 0, none⟩) ins_0.length ins_0.length, .slice (some ⟨g3_0, 0, none⟩) outs_0.length outs_0.length, .slice (some ⟨g4_0, 0, none⟩) hids_0.length hids_0.length, .slice (some ⟨g5_0, 0, none⟩) steps_0.length steps_0.length])) ∧ (VarIs w' w7.heap.size #[.int .i64 st_0, .int .i64 it_0, .slice (some ⟨g2_0, 0, none⟩) ins_0.length ins_0.length, .slice (some ⟨g3_0, 0, none⟩) outs_0.length outs_0.length, .slice (some ⟨g4_0, 0, none⟩) hids_0.length hids_0.length, .slice (some ⟨g5_0, 0, none⟩) steps_0.length steps_0.length] 31) ∧ (IaAt w' ((w7.alloc (.cells #[.int .i64 st_0, .int .i64 it_0, .slice (some ⟨g2_0, 0, none⟩) ins_0.length ins_0.length, .slice (some ⟨g3_0, 0, none⟩) outs_0.length outs_0.length, .slice (some ⟨g4_0, 0, none⟩) hids_0.length hids_0.length, .slice (some ⟨g5_0, 0, none⟩) steps_0.length steps_0.length] 31))).heap.size ⟨st_1, it_1, ins_1, outs_1, hids_1, steps_1⟩ (.agg #[.int .i64 st_1, .int .i64 it_1, .slice (some ⟨g2_1, 0, none⟩) ins_1.length ins_1.length, .slice (some ⟨g3_1, 0, none⟩) outs_1.length outs_1.length, .slice (some ⟨g4_1, 0, none⟩) hids_1.length hids_1.length, .slice (some ⟨g5_1, 0, none⟩) steps_1.length steps_1.length])) ∧ (VarIs w' w8.heap.size #[.int .i64 st_1, .int .i64 it_1, .slice (some ⟨g2_1, 0, none⟩) ins_1.length ins_1.length, .slice (some ⟨g3_1, 0, none⟩) outs_1.length outs_1.length, .slice (some ⟨g4_1, 0, none⟩) hids_1.length hids_1.length, .slice (some ⟨g5_1, 0, none⟩) steps_1.length steps_1.length] 31) ∧ (RowQ w' (some ⟨w8.heap.size + 1, 0, none⟩) n_4 xs_4)) 5 (by kernel_rfl) (by kernel_rfl) (by kernel_rfl) SD (fun hHeld => ?_)
  refine fast_yields 0 61 (.agg #[.int .i64 st_1, .int .i64 it_1, .slice (some ⟨g2_1, 0, none⟩) ins_1.length ins_1.length, .slice (some ⟨g3_1, 0, none⟩) outs_1.length outs_1.length, .slice (some ⟨g4_1, 0, none⟩) hids_1.length hids_1.length, .slice (some ⟨g5_1, 0, none⟩) steps_1.length steps_1.length]) (fuel := 4) rfl rfl (by kernel_rfl) (by kernel_rfl) (by kernel_rfl) (fun _ _ _ h => h) (yieldsIf_load_mid (by rfl) _ _ rfl (w8.heap.size) 0 rfl #[.int .i64 st_1, .int .i64 it_1, .slice (some ⟨g2_1, 0, none⟩) ins_1.length ins_1.length, .slice (some ⟨g3_1, 0, none⟩) outs_1.length outs_1.length, .slice (some ⟨g4_1, 0, none⟩) hids_1.length hids_1.length, .slice (some ⟨g5_1, 0, none⟩) steps_1.length steps_1.length].toList _ (fun w hw => hw.2.2.2.2.2.2.1.range) Tryz.underlying31 rfl (by kernel_rfl)) hHeld (tf 1 5) (by kernel_rfl) (fun K hK => ?_)
  go_big_move
  refine hK.out _ ?_
  clear hK K
  refine fast_yields 1 62 (.agg #[.int .i64 st_1, .int .i64 it_1, .slice a2_1 n2_1 c2_1, .slice a3_1 n3_1 c3_1, .slice a4_1 n4_1 c4_1, .slice a5_1 n5_1 c5_1]) (fuel := 3) rfl rfl (by kernel_rfl) (by kernel_rfl) (by kernel_rfl) (fun _ _ _ h => h) (yieldsIf_load_mid (by rfl) _ _ rfl (w.heap.size + 1) 0 rfl #[.int .i64 st_1, .int .i64 it_1, .slice a2_1 n2_1 c2_1, .slice a3_1 n3_1 c3_1, .slice a4_1 n4_1 c4_1, .slice a5_1 n5_1 c5_1].toList _ (fun w hw => hw.2.2.1.range) Tryz.underlying25 rfl (by kernel_rfl)) hHeld (tf 3 5) (by kernel_rfl) (fun K hK => ?_)
  go_big_move
  refine hK.out _ ?_
  clear hK K
  refine wpAnyH_ready (rs := [2]) (fuel := 2) (by kernel_rfl) (by simp) ?_
  refine ready_want rfl (by kernel_rfl) (tf 7 5) (by kernel_rfl) (fun K hK => ?_) AllReadyH.nil
  simp only [List.getElem_toArray, List.getElem_cons_succ, List.getElem_cons_zero]
  go_big_op
  refine (CT_1.out _ hHeld.1).mono ?_
  rintro e w13 ⟨vq, rfl, hat, hb⟩
  have hzzw13 : w12.heap.size ≤ w13.heap.size := hb.size
  have kq := hat.row
  have hS : (Below w.heap.size w w13) ∧ (VarIs w13 (w.heap.size) #[.int .i64 st_0, .int .i64 it_0, .slice a2_0 n2_0 c2_0, .slice a3_0 n3_0 c3_0, .slice a4_0 n4_0 c4_0, .slice a5_0 n5_0 c5_0] 25) ∧ (VarIs w13 (w.heap.size + 1) #[.int .i64 st_1, .int .i64 it_1, .slice a2_1 n2_1 c2_1, .slice a3_1 n3_1 c3_1, .slice a4_1 n4_1 c4_1, .slice a5_1 n5_1 c5_1] 25) ∧ (IaAt w13 w6.heap.size ⟨st_0, it_0, ins_0, outs_0, hids_0, steps_0⟩ (.agg #[.int .i64 st_0, .int .i64 it_0, .slice (some ⟨g2_0, 0, none⟩) ins_0.length ins_0.length, .slice (some ⟨g3_0, 0, none⟩) outs_0.length outs_0.length, .slice (some ⟨g4_0, 0, none⟩) hids_0.length hids_0.length, .slice (some ⟨g5_0, 0, none⟩) steps_0.length steps_0.length])) ∧ (VarIs w13 w7.heap.size #[.int .i64 st_0, .int .i64 it_0, .slice (some ⟨g2_0, 0, none⟩) ins_0.length ins_0.length, .slice (some ⟨g3_0, 0, none⟩) outs_0.length outs_0.length, .slice (some ⟨g4_0, 0, none⟩) hids_0.length hids_0.length, .slice (some ⟨g5_0, 0, none⟩) steps_0.length steps_0.length] 31) ∧ (IaAt w13 ((w7.alloc (.cells #[.int .i64 st_0, .int .i64 it_0, .slice (some ⟨g2_0, 0, none⟩) ins_0.length ins_0.length, .slice (some ⟨g3_0, 0, none⟩) outs_0.length outs_0.length, .slice (some ⟨g4_0, 0, none⟩) hids_0.length hids_0.length, .slice (some ⟨g5_0, 0, none⟩) steps_0.length steps_0.length] 31))).heap.size ⟨st_1, it_1, ins_1, outs_1, hids_1, steps_1⟩ (.agg #[.int .i64 st_1, .int .i64 it_1, .slice (some ⟨g2_1, 0, none⟩) ins_1.length ins_1.length, .slice (some ⟨g3_1, 0, none⟩) outs_1.length outs_1.length, .slice (some ⟨g4_1, 0, none⟩) hids_1.length hids_1.length, .slice (some ⟨g5_1, 0, none⟩) steps_1.length steps_1.length])) ∧ (VarIs w13 w8.heap.size #[.int .i64 st_1, .int .i64 it_1, .slice (some ⟨g2_1, 0, none⟩) ins_1.length ins_1.length, .slice (some ⟨g3_1, 0, none⟩) outs_1.length outs_1.length, .slice (some ⟨g4_1, 0, none⟩) hids_1.length hids_1.length, .slice (some ⟨g5_1, 0, none⟩) steps_1.length steps_1.length] 31) ∧ (RowQ w13 (some ⟨w8.heap.size + 1, 0, none⟩) n_4 xs_4) := ⟨hHeld.1.trans (hb.mono hHeld.1.size), hHeld.2.1.below hb, hHeld.2.2.1.below hb, hHeld.2.2.2.1.below hb, hHeld.2.2.2.2.1.below hb, hHeld.2.2.2.2.2.1.below hb, hHeld.2.2.2.2.2.2.1.below hb, hHeld.2.2.2.2.2.2.2.below hb⟩
  clear hat hb
  refine hK.out _ _ hS (fun hHeld => ?_)
  clear hK K
  refine wpAnyH_ready (rs := [3]) (fuel := 1) (by kernel_rfl) (by simp) ?_
  refine ready_want rfl (by kernel_rfl) (tf 15 5) (by kernel_rfl) (fun K hK => ?_) AllReadyH.nil
  simp only [List.getElem_toArray, List.getElem_cons_succ, List.getElem_cons_zero]
  go_big_op
  refine (CQ_1.out _ _ _ hHeld.2.2.2.2.2.1.row kq).mono ?_
  rintro e w14 ⟨rfl, hb⟩
  have hzzw14 : w13.heap.size ≤ w14.heap.size := hb.size
  have hS : (Below w.heap.size w w14) ∧ (VarIs w14 (w.heap.size) #[.int .i64 st_0, .int .i64 it_0, .slice a2_0 n2_0 c2_0, .slice a3_0 n3_0 c3_0, .slice a4_0 n4_0 c4_0, .slice a5_0 n5_0 c5_0] 25) ∧ (VarIs w14 (w.heap.size + 1) #[.int .i64 st_1, .int .i64 it_1, .slice a2_1 n2_1 c2_1, .slice a3_1 n3_1 c3_1, .slice a4_1 n4_1 c4_1, .slice a5_1 n5_1 c5_1] 25) ∧ (IaAt w14 w6.heap.size ⟨st_0, it_0, ins_0, outs_0, hids_0, steps_0⟩ (.agg #[.int .i64 st_0, .int .i64 it_0, .slice (some ⟨g2_0, 0, none⟩) ins_0.length ins_0.length, .slice (some ⟨g3_0, 0, none⟩) outs_0.length outs_0.length, .slice (some ⟨g4_0, 0, none⟩) hids_0.length hids_0.length, .slice (some ⟨g5_0, 0, none⟩) steps_0.length steps_0.length])) ∧ (VarIs w14 w7.heap.size #[.int .i64 st_0, .int .i64 it_0, .slice (some ⟨g2_0, 0, none⟩) ins_0.length ins_0.length, .slice (some ⟨g3_0, 0, none⟩) outs_0.length outs_0.length, .slice (some ⟨g4_0, 0, none⟩) hids_0.length hids_0.length, .slice (some ⟨g5_0, 0, none⟩) steps_0.length steps_0.length] 31) ∧ (IaAt w14 ((w7.alloc (.cells #[.int .i64 st_0, .int .i64 it_0, .slice (some ⟨g2_0, 0, none⟩) ins_0.length ins_0.length, .slice (some ⟨g3_0, 0, none⟩) outs_0.length outs_0.length, .slice (some ⟨g4_0, 0, none⟩) hids_0.length hids_0.length, .slice (some ⟨g5_0, 0, none⟩) steps_0.length steps_0.length] 31))).heap.size ⟨st_1, it_1, ins_1, outs_1, hids_1, steps_1⟩ (.agg #[.int .i64 st_1, .int .i64 it_1, .slice (some ⟨g2_1, 0, none⟩) ins_1.length ins_1.length, .slice (some ⟨g3_1, 0, none⟩) outs_1.length outs_1.length, .slice (some ⟨g4_1, 0, none⟩) hids_1.length hids_1.length, .slice (some ⟨g5_1, 0, none⟩) steps_1.length steps_1.length])) ∧ (VarIs w14 w8.heap.size #[.int .i64 st_1, .int .i64 it_1, .slice (some ⟨g2_1, 0, none⟩) ins_1.length ins_1.length, .slice (some ⟨g3_1, 0, none⟩) outs_1.length outs_1.length, .slice (some ⟨g4_1, 0, none⟩) hids_1.length hids_1.length, .slice (some ⟨g5_1, 0, none⟩) steps_1.length steps_1.length] 31) ∧ (RowQ w14 (some ⟨w8.heap.size + 1, 0, none⟩) n_4 xs_4) := ⟨hHeld.1.trans (hb.mono hHeld.1.size), hHeld.2.1.below hb, hHeld.2.2.1.below hb, hHeld.2.2.2.1.below hb, hHeld.2.2.2.2.1.below hb, hHeld.2.2.2.2.2.1.below hb, hHeld.2.2.2.2.2.2.1.below hb, hHeld.2.2.2.2.2.2.2.below hb⟩
  clear hb kq
  refine hK.out _ _ hS (fun hHeld => ?_)
  clear hK K
  refine fast1 4 65 (.bool false) (.tmp 64) (.bool true) (fuel := 0) rfl rfl (by kernel_rfl) (by kernel_rfl) (by kernel_rfl) (fun _ _ _ h => h) (by kernel_rfl) (by kernel_rfl) (fun ρ hr0 _ w hSw => by simp [go_sem, hr0]) hHeld (tf 31 5) (by kernel_rfl) (fun K hK => ?_)
  go_big_move
  refine hK.out _ ?_
  clear hK K
  refine wpAnyH_done (by kernel_rfl) ?_ _
  have B11 : Hid (Below w.heap.size w w14) := hHeld.1
  have P0_11 : Hid (VarIs w14 (w.heap.size) #[.int .i64 st_0, .int .i64 it_0, .slice a2_0 n2_0 c2_0, .slice a3_0 n3_0 c3_0, .slice a4_0 n4_0 c4_0, .slice a5_0 n5_0 c5_0] 25) := hHeld.2.1
  have P1_11 : Hid (VarIs w14 (w.heap.size + 1) #[.int .i64 st_1, .int .i64 it_1, .slice a2_1 n2_1 c2_1, .slice a3_1 n3_1 c3_1, .slice a4_1 n4_1 c4_1, .slice a5_1 n5_1 c5_1] 25) := hHeld.2.2.1
  have Y0_11 : Hid (IaAt w14 w6.heap.size ⟨st_0, it_0, ins_0, outs_0, hids_0, steps_0⟩ (.agg #[.int .i64 st_0, .int .i64 it_0, .slice (some ⟨g2_0, 0, none⟩) ins_0.length ins_0.length, .slice (some ⟨g3_0, 0, none⟩) outs_0.length outs_0.length, .slice (some ⟨g4_0, 0, none⟩) hids_0.length hids_0.length, .slice (some ⟨g5_0, 0, none⟩) steps_0.length steps_0.length])) := hHeld.2.2.2.1
  have X0_11 : Hid (VarIs w14 w7.heap.size #[.int .i64 st_0, .int .i64 it_0, .slice (some ⟨g2_0, 0, none⟩) ins_0.length ins_0.length, .slice (some ⟨g3_0, 0, none⟩) outs_0.length outs_0.length, .slice (some ⟨g4_0, 0, none⟩) hids_0.length hids_0.length, .slice (some ⟨g5_0, 0, none⟩) steps_0.length steps_0.length] 31) := hHeld.2.2.2.2.1
  have Y1_11 : Hid (IaAt w14 ((w7.alloc (.cells #[.int .i64 st_0, .int .i64 it_0, .slice (some ⟨g2_0, 0, none⟩) ins_0.length ins_0.length, .slice (some ⟨g3_0, 0, none⟩) outs_0.length outs_0.length, .slice (some ⟨g4_0, 0, none⟩) hids_0.length hids_0.length, .slice (some ⟨g5_0, 0, none⟩) steps_0.length steps_0.length] 31))).heap.size ⟨st_1, it_1, ins_1, outs_1, hids_1, steps_1⟩ (.agg #[.int .i64 st_1, .int .i64 it_1, .slice (some ⟨g2_1, 0, none⟩) ins_1.length ins_1.length, .slice (some ⟨g3_1, 0, none⟩) outs_1.length outs_1.length, .slice (some ⟨g4_1, 0, none⟩) hids_1.length hids_1.length, .slice (some ⟨g5_1, 0, none⟩) steps_1.length steps_1.length])) := hHeld.2.2.2.2.2.1
  have X1_11 : Hid (VarIs w14 w8.heap.size #[.int .i64 st_1, .int .i64 it_1, .slice (some ⟨g2_1, 0, none⟩) ins_1.length ins_1.length, .slice (some ⟨g3_1, 0, none⟩) outs_1.length outs_1.length, .slice (some ⟨g4_1, 0, none⟩) hids_1.length hids_1.length, .slice (some ⟨g5_1, 0, none⟩) steps_1.length steps_1.length] 31) := hHeld.2.2.2.2.2.2.1
  have Y4_11 : Hid (RowQ w14 (some ⟨w8.heap.size + 1, 0, none⟩) n_4 xs_4) := hHeld.2.2.2.2.2.2.2
  clear hHeld SD B10 P0_10 P1_10 Y0_10 X0_10 Y1_10 X1_10 Y4_10
  go_wp2_with fail
  refine (toPairS_any a_4 n_4 c_4 xs_4 _ (HA_4.out _ B11.out) (by omega)).mono ?_
  rintro e w15 ⟨rfl, ho, hb⟩
  have hzzw15 := hb.size
  have B12 : Hid (Below w.heap.size w w15) := B11.out.trans (hb.mono B11.out.size)
  have P0_12 : Hid (VarIs w15 (w.heap.size) #[.int .i64 st_0, .int .i64 it_0, .slice a2_0 n2_0 c2_0, .slice a3_0 n3_0 c3_0, .slice a4_0 n4_0 c4_0, .slice a5_0 n5_0 c5_0] 25) := P0_11.out.below hb
  have P1_12 : Hid (VarIs w15 (w.heap.size + 1) #[.int .i64 st_1, .int .i64 it_1, .slice a2_1 n2_1 c2_1, .slice a3_1 n3_1 c3_1, .slice a4_1 n4_1 c4_1, .slice a5_1 n5_1 c5_1] 25) := P1_11.out.below hb
  have Y0_12 : Hid (IaAt w15 w6.heap.size ⟨st_0, it_0, ins_0, outs_0, hids_0, steps_0⟩ (.agg #[.int .i64 st_0, .int .i64 it_0, .slice (some ⟨g2_0, 0, none⟩) ins_0.length ins_0.length, .slice (some ⟨g3_0, 0, none⟩) outs_0.length outs_0.length, .slice (some ⟨g4_0, 0, none⟩) hids_0.length hids_0.length, .slice (some ⟨g5_0, 0, none⟩) steps_0.length steps_0.length])) := Y0_11.out.below hb
  have X0_12 : Hid (VarIs w15 w7.heap.size #[.int .i64 st_0, .int .i64 it_0, .slice (some ⟨g2_0, 0, none⟩) ins_0.length ins_0.length, .slice (some ⟨g3_0, 0, none⟩) outs_0.length outs_0.length, .slice (some ⟨g4_0, 0, none⟩) hids_0.length hids_0.length, .slice (some ⟨g5_0, 0, none⟩) steps_0.length steps_0.length] 31) := X0_11.out.below hb
  have Y1_12 : Hid (IaAt w15 ((w7.alloc (.cells #[.int .i64 st_0, .int .i64 it_0, .slice (some ⟨g2_0, 0, none⟩) ins_0.length ins_0.length, .slice (some ⟨g3_0, 0, none⟩) outs_0.length outs_0.length, .slice (some ⟨g4_0, 0, none⟩) hids_0.length hids_0.length, .slice (some ⟨g5_0, 0, none⟩) steps_0.length steps_0.length] 31))).heap.size ⟨st_1, it_1, ins_1, outs_1, hids_1, steps_1⟩ (.agg #[.int .i64 st_1, .int .i64 it_1, .slice (some ⟨g2_1, 0, none⟩) ins_1.length ins_1.length, .slice (some ⟨g3_1, 0, none⟩) outs_1.length outs_1.length, .slice (some ⟨g4_1, 0, none⟩) hids_1.length hids_1.length, .slice (some ⟨g5_1, 0, none⟩) steps_1.length steps_1.length])) := Y1_11.out.below hb
  have X1_12 : Hid (VarIs w15 w8.heap.size #[.int .i64 st_1, .int .i64 it_1, .slice (some ⟨g2_1, 0, none⟩) ins_1.length ins_1.length, .slice (some ⟨g3_1, 0, none⟩) outs_1.length outs_1.length, .slice (some ⟨g4_1, 0, none⟩) hids_1.length hids_1.length, .slice (some ⟨g5_1, 0, none⟩) steps_1.length steps_1.length] 31) := X1_11.out.below hb
  have Y4_12 : Hid (RowQ w15 (some ⟨w8.heap.size + 1, 0, none⟩) n_4 xs_4) := Y4_11.out.below hb
  clear B11 P0_11 P1_11 Y0_11 X0_11 Y1_11 X1_11 Y4_11
  clear hb
  go_wp2_with fail
  refine (eqPairS_any _ _ _ _ _ xs_4 _ Y4_12.out ho (by omega)).mono ?_
  rintro e w16 ⟨rfl, hb⟩
  have hzzw16 := hb.size
  have B13 : Hid (Below w.heap.size w w16) := B12.out.trans (hb.mono B12.out.size)
  have P0_13 : Hid (VarIs w16 (w.heap.size) #[.int .i64 st_0, .int .i64 it_0, .slice a2_0 n2_0 c2_0, .slice a3_0 n3_0 c3_0, .slice a4_0 n4_0 c4_0, .slice a5_0 n5_0 c5_0] 25) := P0_12.out.below hb
  have P1_13 : Hid (VarIs w16 (w.heap.size + 1) #[.int .i64 st_1, .int .i64 it_1, .slice a2_1 n2_1 c2_1, .slice a3_1 n3_1 c3_1, .slice a4_1 n4_1 c4_1, .slice a5_1 n5_1 c5_1] 25) := P1_12.out.below hb
  have Y0_13 : Hid (IaAt w16 w6.heap.size ⟨st_0, it_0, ins_0, outs_0, hids_0, steps_0⟩ (.agg #[.int .i64 st_0, .int .i64 it_0, .slice (some ⟨g2_0, 0, none⟩) ins_0.length ins_0.length, .slice (some ⟨g3_0, 0, none⟩) outs_0.length outs_0.length, .slice (some ⟨g4_0, 0, none⟩) hids_0.length hids_0.length, .slice (some ⟨g5_0, 0, none⟩) steps_0.length steps_0.length])) := Y0_12.out.below hb
  have X0_13 : Hid (VarIs w16 w7.heap.size #[.int .i64 st_0, .int .i64 it_0, .slice (some ⟨g2_0, 0, none⟩) ins_0.length ins_0.length, .slice (some ⟨g3_0, 0, none⟩) outs_0.length outs_0.length, .slice (some ⟨g4_0, 0, none⟩) hids_0.length hids_0.length, .slice (some ⟨g5_0, 0, none⟩) steps_0.length steps_0.length] 31) := X0_12.out.below hb
  have Y1_13 : Hid (IaAt w16 ((w7.alloc (.cells #[.int .i64 st_0, .int .i64 it_0, .slice (some ⟨g2_0, 0, none⟩) ins_0.length ins_0.length, .slice (some ⟨g3_0, 0, none⟩) outs_0.length outs_0.length, .slice (some ⟨g4_0, 0, none⟩) hids_0.length hids_0.length, .slice (some ⟨g5_0, 0, none⟩) steps_0.length steps_0.length] 31))).heap.size ⟨st_1, it_1, ins_1, outs_1, hids_1, steps_1⟩ (.agg #[.int .i64 st_1, .int .i64 it_1, .slice (some ⟨g2_1, 0, none⟩) ins_1.length ins_1.length, .slice (some ⟨g3_1, 0, none⟩) outs_1.length outs_1.length, .slice (some ⟨g4_1, 0, none⟩) hids_1.length hids_1.length, .slice (some ⟨g5_1, 0, none⟩) steps_1.length steps_1.length])) := Y1_12.out.below hb
  have X1_13 : Hid (VarIs w16 w8.heap.size #[.int .i64 st_1, .int .i64 it_1, .slice (some ⟨g2_1, 0, none⟩) ins_1.length ins_1.length, .slice (some ⟨g3_1, 0, none⟩) outs_1.length outs_1.length, .slice (some ⟨g4_1, 0, none⟩) hids_1.length hids_1.length, .slice (some ⟨g5_1, 0, none⟩) steps_1.length steps_1.length] 31) := X1_12.out.below hb
  have Y4_13 : Hid (RowQ w16 (some ⟨w8.heap.size + 1, 0, none⟩) n_4 xs_4) := Y4_12.out.below hb
  clear B12 P0_12 P1_12 Y0_12 X0_12 Y1_12 X1_12 Y4_12
  clear hb ho
  go_wp2_with fail
  go_ret
  exact ⟨rfl, B13.out⟩

end Go.Proofs.YtdbgjgeglgipiaaGreat
