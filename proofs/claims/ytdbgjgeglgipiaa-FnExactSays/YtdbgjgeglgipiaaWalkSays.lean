/-
  The walk of the law FnExactSays: it returns true at every argument and writes nothing that was there. Conditions: none.
-/
import Derived.Test.YtdbgjgeglgipiaaSays
import Derived.Test.YtdbgjgeglgipiaaIaOwn
import Derived.Test.YtdbgjgeglgipiaaFast
import Derived.Test.YtdbgjgeglgipiaaTwoLaw
namespace Go.Proofs.Ytdbgjgeglgipiaa
open Go.RowKit

set_option maxRecDepth 20000 in
set_option maxHeartbeats 6400000 in
theorem walk_FnExactSays (st_0 it_0 : Int) (a2_0 : Option Addr) (n2_0 c2_0 : Nat) (z2_0 : List Int) (a3_0 : Option Addr) (n3_0 c3_0 : Nat) (z3_0 : List Int) (a4_0 : Option Addr) (n4_0 c4_0 : Nat) (z4_0 : List Int) (a5_0 : Option Addr) (n5_0 c5_0 : Nat) (z5_0 : List St) (a_1 : Option Addr) (n_1 c_1 : Nat) (z_1 : List Int) (w : World) (i2_0 : IsRow .i64 w a2_0 n2_0 c2_0 z2_0) (i3_0 : IsRow .i64 w a3_0 n3_0 c3_0 z3_0) (i4_0 : IsRow .i64 w a4_0 n4_0 c4_0 z4_0) (i5_0 : IsRowS w a5_0 n5_0 c5_0 z5_0) (i_1 : IsRow .i64 w a_1 n_1 c_1 z_1) :
    Calls Try.prog 3 #[.agg #[.int .i64 st_0, .int .i64 it_0, .slice a2_0 n2_0 c2_0, .slice a3_0 n3_0 c3_0, .slice a4_0 n4_0 c4_0, .slice a5_0 n5_0 c5_0], .slice a_1 n_1 c_1] w fun e w' => e = .returned (.bool true) ∧ Below w.heap.size w w' := by
  obtain ⟨ins_0, hins_0⟩ : ∃ l, l = z2_0.take n2_0 := ⟨_, rfl⟩
  have r2_0 := i2_0.row
  rw [← hins_0] at r2_0
  have l2_0 := i2_0.len1
  have e2_0 := r2_0.1
  obtain ⟨outs_0, houts_0⟩ : ∃ l, l = z3_0.take n3_0 := ⟨_, rfl⟩
  have r3_0 := i3_0.row
  rw [← houts_0] at r3_0
  have l3_0 := i3_0.len1
  have e3_0 := r3_0.1
  obtain ⟨hids_0, hhids_0⟩ : ∃ l, l = z4_0.take n4_0 := ⟨_, rfl⟩
  have r4_0 := i4_0.row
  rw [← hhids_0] at r4_0
  have l4_0 := i4_0.len1
  have e4_0 := r4_0.1
  obtain ⟨steps_0, hsteps_0⟩ : ∃ l, l = z5_0.take n5_0 := ⟨_, rfl⟩
  have r5_0 := i5_0.row
  rw [← hsteps_0] at r5_0
  have l5_0 := i5_0.len1
  have e5_0 := r5_0.1
  have HA_0 : Hid (∀ W, Below w.heap.size w W → IaRow W ⟨st_0, it_0, ins_0, outs_0, hids_0, steps_0⟩ (.agg #[.int .i64 st_0, .int .i64 it_0, .slice a2_0 n2_0 c2_0, .slice a3_0 n3_0 c3_0, .slice a4_0 n4_0 c4_0, .slice a5_0 n5_0 c5_0])) := fun W hW => IaRow.below ⟨a2_0, n2_0, c2_0, a3_0, n3_0, c3_0, a4_0, n4_0, c4_0, a5_0, n5_0, c5_0, rfl, r2_0, r3_0, r4_0, r5_0⟩ hW
  have CZ_0 : Hid (∀ W (left : Int), 0 ≤ left → left ≤ 1048576 → Calls Try.prog 5 #[.agg #[.int .i64 st_0, .int .i64 it_0, .slice a2_0 n2_0 c2_0, .slice a3_0 n3_0 c3_0, .slice a4_0 n4_0 c4_0, .slice a5_0 n5_0 c5_0], .int .i64 left] W fun e w' => e = .returned (.int .i64 (roomOf left (n2_0 + n3_0 + n4_0 + n5_0))) ∧ Below W.heap.size W w') := fun W left h0 h1 => szIa_any st_0 it_0 a2_0 n2_0 c2_0 a3_0 n3_0 c3_0 a4_0 n4_0 c4_0 a5_0 n5_0 c5_0 left W h0 (by omega) l2_0 l3_0 l4_0 l5_0
  clear r2_0 i2_0 hins_0 l2_0 r3_0 i3_0 houts_0 l3_0 r4_0 i4_0 hhids_0 l4_0 r5_0 i5_0 hsteps_0 l5_0 z2_0 z3_0 z4_0 z5_0
  obtain ⟨xs_1, hxs_1⟩ : ∃ l, l = z_1.take n_1 := ⟨_, rfl⟩
  have r_1 := i_1.row
  rw [← hxs_1] at r_1
  have l_1 := i_1.len1
  have e_1 := r_1.1
  have HA_1 : Hid (∀ W, Below w.heap.size w W → Row W a_1 n_1 xs_1) := fun W hW => r_1.below hW
  unfold maxLen at l_1
  clear r_1 i_1 hxs_1 z_1
  have hz0 : (w.alloc (.cells #[.int .i64 st_0, .int .i64 it_0, .slice a2_0 n2_0 c2_0, .slice a3_0 n3_0 c3_0, .slice a4_0 n4_0 c4_0, .slice a5_0 n5_0 c5_0] 25)).heap.size = w.heap.size + 1 := by simp
  have B0 : Hid (Below w.heap.size w (w.alloc (.cells #[.int .i64 st_0, .int .i64 it_0, .slice a2_0 n2_0 c2_0, .slice a3_0 n3_0 c3_0, .slice a4_0 n4_0 c4_0, .slice a5_0 n5_0 c5_0] 25))) := (Below.refl _ _).alloc (by simp) _
  have P0_0 : Hid (VarIs (w.alloc (.cells #[.int .i64 st_0, .int .i64 it_0, .slice a2_0 n2_0 c2_0, .slice a3_0 n3_0 c3_0, .slice a4_0 n4_0 c4_0, .slice a5_0 n5_0 c5_0] 25)) (w.heap.size) #[.int .i64 st_0, .int .i64 it_0, .slice a2_0 n2_0 c2_0, .slice a3_0 n3_0 c3_0, .slice a4_0 n4_0 c4_0, .slice a5_0 n5_0 c5_0] 25) := VarIs.new w #[.int .i64 st_0, .int .i64 it_0, .slice a2_0 n2_0 c2_0, .slice a3_0 n3_0 c3_0, .slice a4_0 n4_0 c4_0, .slice a5_0 n5_0 c5_0] 25 rfl
  by_cases big_1 : 1048576 < n_1
  · have hd_1 : decide ((n_1 : Int) > 1048576) = true := by simp; omega
    go_enter Try.func3, Try.ntmps3
    go_wp2_with fail
    go_ret
    exact ⟨rfl, B0.out⟩
  have hd_1 : decide ((n_1 : Int) > 1048576) = false := by simp; omega
  have hleft : (0 : Int) ≤ 1048576 ∧ (1048576 : Int) ≤ 1048576 := by omega
  by_cases fits_0 : n2_0 + n3_0 + n4_0 + n5_0 ≤ 1048576
  case neg =>
    have hr_0 : roomOf (1048576 : Int) (n2_0 + n3_0 + n4_0 + n5_0) = -1 := roomOf_neg (by omega)
    have m0 := P0_0.out.cell (j := 0) (u := .int .i64 st_0) rfl
    have m1 := P0_0.out.cell (j := 1) (u := .int .i64 it_0) rfl
    have m2 := P0_0.out.cell (j := 2) (u := .slice a2_0 n2_0 c2_0) rfl
    have m3 := P0_0.out.cell (j := 3) (u := .slice a3_0 n3_0 c3_0) rfl
    have m4 := P0_0.out.cell (j := 4) (u := .slice a4_0 n4_0 c4_0) rfl
    have m5 := P0_0.out.cell (j := 5) (u := .slice a5_0 n5_0 c5_0) rfl
    go_enter Try.func3, Try.ntmps3
    go_wp2_with fail
    clear m0 m1 m2 m3 m4 m5
    have CZc := CZ_0.out (w.alloc (.cells #[.int .i64 st_0, .int .i64 it_0, .slice a2_0 n2_0 c2_0, .slice a3_0 n3_0 c3_0, .slice a4_0 n4_0 c4_0, .slice a5_0 n5_0 c5_0] 25)) (1048576 : Int) (by omega) (by omega)
    rw [hr_0] at CZc
    refine (CZc).mono ?_
    rintro e w1 ⟨rfl, hb⟩
    have hzzw1 := hb.size
    have B1 : Hid (Below w.heap.size w w1) := B0.out.trans (hb.mono B0.out.size)
    have P0_1 : Hid (VarIs w1 (w.heap.size) #[.int .i64 st_0, .int .i64 it_0, .slice a2_0 n2_0 c2_0, .slice a3_0 n3_0 c3_0, .slice a4_0 n4_0 c4_0, .slice a5_0 n5_0 c5_0] 25) := P0_0.out.below hb
    clear B0 P0_0
    clear hb CZc
    go_wp2_with fail
    go_ret
    exact ⟨rfl, B1.out⟩
  have hr_0 : roomOf (1048576 : Int) (n2_0 + n3_0 + n4_0 + n5_0) = (1048576 : Int) - ((n2_0 + n3_0 + n4_0 + n5_0 : Nat) : Int) := roomOf_pos (by omega)
  obtain ⟨rm_0, hrm_0⟩ : ∃ m : Nat, (m : Int) = (1048576 : Int) - ((n2_0 + n3_0 + n4_0 + n5_0 : Nat) : Int) := ⟨1048576 - (n2_0 + n3_0 + n4_0 + n5_0), by omega⟩
  rw [← hrm_0] at hr_0
  have hrx_0 : (0 : Int) ≤ (rm_0 : Int) ∧ (rm_0 : Int) ≤ 1048576 := by omega
  have m0 := P0_0.out.cell (j := 0) (u := .int .i64 st_0) rfl
  have m1 := P0_0.out.cell (j := 1) (u := .int .i64 it_0) rfl
  have m2 := P0_0.out.cell (j := 2) (u := .slice a2_0 n2_0 c2_0) rfl
  have m3 := P0_0.out.cell (j := 3) (u := .slice a3_0 n3_0 c3_0) rfl
  have m4 := P0_0.out.cell (j := 4) (u := .slice a4_0 n4_0 c4_0) rfl
  have m5 := P0_0.out.cell (j := 5) (u := .slice a5_0 n5_0 c5_0) rfl
  go_enter Try.func3, Try.ntmps3
  go_wp2_with fail
  clear m0 m1 m2 m3 m4 m5
  have CZc := CZ_0.out (w.alloc (.cells #[.int .i64 st_0, .int .i64 it_0, .slice a2_0 n2_0 c2_0, .slice a3_0 n3_0 c3_0, .slice a4_0 n4_0 c4_0, .slice a5_0 n5_0 c5_0] 25)) (1048576 : Int) (by omega) (by omega)
  rw [hr_0] at CZc
  refine (CZc).mono ?_
  rintro e w1 ⟨rfl, hb⟩
  have hzzw1 := hb.size
  have B1 : Hid (Below w.heap.size w w1) := B0.out.trans (hb.mono B0.out.size)
  have P0_1 : Hid (VarIs w1 (w.heap.size) #[.int .i64 st_0, .int .i64 it_0, .slice a2_0 n2_0 c2_0, .slice a3_0 n3_0 c3_0, .slice a4_0 n4_0 c4_0, .slice a5_0 n5_0 c5_0] 25) := P0_0.out.below hb
  clear B0 P0_0
  clear hb CZc
  have f2_0 : ins_0.length ≤ 1048576 := by omega
  have f3_0 : outs_0.length ≤ 1048576 := by omega
  have f4_0 : hids_0.length ≤ 1048576 := by omega
  have f5_0 : steps_0.length ≤ 1048576 := by omega
  clear hr_0 hrm_0 CZ_0
  have CT_0 : Hid (∀ W, Below w.heap.size w W → Calls Try.prog 7 #[.agg #[.int .i64 st_0, .int .i64 it_0, .slice a2_0 n2_0 c2_0, .slice a3_0 n3_0 c3_0, .slice a4_0 n4_0 c4_0, .slice a5_0 n5_0 c5_0]] W fun e w' => ∃ v', e = .returned v' ∧ IaAt w' W.heap.size ⟨st_0, it_0, ins_0, outs_0, hids_0, steps_0⟩ v' ∧ Below W.heap.size W w') := fun W hW => toIa_any ⟨st_0, it_0, ins_0, outs_0, hids_0, steps_0⟩ _ W (HA_0.out W hW) (IaFits.small f2_0 f3_0 f4_0 f5_0)
  have CQ_0 : Hid (∀ W u v, IaRow W ⟨st_0, it_0, ins_0, outs_0, hids_0, steps_0⟩ u → IaRow W ⟨st_0, it_0, ins_0, outs_0, hids_0, steps_0⟩ v → Calls Try.prog 10 #[u, v] W fun e w' => e = .returned (.bool true) ∧ Below W.heap.size W w') := fun W u v hu hv => (eqIa_any ⟨st_0, it_0, ins_0, outs_0, hids_0, steps_0⟩ ⟨st_0, it_0, ins_0, outs_0, hids_0, steps_0⟩ _ _ W hu hv (IaFits.small f2_0 f3_0 f4_0 f5_0) (IaFits.small f2_0 f3_0 f4_0 f5_0)).mono fun e w' ⟨he, hb⟩ => ⟨by rw [he, sameB_refl], hb⟩
  obtain ⟨q, hq⟩ : ∃ q, q = saysB ⟨st_0, it_0, ins_0, outs_0, hids_0, steps_0⟩ xs_1 := ⟨_, rfl⟩
  have CP : Hid (∀ W v_0 b_1 d_1, IaRow W ⟨st_0, it_0, ins_0, outs_0, hids_0, steps_0⟩ v_0 → Row W b_1 n_1 xs_1 → Calls Try.prog 6 #[v_0, .slice b_1 n_1 d_1] W fun e w' => e = .returned (.bool q) ∧ Below W.heap.size W w') := fun W v_0 b_1 d_1 hv_0 hv_1 => by
    rw [hq]
    exact specSays_any ⟨st_0, it_0, ins_0, outs_0, hids_0, steps_0⟩ v_0 b_1 n_1 d_1 xs_1 W hv_0 f2_0 f3_0 f4_0 f5_0 hv_1 (by omega)
  have CI : Hid (∀ W v_0 b_1 d_1, IaRow W ⟨st_0, it_0, ins_0, outs_0, hids_0, steps_0⟩ v_0 → Row W b_1 n_1 xs_1 → Calls Try.prog 9 #[v_0, .slice b_1 n_1 d_1] W fun e w' => e = .returned (.bool q) ∧ Below W.heap.size W w') := fun W v_0 b_1 d_1 hv_0 hv_1 => by
    rw [hq]
    exact implSays_any ⟨st_0, it_0, ins_0, outs_0, hids_0, steps_0⟩ v_0 b_1 n_1 d_1 xs_1 W hv_0 f2_0 f3_0 f4_0 f5_0 hv_1 (by omega)
  clear hq
  clear e2_0 e3_0 e4_0 e5_0 e_1
  have m0 := P0_1.out.cell (j := 0) (u := .int .i64 st_0) rfl
  have m1 := P0_1.out.cell (j := 1) (u := .int .i64 it_0) rfl
  have m2 := P0_1.out.cell (j := 2) (u := .slice a2_0 n2_0 c2_0) rfl
  have m3 := P0_1.out.cell (j := 3) (u := .slice a3_0 n3_0 c3_0) rfl
  have m4 := P0_1.out.cell (j := 4) (u := .slice a4_0 n4_0 c4_0) rfl
  have m5 := P0_1.out.cell (j := 5) (u := .slice a5_0 n5_0 c5_0) rfl
  go_wp2_with fail
  clear m0 m1 m2 m3 m4 m5
  refine (CT_0.out _ B1.out).mono ?_
  rintro e w2 ⟨u_0, rfl, hat, hb⟩
  have hzzw2 := hb.size
  have B2 : Hid (Below w.heap.size w w2) := B1.out.trans (hb.mono B1.out.size)
  have P0_2 : Hid (VarIs w2 (w.heap.size) #[.int .i64 st_0, .int .i64 it_0, .slice a2_0 n2_0 c2_0, .slice a3_0 n3_0 c3_0, .slice a4_0 n4_0 c4_0, .slice a5_0 n5_0 c5_0] 25) := P0_1.out.below hb
  clear B1 P0_1
  clear hb
  have T0_2 : Hid (IaRow w2 ⟨st_0, it_0, ins_0, outs_0, hids_0, steps_0⟩ u_0) := hat.row
  clear hat
  go_wp2_with fail
  refine (toIntS_any a_1 n_1 c_1 xs_1 _ (HA_1.out _ B2.out) (by omega)).mono ?_
  rintro e w3 ⟨rfl, ho, hb⟩
  have hzzw3 := hb.size
  have B3 : Hid (Below w.heap.size w w3) := B2.out.trans (hb.mono B2.out.size)
  have P0_3 : Hid (VarIs w3 (w.heap.size) #[.int .i64 st_0, .int .i64 it_0, .slice a2_0 n2_0 c2_0, .slice a3_0 n3_0 c3_0, .slice a4_0 n4_0 c4_0, .slice a5_0 n5_0 c5_0] 25) := P0_2.out.below hb
  have T0_3 : Hid (IaRow w3 ⟨st_0, it_0, ins_0, outs_0, hids_0, steps_0⟩ u_0) := T0_2.out.below hb
  clear B2 P0_2 T0_2
  clear hb
  have T1_3 : Hid (Row w3 (some ⟨w2.heap.size, 0, none⟩) n_1 xs_1) := ho.row.2.2.2
  clear ho
  go_wp2_with fail
  refine (CP.out _ _ _ _ T0_3.out T1_3.out).mono ?_
  rintro e w4 ⟨rfl, hb⟩
  have hzzw4 := hb.size
  have B4 : Hid (Below w.heap.size w w4) := B3.out.trans (hb.mono B3.out.size)
  have P0_4 : Hid (VarIs w4 (w.heap.size) #[.int .i64 st_0, .int .i64 it_0, .slice a2_0 n2_0 c2_0, .slice a3_0 n3_0 c3_0, .slice a4_0 n4_0 c4_0, .slice a5_0 n5_0 c5_0] 25) := P0_3.out.below hb
  clear B3 P0_3 T0_3 T1_3
  clear hb
  have m0 := P0_4.out.cell (j := 0) (u := .int .i64 st_0) rfl
  have m1 := P0_4.out.cell (j := 1) (u := .int .i64 it_0) rfl
  have m2 := P0_4.out.cell (j := 2) (u := .slice a2_0 n2_0 c2_0) rfl
  have m3 := P0_4.out.cell (j := 3) (u := .slice a3_0 n3_0 c3_0) rfl
  have m4 := P0_4.out.cell (j := 4) (u := .slice a4_0 n4_0 c4_0) rfl
  have m5 := P0_4.out.cell (j := 5) (u := .slice a5_0 n5_0 c5_0) rfl
  go_wp2_with fail
  clear m0 m1 m2 m3 m4 m5
  refine (CT_0.out _ B4.out).mono ?_
  rintro e w5 ⟨vx, rfl, hat, hb⟩
  have hzzw5 := hb.size
  have B5 : Hid (Below w.heap.size w w5) := B4.out.trans (hb.mono B4.out.size)
  have P0_5 : Hid (VarIs w5 (w.heap.size) #[.int .i64 st_0, .int .i64 it_0, .slice a2_0 n2_0 c2_0, .slice a3_0 n3_0 c3_0, .slice a4_0 n4_0 c4_0, .slice a5_0 n5_0 c5_0] 25) := P0_4.out.below hb
  clear B4 P0_4
  clear hb
  obtain ⟨g2_0, g3_0, g4_0, g5_0, rfl, gb_0, lt3_0, lt4_0, lt5_0, o2, o3, o4, o5⟩ := hat
  have hg_0 := (o5.lt g5_0 rfl).2

  have Y0_5 : Hid (IaAt w5 w4.heap.size ⟨st_0, it_0, ins_0, outs_0, hids_0, steps_0⟩ (.agg #[.int .i64 st_0, .int .i64 it_0, .slice (some ⟨g2_0, 0, none⟩) ins_0.length ins_0.length, .slice (some ⟨g3_0, 0, none⟩) outs_0.length outs_0.length, .slice (some ⟨g4_0, 0, none⟩) hids_0.length hids_0.length, .slice (some ⟨g5_0, 0, none⟩) steps_0.length steps_0.length])) := ⟨g2_0, g3_0, g4_0, g5_0, rfl, gb_0, lt3_0, lt4_0, lt5_0, o2, o3, o4, o5⟩
  clear o2 o3 o4 o5
  simp only
  have hb := (Below.refl w5.heap.size w5).alloc (Nat.le_refl _) (.cells #[.int .i64 st_0, .int .i64 it_0, .slice (some ⟨g2_0, 0, none⟩) ins_0.length ins_0.length, .slice (some ⟨g3_0, 0, none⟩) outs_0.length outs_0.length, .slice (some ⟨g4_0, 0, none⟩) hids_0.length hids_0.length, .slice (some ⟨g5_0, 0, none⟩) steps_0.length steps_0.length] 30)
  have hzb_0 : (w5.alloc (.cells #[.int .i64 st_0, .int .i64 it_0, .slice (some ⟨g2_0, 0, none⟩) ins_0.length ins_0.length, .slice (some ⟨g3_0, 0, none⟩) outs_0.length outs_0.length, .slice (some ⟨g4_0, 0, none⟩) hids_0.length hids_0.length, .slice (some ⟨g5_0, 0, none⟩) steps_0.length steps_0.length] 30)).heap.size = w5.heap.size + 1 := by simp
  have B6 : Hid (Below w.heap.size w (w5.alloc (.cells #[.int .i64 st_0, .int .i64 it_0, .slice (some ⟨g2_0, 0, none⟩) ins_0.length ins_0.length, .slice (some ⟨g3_0, 0, none⟩) outs_0.length outs_0.length, .slice (some ⟨g4_0, 0, none⟩) hids_0.length hids_0.length, .slice (some ⟨g5_0, 0, none⟩) steps_0.length steps_0.length] 30))) := B5.out.trans (hb.mono B5.out.size)
  have P0_6 : Hid (VarIs (w5.alloc (.cells #[.int .i64 st_0, .int .i64 it_0, .slice (some ⟨g2_0, 0, none⟩) ins_0.length ins_0.length, .slice (some ⟨g3_0, 0, none⟩) outs_0.length outs_0.length, .slice (some ⟨g4_0, 0, none⟩) hids_0.length hids_0.length, .slice (some ⟨g5_0, 0, none⟩) steps_0.length steps_0.length] 30)) (w.heap.size) #[.int .i64 st_0, .int .i64 it_0, .slice a2_0 n2_0 c2_0, .slice a3_0 n3_0 c3_0, .slice a4_0 n4_0 c4_0, .slice a5_0 n5_0 c5_0] 25) := P0_5.out.below hb
  have Y0_6 : Hid (IaAt (w5.alloc (.cells #[.int .i64 st_0, .int .i64 it_0, .slice (some ⟨g2_0, 0, none⟩) ins_0.length ins_0.length, .slice (some ⟨g3_0, 0, none⟩) outs_0.length outs_0.length, .slice (some ⟨g4_0, 0, none⟩) hids_0.length hids_0.length, .slice (some ⟨g5_0, 0, none⟩) steps_0.length steps_0.length] 30)) w4.heap.size ⟨st_0, it_0, ins_0, outs_0, hids_0, steps_0⟩ (.agg #[.int .i64 st_0, .int .i64 it_0, .slice (some ⟨g2_0, 0, none⟩) ins_0.length ins_0.length, .slice (some ⟨g3_0, 0, none⟩) outs_0.length outs_0.length, .slice (some ⟨g4_0, 0, none⟩) hids_0.length hids_0.length, .slice (some ⟨g5_0, 0, none⟩) steps_0.length steps_0.length])) := Y0_5.out.below hb
  clear B5 P0_5 Y0_5
  clear hb
  have X0_6 : Hid (VarIs (w5.alloc (.cells #[.int .i64 st_0, .int .i64 it_0, .slice (some ⟨g2_0, 0, none⟩) ins_0.length ins_0.length, .slice (some ⟨g3_0, 0, none⟩) outs_0.length outs_0.length, .slice (some ⟨g4_0, 0, none⟩) hids_0.length hids_0.length, .slice (some ⟨g5_0, 0, none⟩) steps_0.length steps_0.length] 30)) w5.heap.size #[.int .i64 st_0, .int .i64 it_0, .slice (some ⟨g2_0, 0, none⟩) ins_0.length ins_0.length, .slice (some ⟨g3_0, 0, none⟩) outs_0.length outs_0.length, .slice (some ⟨g4_0, 0, none⟩) hids_0.length hids_0.length, .slice (some ⟨g5_0, 0, none⟩) steps_0.length steps_0.length] 30) := VarIs.new w5 #[.int .i64 st_0, .int .i64 it_0, .slice (some ⟨g2_0, 0, none⟩) ins_0.length ins_0.length, .slice (some ⟨g3_0, 0, none⟩) outs_0.length outs_0.length, .slice (some ⟨g4_0, 0, none⟩) hids_0.length hids_0.length, .slice (some ⟨g5_0, 0, none⟩) steps_0.length steps_0.length] 30 rfl
  go_wp2_with fail
  have CF : Hid (Calls Try.prog 8 #[.slice a_1 n_1 c_1] (w5.alloc (.cells #[.int .i64 st_0, .int .i64 it_0, .slice (some ⟨g2_0, 0, none⟩) ins_0.length ins_0.length, .slice (some ⟨g3_0, 0, none⟩) outs_0.length outs_0.length, .slice (some ⟨g4_0, 0, none⟩) hids_0.length hids_0.length, .slice (some ⟨g5_0, 0, none⟩) steps_0.length steps_0.length] 30)) fun e w' => e = .returned (.slice (some ⟨w5.heap.size + 1, 0, none⟩) n_1 n_1) ∧ Owns w' (w5.heap.size + 1) (.slice (some ⟨w5.heap.size + 1, 0, none⟩) n_1 n_1) n_1 xs_1 ∧ Below (w5.alloc (.cells #[.int .i64 st_0, .int .i64 it_0, .slice (some ⟨g2_0, 0, none⟩) ins_0.length ins_0.length, .slice (some ⟨g3_0, 0, none⟩) outs_0.length outs_0.length, .slice (some ⟨g4_0, 0, none⟩) hids_0.length hids_0.length, .slice (some ⟨g5_0, 0, none⟩) steps_0.length steps_0.length] 30)).heap.size (w5.alloc (.cells #[.int .i64 st_0, .int .i64 it_0, .slice (some ⟨g2_0, 0, none⟩) ins_0.length ins_0.length, .slice (some ⟨g3_0, 0, none⟩) outs_0.length outs_0.length, .slice (some ⟨g4_0, 0, none⟩) hids_0.length hids_0.length, .slice (some ⟨g5_0, 0, none⟩) steps_0.length steps_0.length] 30)) w') := by
    have h0 := toIntS_any a_1 n_1 c_1 xs_1 (w5.alloc (.cells #[.int .i64 st_0, .int .i64 it_0, .slice (some ⟨g2_0, 0, none⟩) ins_0.length ins_0.length, .slice (some ⟨g3_0, 0, none⟩) outs_0.length outs_0.length, .slice (some ⟨g4_0, 0, none⟩) hids_0.length hids_0.length, .slice (some ⟨g5_0, 0, none⟩) steps_0.length steps_0.length] 30)) (HA_1.out _ B6.out) (by omega)
    have hz0 : (w5.alloc (.cells #[.int .i64 st_0, .int .i64 it_0, .slice (some ⟨g2_0, 0, none⟩) ins_0.length ins_0.length, .slice (some ⟨g3_0, 0, none⟩) outs_0.length outs_0.length, .slice (some ⟨g4_0, 0, none⟩) hids_0.length hids_0.length, .slice (some ⟨g5_0, 0, none⟩) steps_0.length steps_0.length] 30)).heap.size = w5.heap.size + 1 := by simp
    unfold Hid
    rw [hz0] at h0 ⊢
    exact h0
  refine (CF.out).mono ?_
  rintro e w6 ⟨rfl, ho, hb⟩
  have hzzw6 := hb.size
  have B7 : Hid (Below w.heap.size w w6) := B6.out.trans (hb.mono B6.out.size)
  have P0_7 : Hid (VarIs w6 (w.heap.size) #[.int .i64 st_0, .int .i64 it_0, .slice a2_0 n2_0 c2_0, .slice a3_0 n3_0 c3_0, .slice a4_0 n4_0 c4_0, .slice a5_0 n5_0 c5_0] 25) := P0_6.out.below hb
  have Y0_7 : Hid (IaAt w6 w4.heap.size ⟨st_0, it_0, ins_0, outs_0, hids_0, steps_0⟩ (.agg #[.int .i64 st_0, .int .i64 it_0, .slice (some ⟨g2_0, 0, none⟩) ins_0.length ins_0.length, .slice (some ⟨g3_0, 0, none⟩) outs_0.length outs_0.length, .slice (some ⟨g4_0, 0, none⟩) hids_0.length hids_0.length, .slice (some ⟨g5_0, 0, none⟩) steps_0.length steps_0.length])) := Y0_6.out.below hb
  have X0_7 : Hid (VarIs w6 w5.heap.size #[.int .i64 st_0, .int .i64 it_0, .slice (some ⟨g2_0, 0, none⟩) ins_0.length ins_0.length, .slice (some ⟨g3_0, 0, none⟩) outs_0.length outs_0.length, .slice (some ⟨g4_0, 0, none⟩) hids_0.length hids_0.length, .slice (some ⟨g5_0, 0, none⟩) steps_0.length steps_0.length] 30) := X0_6.out.below hb
  clear B6 P0_6 Y0_6 X0_6
  clear hb CF
  have hy_1 := (ho.lt _ rfl).2
  have Y1_7 : Hid (Owns w6 (w5.heap.size + 1) (.slice (some ⟨w5.heap.size + 1, 0, none⟩) n_1 n_1) n_1 xs_1) := ho
  clear ho
  have x0c0 := X0_7.out.cell (j := 0) (u := .int .i64 st_0) rfl
  have x0c1 := X0_7.out.cell (j := 1) (u := .int .i64 it_0) rfl
  have x0c2 := X0_7.out.cell (j := 2) (u := .slice (some ⟨g2_0, 0, none⟩) ins_0.length ins_0.length) rfl
  have x0c3 := X0_7.out.cell (j := 3) (u := .slice (some ⟨g3_0, 0, none⟩) outs_0.length outs_0.length) rfl
  have x0c4 := X0_7.out.cell (j := 4) (u := .slice (some ⟨g4_0, 0, none⟩) hids_0.length hids_0.length) rfl
  have x0c5 := X0_7.out.cell (j := 5) (u := .slice (some ⟨g5_0, 0, none⟩) steps_0.length steps_0.length) rfl
  go_wp2_with fail
  clear  x0c0 x0c1 x0c2 x0c3 x0c4 x0c5
  refine (CI.out _ _ _ _ Y0_7.out.row Y1_7.out.row.2.2.2).mono ?_
  rintro e w7 ⟨rfl, hb⟩
  have hzzw7 := hb.size
  have B8 : Hid (Below w.heap.size w w7) := B7.out.trans (hb.mono B7.out.size)
  have P0_8 : Hid (VarIs w7 (w.heap.size) #[.int .i64 st_0, .int .i64 it_0, .slice a2_0 n2_0 c2_0, .slice a3_0 n3_0 c3_0, .slice a4_0 n4_0 c4_0, .slice a5_0 n5_0 c5_0] 25) := P0_7.out.below hb
  have Y0_8 : Hid (IaAt w7 w4.heap.size ⟨st_0, it_0, ins_0, outs_0, hids_0, steps_0⟩ (.agg #[.int .i64 st_0, .int .i64 it_0, .slice (some ⟨g2_0, 0, none⟩) ins_0.length ins_0.length, .slice (some ⟨g3_0, 0, none⟩) outs_0.length outs_0.length, .slice (some ⟨g4_0, 0, none⟩) hids_0.length hids_0.length, .slice (some ⟨g5_0, 0, none⟩) steps_0.length steps_0.length])) := Y0_7.out.below hb
  have X0_8 : Hid (VarIs w7 w5.heap.size #[.int .i64 st_0, .int .i64 it_0, .slice (some ⟨g2_0, 0, none⟩) ins_0.length ins_0.length, .slice (some ⟨g3_0, 0, none⟩) outs_0.length outs_0.length, .slice (some ⟨g4_0, 0, none⟩) hids_0.length hids_0.length, .slice (some ⟨g5_0, 0, none⟩) steps_0.length steps_0.length] 30) := X0_7.out.below hb
  have Y1_8 : Hid (Owns w7 (w5.heap.size + 1) (.slice (some ⟨w5.heap.size + 1, 0, none⟩) n_1 n_1) n_1 xs_1) := Y1_7.out.below hb
  clear B7 P0_7 Y0_7 X0_7 Y1_7
  clear hb
  have hqn : (q != q) = false := by cases q <;> rfl
  go_wp2_with fail
  have SD : (Below w.heap.size w w7.drew) ∧ (VarIs w7.drew (w.heap.size) #[.int .i64 st_0, .int .i64 it_0, .slice a2_0 n2_0 c2_0, .slice a3_0 n3_0 c3_0, .slice a4_0 n4_0 c4_0, .slice a5_0 n5_0 c5_0] 25) ∧ (IaAt w7.drew w4.heap.size ⟨st_0, it_0, ins_0, outs_0, hids_0, steps_0⟩ (.agg #[.int .i64 st_0, .int .i64 it_0, .slice (some ⟨g2_0, 0, none⟩) ins_0.length ins_0.length, .slice (some ⟨g3_0, 0, none⟩) outs_0.length outs_0.length, .slice (some ⟨g4_0, 0, none⟩) hids_0.length hids_0.length, .slice (some ⟨g5_0, 0, none⟩) steps_0.length steps_0.length])) ∧ (VarIs w7.drew w5.heap.size #[.int .i64 st_0, .int .i64 it_0, .slice (some ⟨g2_0, 0, none⟩) ins_0.length ins_0.length, .slice (some ⟨g3_0, 0, none⟩) outs_0.length outs_0.length, .slice (some ⟨g4_0, 0, none⟩) hids_0.length hids_0.length, .slice (some ⟨g5_0, 0, none⟩) steps_0.length steps_0.length] 30) ∧ (Owns w7.drew (w5.heap.size + 1) (.slice (some ⟨w5.heap.size + 1, 0, none⟩) n_1 n_1) n_1 xs_1) := ⟨B8.out.drew, P0_8.out.drew, Y0_8.out.drew, X0_8.out.drew, Y1_8.out.drew⟩
  refine wp_region_tf (S := fun w' => (Below w.heap.size w w') ∧ (VarIs w' (w.heap.size) #[.int .i64 st_0, .int .i64 it_0, .slice a2_0 n2_0 c2_0, .slice a3_0 n3_0 c3_0, .slice a4_0 n4_0 c4_0, .slice a5_0 n5_0 c5_0] 25) ∧ (IaAt w' w4.heap.size ⟨st_0, it_0, ins_0, outs_0, hids_0, steps_0⟩ (.agg #[.int .i64 st_0, .int .i64 it_0, .slice (some ⟨g2_0, 0, none⟩) ins_0.length ins_0.length, .slice (some ⟨g3_0, 0, none⟩) outs_0.length outs_0.length, .slice (some ⟨g4_0, 0, none⟩) hids_0.length hids_0.length, .slice (some ⟨g5_0, 0, none⟩) steps_0.length steps_0.length])) ∧ (VarIs w' w5.heap.size #[.int .i64 st_0, .int .i64 it_0, .slice (some ⟨g2_0, 0, none⟩) ins_0.length ins_0.length, .slice (some ⟨g3_0, 0, none⟩) outs_0.length outs_0.length, .slice (some ⟨g4_0, 0, none⟩) hids_0.length hids_0.length, .slice (some ⟨g5_0, 0, none⟩) steps_0.length steps_0.length] 30) ∧ (Owns w' (w5.heap.size + 1) (.slice (some ⟨w5.heap.size + 1, 0, none⟩) n_1 n_1) n_1 xs_1)) 5 (by kernel_rfl) (by kernel_rfl) (by kernel_rfl) SD (fun hHeld => ?_)
  refine fast_yields 0 33 (.agg #[.int .i64 st_0, .int .i64 it_0, .slice (some ⟨g2_0, 0, none⟩) ins_0.length ins_0.length, .slice (some ⟨g3_0, 0, none⟩) outs_0.length outs_0.length, .slice (some ⟨g4_0, 0, none⟩) hids_0.length hids_0.length, .slice (some ⟨g5_0, 0, none⟩) steps_0.length steps_0.length]) (fuel := 4) rfl rfl (by kernel_rfl) (by kernel_rfl) (by kernel_rfl) (fun _ _ _ h => h) (yieldsIf_load_mid (by rfl) _ _ rfl (w5.heap.size) 0 rfl #[.int .i64 st_0, .int .i64 it_0, .slice (some ⟨g2_0, 0, none⟩) ins_0.length ins_0.length, .slice (some ⟨g3_0, 0, none⟩) outs_0.length outs_0.length, .slice (some ⟨g4_0, 0, none⟩) hids_0.length hids_0.length, .slice (some ⟨g5_0, 0, none⟩) steps_0.length steps_0.length].toList _ (fun w hw => hw.2.2.2.1.range) Try.underlying30 rfl (by kernel_rfl)) hHeld (tf 1 5) (by kernel_rfl) (fun K hK => ?_)
  go_big_move
  refine hK.out _ ?_
  clear hK K
  refine fast_yields 1 34 (.agg #[.int .i64 st_0, .int .i64 it_0, .slice a2_0 n2_0 c2_0, .slice a3_0 n3_0 c3_0, .slice a4_0 n4_0 c4_0, .slice a5_0 n5_0 c5_0]) (fuel := 3) rfl rfl (by kernel_rfl) (by kernel_rfl) (by kernel_rfl) (fun _ _ _ h => h) (yieldsIf_load_mid (by rfl) _ _ rfl (w.heap.size) 0 rfl #[.int .i64 st_0, .int .i64 it_0, .slice a2_0 n2_0 c2_0, .slice a3_0 n3_0 c3_0, .slice a4_0 n4_0 c4_0, .slice a5_0 n5_0 c5_0].toList _ (fun w hw => hw.2.1.range) Try.underlying25 rfl (by kernel_rfl)) hHeld (tf 3 5) (by kernel_rfl) (fun K hK => ?_)
  go_big_move
  refine hK.out _ ?_
  clear hK K
  refine wpAnyH_ready (rs := [2]) (fuel := 2) (by kernel_rfl) (by simp) ?_
  refine ready_want rfl (by kernel_rfl) (tf 7 5) (by kernel_rfl) (fun K hK => ?_) AllReadyH.nil
  simp only [List.getElem_toArray, List.getElem_cons_succ, List.getElem_cons_zero]
  go_big_op
  refine (CT_0.out _ hHeld.1).mono ?_
  rintro e w8 ⟨vq, rfl, hat, hb⟩
  have hzzw8 : w7.heap.size ≤ w8.heap.size := hb.size
  have kq := hat.row
  have hS : (Below w.heap.size w w8) ∧ (VarIs w8 (w.heap.size) #[.int .i64 st_0, .int .i64 it_0, .slice a2_0 n2_0 c2_0, .slice a3_0 n3_0 c3_0, .slice a4_0 n4_0 c4_0, .slice a5_0 n5_0 c5_0] 25) ∧ (IaAt w8 w4.heap.size ⟨st_0, it_0, ins_0, outs_0, hids_0, steps_0⟩ (.agg #[.int .i64 st_0, .int .i64 it_0, .slice (some ⟨g2_0, 0, none⟩) ins_0.length ins_0.length, .slice (some ⟨g3_0, 0, none⟩) outs_0.length outs_0.length, .slice (some ⟨g4_0, 0, none⟩) hids_0.length hids_0.length, .slice (some ⟨g5_0, 0, none⟩) steps_0.length steps_0.length])) ∧ (VarIs w8 w5.heap.size #[.int .i64 st_0, .int .i64 it_0, .slice (some ⟨g2_0, 0, none⟩) ins_0.length ins_0.length, .slice (some ⟨g3_0, 0, none⟩) outs_0.length outs_0.length, .slice (some ⟨g4_0, 0, none⟩) hids_0.length hids_0.length, .slice (some ⟨g5_0, 0, none⟩) steps_0.length steps_0.length] 30) ∧ (Owns w8 (w5.heap.size + 1) (.slice (some ⟨w5.heap.size + 1, 0, none⟩) n_1 n_1) n_1 xs_1) := ⟨hHeld.1.trans (hb.mono hHeld.1.size), hHeld.2.1.below hb, hHeld.2.2.1.below hb, hHeld.2.2.2.1.below hb, hHeld.2.2.2.2.below hb⟩
  clear hat hb
  refine hK.out _ _ hS (fun hHeld => ?_)
  clear hK K
  refine wpAnyH_ready (rs := [3]) (fuel := 1) (by kernel_rfl) (by simp) ?_
  refine ready_want rfl (by kernel_rfl) (tf 15 5) (by kernel_rfl) (fun K hK => ?_) AllReadyH.nil
  simp only [List.getElem_toArray, List.getElem_cons_succ, List.getElem_cons_zero]
  go_big_op
  refine (CQ_0.out _ _ _ hHeld.2.2.1.row kq).mono ?_
  rintro e w9 ⟨rfl, hb⟩
  have hzzw9 : w8.heap.size ≤ w9.heap.size := hb.size
  have hS : (Below w.heap.size w w9) ∧ (VarIs w9 (w.heap.size) #[.int .i64 st_0, .int .i64 it_0, .slice a2_0 n2_0 c2_0, .slice a3_0 n3_0 c3_0, .slice a4_0 n4_0 c4_0, .slice a5_0 n5_0 c5_0] 25) ∧ (IaAt w9 w4.heap.size ⟨st_0, it_0, ins_0, outs_0, hids_0, steps_0⟩ (.agg #[.int .i64 st_0, .int .i64 it_0, .slice (some ⟨g2_0, 0, none⟩) ins_0.length ins_0.length, .slice (some ⟨g3_0, 0, none⟩) outs_0.length outs_0.length, .slice (some ⟨g4_0, 0, none⟩) hids_0.length hids_0.length, .slice (some ⟨g5_0, 0, none⟩) steps_0.length steps_0.length])) ∧ (VarIs w9 w5.heap.size #[.int .i64 st_0, .int .i64 it_0, .slice (some ⟨g2_0, 0, none⟩) ins_0.length ins_0.length, .slice (some ⟨g3_0, 0, none⟩) outs_0.length outs_0.length, .slice (some ⟨g4_0, 0, none⟩) hids_0.length hids_0.length, .slice (some ⟨g5_0, 0, none⟩) steps_0.length steps_0.length] 30) ∧ (Owns w9 (w5.heap.size + 1) (.slice (some ⟨w5.heap.size + 1, 0, none⟩) n_1 n_1) n_1 xs_1) := ⟨hHeld.1.trans (hb.mono hHeld.1.size), hHeld.2.1.below hb, hHeld.2.2.1.below hb, hHeld.2.2.2.1.below hb, hHeld.2.2.2.2.below hb⟩
  clear hb kq
  refine hK.out _ _ hS (fun hHeld => ?_)
  clear hK K
  refine fast1 4 37 (.bool false) (.tmp 36) (.bool true) (fuel := 0) rfl rfl (by kernel_rfl) (by kernel_rfl) (by kernel_rfl) (fun _ _ _ h => h) (by kernel_rfl) (by kernel_rfl) (fun ρ hr0 _ w hSw => by simp [go_sem, hr0]) hHeld (tf 31 5) (by kernel_rfl) (fun K hK => ?_)
  go_big_move
  refine hK.out _ ?_
  clear hK K
  refine wpAnyH_done (by kernel_rfl) ?_ _
  have B9 : Hid (Below w.heap.size w w9) := hHeld.1
  have P0_9 : Hid (VarIs w9 (w.heap.size) #[.int .i64 st_0, .int .i64 it_0, .slice a2_0 n2_0 c2_0, .slice a3_0 n3_0 c3_0, .slice a4_0 n4_0 c4_0, .slice a5_0 n5_0 c5_0] 25) := hHeld.2.1
  have Y0_9 : Hid (IaAt w9 w4.heap.size ⟨st_0, it_0, ins_0, outs_0, hids_0, steps_0⟩ (.agg #[.int .i64 st_0, .int .i64 it_0, .slice (some ⟨g2_0, 0, none⟩) ins_0.length ins_0.length, .slice (some ⟨g3_0, 0, none⟩) outs_0.length outs_0.length, .slice (some ⟨g4_0, 0, none⟩) hids_0.length hids_0.length, .slice (some ⟨g5_0, 0, none⟩) steps_0.length steps_0.length])) := hHeld.2.2.1
  have X0_9 : Hid (VarIs w9 w5.heap.size #[.int .i64 st_0, .int .i64 it_0, .slice (some ⟨g2_0, 0, none⟩) ins_0.length ins_0.length, .slice (some ⟨g3_0, 0, none⟩) outs_0.length outs_0.length, .slice (some ⟨g4_0, 0, none⟩) hids_0.length hids_0.length, .slice (some ⟨g5_0, 0, none⟩) steps_0.length steps_0.length] 30) := hHeld.2.2.2.1
  have Y1_9 : Hid (Owns w9 (w5.heap.size + 1) (.slice (some ⟨w5.heap.size + 1, 0, none⟩) n_1 n_1) n_1 xs_1) := hHeld.2.2.2.2
  clear hHeld SD B8 P0_8 Y0_8 X0_8 Y1_8
  go_wp2_with fail
  refine (toIntS_any a_1 n_1 c_1 xs_1 _ (HA_1.out _ B9.out) (by omega)).mono ?_
  rintro e w10 ⟨rfl, ho, hb⟩
  have hzzw10 := hb.size
  have B10 : Hid (Below w.heap.size w w10) := B9.out.trans (hb.mono B9.out.size)
  have P0_10 : Hid (VarIs w10 (w.heap.size) #[.int .i64 st_0, .int .i64 it_0, .slice a2_0 n2_0 c2_0, .slice a3_0 n3_0 c3_0, .slice a4_0 n4_0 c4_0, .slice a5_0 n5_0 c5_0] 25) := P0_9.out.below hb
  have Y0_10 : Hid (IaAt w10 w4.heap.size ⟨st_0, it_0, ins_0, outs_0, hids_0, steps_0⟩ (.agg #[.int .i64 st_0, .int .i64 it_0, .slice (some ⟨g2_0, 0, none⟩) ins_0.length ins_0.length, .slice (some ⟨g3_0, 0, none⟩) outs_0.length outs_0.length, .slice (some ⟨g4_0, 0, none⟩) hids_0.length hids_0.length, .slice (some ⟨g5_0, 0, none⟩) steps_0.length steps_0.length])) := Y0_9.out.below hb
  have X0_10 : Hid (VarIs w10 w5.heap.size #[.int .i64 st_0, .int .i64 it_0, .slice (some ⟨g2_0, 0, none⟩) ins_0.length ins_0.length, .slice (some ⟨g3_0, 0, none⟩) outs_0.length outs_0.length, .slice (some ⟨g4_0, 0, none⟩) hids_0.length hids_0.length, .slice (some ⟨g5_0, 0, none⟩) steps_0.length steps_0.length] 30) := X0_9.out.below hb
  have Y1_10 : Hid (Owns w10 (w5.heap.size + 1) (.slice (some ⟨w5.heap.size + 1, 0, none⟩) n_1 n_1) n_1 xs_1) := Y1_9.out.below hb
  clear B9 P0_9 Y0_9 X0_9 Y1_9
  clear hb
  go_wp2_with fail
  refine (eqIntS_any _ _ _ _ _ _ xs_1 xs_1 _ Y1_10.out.row.2.2.2 ho.row.2.2.2 (by omega) (by omega)).mono ?_
  rintro e w11 ⟨rfl, hb⟩
  have hzzw11 := hb.size
  have B11 : Hid (Below w.heap.size w w11) := B10.out.trans (hb.mono B10.out.size)
  have P0_11 : Hid (VarIs w11 (w.heap.size) #[.int .i64 st_0, .int .i64 it_0, .slice a2_0 n2_0 c2_0, .slice a3_0 n3_0 c3_0, .slice a4_0 n4_0 c4_0, .slice a5_0 n5_0 c5_0] 25) := P0_10.out.below hb
  have Y0_11 : Hid (IaAt w11 w4.heap.size ⟨st_0, it_0, ins_0, outs_0, hids_0, steps_0⟩ (.agg #[.int .i64 st_0, .int .i64 it_0, .slice (some ⟨g2_0, 0, none⟩) ins_0.length ins_0.length, .slice (some ⟨g3_0, 0, none⟩) outs_0.length outs_0.length, .slice (some ⟨g4_0, 0, none⟩) hids_0.length hids_0.length, .slice (some ⟨g5_0, 0, none⟩) steps_0.length steps_0.length])) := Y0_10.out.below hb
  have X0_11 : Hid (VarIs w11 w5.heap.size #[.int .i64 st_0, .int .i64 it_0, .slice (some ⟨g2_0, 0, none⟩) ins_0.length ins_0.length, .slice (some ⟨g3_0, 0, none⟩) outs_0.length outs_0.length, .slice (some ⟨g4_0, 0, none⟩) hids_0.length hids_0.length, .slice (some ⟨g5_0, 0, none⟩) steps_0.length steps_0.length] 30) := X0_10.out.below hb
  have Y1_11 : Hid (Owns w11 (w5.heap.size + 1) (.slice (some ⟨w5.heap.size + 1, 0, none⟩) n_1 n_1) n_1 xs_1) := Y1_10.out.below hb
  clear B10 P0_10 Y0_10 X0_10 Y1_10
  clear hb ho
  go_wp2_with fail
  go_ret
  exact ⟨rfl, B11.out⟩

end Go.Proofs.Ytdbgjgeglgipiaa
