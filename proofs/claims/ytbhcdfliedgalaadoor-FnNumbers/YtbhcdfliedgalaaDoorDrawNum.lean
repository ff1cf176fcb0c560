/-
  Contracts of the model's draws of a number and of a text (DrawNumText, DrawNumRead). Conditions: the code is a slice of at most 2^20 bytes.
-/
import Derived.Test.YtbhcdfliedgalaaDoorNumRead
namespace Go.Proofs.YtbhcdfliedgalaaDoor
open Go.RowKit

theorem inI64_wrap (x : Int) : InI64 (wrap64 x) := by unfold InI64 wrap64; omega

/-- A number that an int holds comes back. -/
def NumRes (w : World) (e : Ending) (w' : World) : Prop := ∃ n, e = .returned (.int .i64 n) ∧ InI64 n ∧ Below w.heap.size w w'

set_option maxHeartbeats 800000 in
theorem drawNumText_any (a : Option Addr) (n c : Nat) (w : World) (hn : n ≤ 1048576) (hcode : Code w w.heap.size a n) :
    Calls Tryd.prog 7 #[.slice a n c] w (NumRes w) := by
  have HC := Lib.hid hcode
  clear hcode
  go_enter Tryd.func7, Tryd.ntmps7
  go_wp2_with fail
  refine (open_any a n c _ hn HC.out).mono ?_
  rintro e w1 ⟨rfl, hcur, hb1⟩
  have H1 := Lib.hid hcur
  clear hcur
  go_wp2_with fail
  refine (raw_any _ 0 _ H1.out (by omega)).mono ?_
  rintro e w2 ⟨r, rfl, hr, hcur2, hg2⟩
  have HR := Lib.hid hr
  have H2 := Lib.hid hcur2
  have hb2 := below_of_grown hb1 hg2
  clear hcur2 hg2 hr
  go_wp2_with fail
  refine (pick_any _ (0 + 2) 900 _ H2.out (by omega) (by omega) (by omega)).mono ?_
  rintro e w3 ⟨p, rfl, hp0, hp1, _, hg3⟩
  have hb3 := below_of_grown hb2 hg3
  clear hg3
  go_wp2_with fail
  go_ret
  exact ⟨_, rfl, inI64_wrap _, hb3⟩

theorem itoa_len {n : Int} (h : InI64 n) : (Lib.itoa n).length ≤ 21 := by
  unfold InI64 at h
  have hd : ∀ u : Nat, u ≤ 9223372036854775808 → (Lib.decDigits u).length ≤ 20 := fun u hu => digits_le 20 u (by omega) (by omega)
  unfold Lib.itoa
  split
  · have := hd n.natAbs (by omega)
    simp; omega
  · have := hd n.toNat (by omega)
    omega

/-- A short text comes back. -/
def TextRes (w : World) (e : Ending) (w' : World) : Prop := ∃ s : ByteArray, e = .returned (.string s) ∧ s.size ≤ 64 ∧ Below w.heap.size w w'

theorem four_at {w1 w2 : World} {P j : Nat} {x y : Int} (hx : InI64 x) (hy : InI64 y) (hg : (w1.alloc (.cells #[.int .i64 x, .int .i64 y, .int .i64 999999, .int .i64 1000000] 3)).grownBy w2 (some P)) (hP : P < w1.heap.size) (hj : j < 4) : ∃ u, InI64 u ∧ w2.cell? ⟨w1.heap.size, j, none⟩ = some (.int .i64 u) := by
  have h1 : ∃ u, InI64 u ∧ (#[Value.int .i64 x, .int .i64 y, .int .i64 999999, .int .i64 1000000] : Array Value)[j]? = some (.int .i64 u) := by
    match j, hj with
    | 0, _ => exact ⟨x, hx, rfl⟩
    | 1, _ => exact ⟨y, hy, rfl⟩
    | 2, _ => exact ⟨999999, ⟨by decide, by decide⟩, rfl⟩
    | 3, _ => exact ⟨1000000, ⟨by decide, by decide⟩, rfl⟩
  obtain ⟨u, hu, he⟩ := h1
  refine ⟨u, hu, hg.cell (a := ⟨w1.heap.size, j, none⟩) ?_ (by simp; omega)⟩
  rw [cell_of_row _ w1.heap.size j _ 3 (0, 0) (heap_alloc_new w1 _)]
  exact he

theorem three_at {w1 w2 : World} {P j : Nat} {a b c : ByteArray} (ha : a.size = 1) (hb : b.size = 1) (hc : c.size = 1) (hg : (w1.alloc (.cells #[.string a, .string b, .string c] 9)).grownBy w2 (some P)) (hP : P < w1.heap.size) (hj : j < 3) : ∃ t : ByteArray, t.size = 1 ∧ w2.cell? ⟨w1.heap.size, j, none⟩ = some (.string t) := by
  have h1 : ∃ t : ByteArray, t.size = 1 ∧ (#[Value.string a, .string b, .string c] : Array Value)[j]? = some (.string t) := by
    match j, hj with
    | 0, _ => exact ⟨a, ha, rfl⟩
    | 1, _ => exact ⟨b, hb, rfl⟩
    | 2, _ => exact ⟨c, hc, rfl⟩
  obtain ⟨u, hu, he⟩ := h1
  refine ⟨u, hu, hg.cell (a := ⟨w1.heap.size, j, none⟩) ?_ (by simp; omega)⟩
  rw [cell_of_row _ w1.heap.size j _ 9 (0, 0) (heap_alloc_new w1 _)]
  exact he

set_option maxHeartbeats 1600000 in
theorem drawNumRead_any (a : Option Addr) (n c : Nat) (w : World) (hn : n ≤ 1048576) (hcode : Code w w.heap.size a n) :
    Calls Tryd.prog 10 #[.slice a n c] w (TextRes w) := by
  have HC := Lib.hid hcode
  clear hcode
  go_enter Tryd.func10, Tryd.ntmps10
  go_wp2_with fail
  refine (open_any a n c _ hn HC.out).mono ?_
  rintro e w1 ⟨rfl, hcur, hb1⟩
  have H1 := Lib.hid hcur
  clear hcur
  go_wp2_with fail
  refine (pick_any _ 0 256 _ H1.out (by omega) (by omega) (by omega)).mono ?_
  rintro e w2 ⟨p, rfl, hp0, hp1, hcur2, hg2⟩
  have H2 := Lib.hid hcur2
  have hb2 := below_of_grown hb1 hg2
  clear hcur2 hg2
  go_wp2_with fail
  refine (raw_any _ (0 + 1) _ H2.out (by omega)).mono ?_
  rintro e w3 ⟨r, rfl, hr, hcur3, hg3⟩
  have HR := Lib.hid hr
  have H3 := Lib.hid hcur3
  have hb3 := below_of_grown hb2 hg3
  clear hcur3 hg3 hr
  go_wp2_with fail
  have hal : ∀ o, Below w3.heap.size w3 (w3.alloc o) := fun o => (Below.refl _ w3).alloc (Nat.le_refl _) o
  refine (pick_any _ (0 + 1 + 2) 4 _ (H3.out.below (hal _)) (by omega) (by omega) (by omega)).mono ?_
  rintro e w4 ⟨q, rfl, hq0, hq1, hcur4, hg4⟩
  obtain ⟨j, rfl⟩ : ∃ j : Nat, q = (j : Int) := ⟨q.toNat, by omega⟩
  have hj4 : j < 4 := by omega
  have hPI : InI64 p := ⟨by omega, by omega⟩
  obtain ⟨x, hx, hcx⟩ := four_at hPI HR.out hg4 H3.out.lt hj4
  have HX := Lib.hid hx
  have H4 := Lib.hid hcur4
  have hb4 := below_of_grown (hb3.alloc hb3.size _) hg4
  clear hg4 hal hcur4 hx hPI
  go_wp2_with fail
  refine (specNumText_any x _ HX.out).mono ?_
  rintro e w5 ⟨rfl, hb5⟩
  have H5 := Lib.hid (H4.out.below hb5)
  have b5 := hb4.trans (hb5.mono hb4.size)
  have HL := Lib.hid (itoa_len HX.out)
  clear hb5 hb4 hb3 hb2 hb1 hcx
  generalize Lib.itoa x = tx at HL
  go_wp2_with fail
  refine (once_any _ (0 + 1 + 2 + 1) 4 _ H5.out (by omega) (by omega) (by omega)).mono ?_
  rintro e w6 ⟨b, rfl, hcur6, hg6⟩
  have H6 := Lib.hid hcur6
  have b6 := below_of_grown b5 hg6
  clear hcur6 hg6 b5
  cases b with
  | false =>
    go_wp2_with fail
    go_ret
    exact ⟨_, rfl, by have := HL.out; show tx.toArray.size ≤ 64; simp; omega, b6⟩
  | true =>
    go_wp2_with fail
    have hal : ∀ o, Below w6.heap.size w6 (w6.alloc o) := fun o => (Below.refl _ w6).alloc (Nat.le_refl _) o
    refine (pick_any _ (0 + 1 + 2 + 1 + 1) 3 _ (H6.out.below (hal _)) (by omega) (by omega) (by omega)).mono ?_
    rintro e w7 ⟨q, rfl, hq0', hq1', hcur7, hg7⟩
    obtain ⟨i, rfl⟩ : ∃ i : Nat, q = (i : Int) := ⟨q.toNat, by omega⟩
    have hi3 : i < 3 := by omega
    obtain ⟨t, ht, hct⟩ := three_at rfl rfl rfl hg7 H6.out.lt hi3
    have HTT := Lib.hid ht
    have b7 := below_of_grown (b6.alloc b6.size _) hg7
    clear hg7 hal hcur7 ht
    have hno : ¬ 9223372036854775807 < tx.length + t.size := by have := HL.out; have := HTT.out; omega
    go_wp2_with fail
    go_ret
    exact ⟨_, rfl, by
      have h1 := HL.out
      have h2 := HTT.out
      show (ByteArray.size (⟨tx.toArray⟩ ++ t)) ≤ 64
      have h3 : (ByteArray.mk tx.toArray).size = tx.length := by simp [ByteArray.size]
      rw [ByteArray.size_append, h3]; omega, b7⟩

end Go.Proofs.YtbhcdfliedgalaaDoor
