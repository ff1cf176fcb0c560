/-
  The contract of the laws' szIa: how much room is left behind an automaton's lists. Conditions: at most 2^40 at the beginning; the slices are no longer than slices may be.
-/
import Derived.Test.YtalanlmhfggheaaToIa
namespace Go.Proofs.Ytalanlmhfggheaa
open Go.RowKit

def roomOf (left : Int) (n : Nat) : Int := if (n : Int) ≤ left then left - n else -1

theorem szIntS_any (a : Option Addr) (n c : Nat) (left : Int) (w : World) (h0 : 0 ≤ left) (h1 : left ≤ 1099511627776) (hn : n ≤ maxLen) :
    Calls Try.prog 20 #[.slice a n c, .int .i64 left] w fun e w' => e = .returned (.int .i64 (roomOf left n)) ∧ w' = w := by
  unfold maxLen at hn
  by_cases h : (n : Int) ≤ left
  · have e : roomOf left n = left - n := if_pos h
    rw [e]
    go_enter Try.func20, Try.ntmps20
    go_wp2
    go_ret
    exact ⟨ret_int (by go_num), rfl⟩
  · have e : roomOf left n = -1 := if_neg h
    rw [e]
    go_enter Try.func20, Try.ntmps20
    go_wp2
    go_ret
    exact ⟨rfl, rfl⟩

theorem szStepS_any (a : Option Addr) (n c : Nat) (left : Int) (w : World) (h0 : 0 ≤ left) (h1 : left ≤ 1099511627776) (hn : n ≤ maxLen) :
    Calls Try.prog 21 #[.slice a n c, .int .i64 left] w fun e w' => e = .returned (.int .i64 (roomOf left n)) ∧ w' = w := by
  unfold maxLen at hn
  by_cases h : (n : Int) ≤ left
  · have e : roomOf left n = left - n := if_pos h
    rw [e]
    go_enter Try.func21, Try.ntmps21
    go_wp2
    go_ret
    exact ⟨ret_int (by go_num), rfl⟩
  · have e : roomOf left n = -1 := if_neg h
    rw [e]
    go_enter Try.func21, Try.ntmps21
    go_wp2
    go_ret
    exact ⟨rfl, rfl⟩

theorem roomOf_neg {left : Int} {n : Nat} (h : ¬ (n : Int) ≤ left) : roomOf left n = -1 := if_neg h
theorem roomOf_pos {left : Int} {n : Nat} (h : (n : Int) ≤ left) : roomOf left n = left - n := if_pos h

set_option maxRecDepth 20000 in
set_option maxHeartbeats 1600000 in
theorem szIa_any (st it : Int) (a2 : Option Addr) (n2 c2 : Nat) (a3 : Option Addr) (n3 c3 : Nat) (a4 : Option Addr) (n4 c4 : Nat) (a5 : Option Addr) (n5 c5 : Nat) (left : Int) (w : World) (h0 : 0 ≤ left) (h1 : left ≤ 1099511627776)
    (m2 : n2 ≤ maxLen) (m3 : n3 ≤ maxLen) (m4 : n4 ≤ maxLen) (m5 : n5 ≤ maxLen) :
    Calls Try.prog 6 #[.agg #[.int .i64 st, .int .i64 it, .slice a2 n2 c2, .slice a3 n3 c3, .slice a4 n4 c4, .slice a5 n5 c5], .int .i64 left] w
      fun e w' => e = .returned (.int .i64 (roomOf left (n2 + n3 + n4 + n5))) ∧ Below w.heap.size w w' := by
  have HB : Hid (∀ o, Below w.heap.size w (w.alloc o)) := fun o => (Below.refl _ _).alloc (Nat.le_refl _) _
  have M2 := Lib.hid m2
  have M3 := Lib.hid m3
  have M4 := Lib.hid m4
  have M5 := Lib.hid m5
  clear m2 m3 m4 m5
  obtain ⟨r, hr⟩ : ∃ r, r = roomOf left (n2 + n3 + n4 + n5) := ⟨_, rfl⟩
  rw [← hr]
  have HR := Lib.hid hr
  clear hr
  go_enter Try.func6, Try.ntmps6
  go_wp2_with fail
  refine (szIntS_any a2 n2 c2 left _ h0 h1 M2.out).mono ?_
  rintro e w1 ⟨rfl, rfl⟩
  by_cases q2 : (n2 : Int) ≤ left
  · rw [roomOf_pos q2]
    go_wp2_with fail
    refine (szIntS_any a3 n3 c3 (left - n2) _ (by omega) (by omega) M3.out).mono ?_
    rintro e w1 ⟨rfl, rfl⟩
    by_cases q3 : (n3 : Int) ≤ left - n2
    · rw [roomOf_pos q3]
      go_wp2_with fail
      refine (szIntS_any a4 n4 c4 (left - n2 - n3) _ (by omega) (by omega) M4.out).mono ?_
      rintro e w1 ⟨rfl, rfl⟩
      by_cases q4 : (n4 : Int) ≤ left - n2 - n3
      · rw [roomOf_pos q4]
        go_wp2_with fail
        refine (szStepS_any a5 n5 c5 (left - n2 - n3 - n4) _ (by omega) (by omega) M5.out).mono ?_
        rintro e w1 ⟨rfl, rfl⟩
        by_cases q5 : (n5 : Int) ≤ left - n2 - n3 - n4
        · rw [roomOf_pos q5]
          go_wp2_with fail
          go_ret
          exact ⟨ret_int (by rw [HR.out, roomOf_pos (by omega)]; omega), HB.out _⟩
        · rw [roomOf_neg q5]
          go_wp2_with fail
          go_ret
          exact ⟨ret_int (by rw [HR.out, roomOf_neg (by omega)]), HB.out _⟩
      · rw [roomOf_neg q4]
        go_wp2_with fail
        go_ret
        exact ⟨ret_int (by rw [HR.out, roomOf_neg (by omega)]), HB.out _⟩
    · rw [roomOf_neg q3]
      go_wp2_with fail
      go_ret
      exact ⟨ret_int (by rw [HR.out, roomOf_neg (by omega)]), HB.out _⟩
  · rw [roomOf_neg q2]
    go_wp2_with fail
    go_ret
    exact ⟨ret_int (by rw [HR.out, roomOf_neg (by omega)]), HB.out _⟩

end Go.Proofs.Ytalanlmhfggheaa
