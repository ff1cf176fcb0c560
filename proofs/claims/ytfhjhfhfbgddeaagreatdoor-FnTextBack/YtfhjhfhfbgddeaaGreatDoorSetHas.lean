/-
  The contract of the program's SetHas: it answers whether the number is in the list. Conditions: the slice reads as a list of ints of at most 2^40 elements.
-/
import Derived.Test.YtfhjhfhfbgddeaaGreatDoorSpecHas
import Derived.Test.YtfhjhfhfbgddeaaGreatDoorShelf
namespace Go.Proofs.YtfhjhfhfbgddeaaGreatDoor
open Go.RowKit

theorem implSetHas_any (a : Option Addr) (n c : Nat) (x : Int) (xs : List Int) (w : World) (h : Row w a n xs) (hn : n ≤ 1099511627776) :
    Calls Tryz.prog 64 #[.slice a n c, .int .i64 x] w fun e w' => e = .returned (.bool (hasB xs x)) ∧ w' = w := by
  obtain ⟨hl, hc⟩ := h
  by_cases h0 : 0 < n
  · obtain ⟨b, off, rfl, hb, hcell⟩ := hc h0
    have HC := Lib.hid (fun j (hj : j < xs.length) => hcell j (by omega))
    have HN := Lib.hid hl
    clear hc hcell hl
    go_enter Tryz.func64, Tryz.ntmps64
    go_wp2_with fail
    refine (Tryz.slices_Contains_int b off n c xs x _ (by rw [HN.out]; exact Nat.le_refl _) (by omega) HC.out).mono ?_
    rintro e w' ⟨rfl, rfl⟩
    go_wp2_with fail
    go_ret
    exact ⟨ret_bool (by rw [List.take_of_length_le (by rw [HN.out]; exact Nat.le_refl _)]; simp [hasB]), rfl⟩
  · obtain rfl : n = 0 := by omega
    obtain rfl : xs = [] := List.length_eq_zero_iff.1 hl
    clear hc hl
    go_enter Tryz.func64, Tryz.ntmps64
    go_wp2_with fail
    refine (Tryz.slices_Contains_int_empty a c x _).mono ?_
    rintro e w' ⟨rfl, rfl⟩
    go_wp2_with fail
    go_ret
    exact ⟨rfl, rfl⟩

end Go.Proofs.YtfhjhfhfbgddeaaGreatDoor
