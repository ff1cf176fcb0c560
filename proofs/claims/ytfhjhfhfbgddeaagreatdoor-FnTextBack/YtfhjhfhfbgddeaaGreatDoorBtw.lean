import Derived.Test.YtfhjhfhfbgddeaaGreatDoorChecked
import Derived.Test.YtfhjhfhfbgddeaaGreatDoorBase
import Derived.Deep.QuietTactic
import Derived.BigQuiet
import Derived.Outline
import Derived.WalkSmall
/-
  The contract of the model's l01Between. Conditions: none.
-/
namespace Go.Proofs.YtfhjhfhfbgddeaaGreatDoor
open Go.RowKit

def btw (n lo hi : Int) : Bool := decide (lo ≤ n) && decide (n ≤ hi)

theorem between_any (n lo hi : Int) (w : World) : Calls Tryz.prog 20 #[.int .i64 n, .int .i64 lo, .int .i64 hi] w fun e w' => e = .returned (.bool (btw n lo hi)) ∧ w' = w := by
  by_cases h1 : lo ≤ n
  · by_cases h2 : n ≤ hi
    · have e : btw n lo hi = true := by simp [btw, h1, h2]
      have HE := Lib.hid e; clear e
      go_enter Tryz.func20, Tryz.ntmps20
      go_wp2
      go_ret
      exact ⟨ret_bool HE.out.symm, rfl⟩
    · have e : btw n lo hi = false := by simp [btw, h2]
      have HE := Lib.hid e; clear e
      go_enter Tryz.func20, Tryz.ntmps20
      go_wp2
      go_ret
      exact ⟨ret_bool HE.out.symm, rfl⟩
  · have e : btw n lo hi = false := by simp [btw, h1]
    have HE := Lib.hid e; clear e
    go_enter Tryz.func20, Tryz.ntmps20
    go_wp2
    go_ret
    exact ⟨ret_bool HE.out.symm, rfl⟩

end Go.Proofs.YtfhjhfhfbgddeaaGreatDoor

/-
  Contracts of the laws' helpers on slices of ints (toIntS, eqIntS). Conditions: the slices read as lists of ints of at most 2^40 elements.
-/
namespace Go.Proofs.YtfhjhfhfbgddeaaGreatDoor
open Go.RowKit

theorem info_int : (Tryz.prog.info? 3).map (fun i => (i.zero, i.size, i.bytes)) = some (some (.int .i64 0), 1, 8) := by kernel_rfl

theorem copied_step (xs : List Int) (n k : Nat) (hl : xs.length = n) (hk : k < xs.length) :
    ((xs.take k ++ List.replicate (n - k) 0).map (Value.int .i64)).set k (.int .i64 xs[k]) = (xs.take (k + 1) ++ List.replicate (n - (k + 1)) 0).map (Value.int .i64) := by
  have e1 : n - k = (n - (k + 1)) + 1 := by omega
  rw [e1, List.replicate_succ, List.map_append, List.map_append, List.set_append, if_neg (by simp; omega), List.take_succ_eq_append_getElem hk]
  have e2 : k - ((xs.take k).map (Value.int .i64)).length = 0 := by simp; omega
  rw [e2]
  simp only [List.map_append, List.map_cons, List.set_cons_zero, List.map_nil, List.append_assoc, List.cons_append, List.nil_append]

theorem take_eq_step {xs ys : List Int} {k : Nat} (h : xs.take k = ys.take k) (hx : k < xs.length) (hy : k < ys.length) (he : xs[k] = ys[k]) : xs.take (k + 1) = ys.take (k + 1) := by
  rw [List.take_succ_eq_append_getElem hx, List.take_succ_eq_append_getElem hy, h, he]

theorem ne_of_at {xs ys : List Int} {k : Nat} (hx : k < xs.length) (hy : k < ys.length) (he : ¬ xs[k] = ys[k]) : ¬ xs = ys := by
  intro h; subst h; exact he rfl

end Go.Proofs.YtfhjhfhfbgddeaaGreatDoor
