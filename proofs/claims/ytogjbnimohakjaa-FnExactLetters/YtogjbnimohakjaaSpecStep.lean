import Derived.Test.YtogjbnimohakjaaToStep
/-
  Contracts of the model's l02State and l02Cmp. Conditions: at least one and at most 40 states; the numbers of the steps are at most 2^40.
-/
namespace Go.Proofs.Ytogjbnimohakjaa
open Go.RowKit

set_option maxRecDepth 20000 in
set_option maxHeartbeats 400000 in
theorem state_any (st it s : Int) (v2 v3 v4 v5 : Value) (w : World) (h0 : 1 ≤ st) (h1 : st ≤ 40) :
    Calls Try.prog 20 #[.agg #[.int .i64 st, .int .i64 it, v2, v3, v4, v5], .int .i64 s] w fun e w' => e = .returned (.bool (btw s 0 (st - 1))) ∧ Below w.heap.size w w' := by
  have HB : Hid (∀ o, Below w.heap.size w (w.alloc o)) := fun o => (Below.refl _ _).alloc (Nat.le_refl _) _
  go_enter Try.func20, Try.ntmps20
  go_wp2_with fail
  refine (between_any s 0 (st - 1) _).mono ?_
  rintro e w1 ⟨rfl, rfl⟩
  go_wp2_with fail
  go_ret
  exact ⟨rfl, HB.out _⟩

set_option maxRecDepth 20000 in
set_option maxHeartbeats 800000 in
theorem cmp_any (x y z x' y' z' : Int) (w : World) (b0 : -1099511627776 ≤ x ∧ x ≤ 1099511627776) (b1 : -1099511627776 ≤ y ∧ y ≤ 1099511627776) (b2 : -1099511627776 ≤ z ∧ z ≤ 1099511627776)
    (d0 : -1099511627776 ≤ x' ∧ x' ≤ 1099511627776) (d1 : -1099511627776 ≤ y' ∧ y' ≤ 1099511627776) (d2 : -1099511627776 ≤ z' ∧ z' ≤ 1099511627776) :
    Calls Try.prog 24 #[.agg #[.int .i64 x, .int .i64 y, .int .i64 z], .agg #[.int .i64 x', .int .i64 y', .int .i64 z']] w fun e w' => e = .returned (.int .i64 (cmpOf (x, y, z) (x', y', z'))) ∧ Below w.heap.size w w' := by
  have HB : Hid (∀ o o', Below w.heap.size w ((w.alloc o).alloc o')) := fun o o' => ((Below.refl _ _).alloc (Nat.le_refl _) _).alloc (by simp) _
  obtain ⟨r, hr⟩ : ∃ r, r = cmpOf (x, y, z) (x', y', z') := ⟨_, rfl⟩
  rw [← hr]
  have HR := Lib.hid hr
  clear hr
  by_cases e1 : x = x'
  · by_cases e2 : y = y'
    · go_enter Try.func24, Try.ntmps24
      go_wp2
      go_ret
      exact ⟨ret_int (by rw [HR.out]; simp [cmpOf, e1, e2]; try go_num), HB.out _ _⟩
    · go_enter Try.func24, Try.ntmps24
      go_wp2
      go_ret
      exact ⟨ret_int (by rw [HR.out]; simp [cmpOf, e1, e2]; try go_num), HB.out _ _⟩
  · go_enter Try.func24, Try.ntmps24
    go_wp2
    go_ret
    exact ⟨ret_int (by rw [HR.out]; simp [cmpOf, e1]; try go_num), HB.out _ _⟩

end Go.Proofs.Ytogjbnimohakjaa

/-
  Contracts of the model's l02After and l02Of. Conditions: at most 2^21 steps, and numbers in the set.
-/
namespace Go.Proofs.Ytogjbnimohakjaa
open Go.RowKit

def afterL (ss : List St) (s act : Int) : List Int := putAll [] ((ss.filter fun x => decide (x.1 = s) && decide (x.2.1 = act)).map fun x => x.2.2)
def ofL (ss : List St) (s : Int) (set : List Int) : List Int := putAll [] ((ss.filter fun x => decide (x.1 = s) && hasB set x.2.1).map fun x => x.2.1)

theorem filterS_step (ss : List St) (p : St → Bool) (f : St → Int) (k : Nat) (hk : k < ss.length) :
    putAll [] (((ss.take (k + 1)).filter p).map f) = if p ss[k] then put (putAll [] (((ss.take k).filter p).map f)) (f ss[k]) else putAll [] (((ss.take k).filter p).map f) := by
  rw [List.take_succ_eq_append_getElem hk, List.filter_append, List.map_append]
  by_cases h : p ss[k] = true
  · simp [h, putAll]
  · simp [h]

end Go.Proofs.Ytogjbnimohakjaa
