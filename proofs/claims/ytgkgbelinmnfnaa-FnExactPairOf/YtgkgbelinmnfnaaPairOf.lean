/-
  Contracts of PairOf, of the program and of the model, and of the laws' eqPair. Conditions: none.
-/
import Derived.Test.YtgkgbelinmnfnaaTwo
namespace Go.Proofs.Ytgkgbelinmnfnaa
open Go.RowKit

/-- The pair of a state, as the machine's numbers have it. -/
def pairOf (st s : Int) : Int × Int := if s < 0 ∨ st < 1 then (0, 0) else (wrap64 (s.tdiv st), s % st)

set_option maxRecDepth 20000 in
set_option maxHeartbeats 1600000 in
theorem eqPair_any (x y : Int) (w : World) :
    Calls Try.prog 11 #[.agg #[.int .i64 x, .int .i64 y], .agg #[.int .i64 x, .int .i64 y]] w fun e w' => e = .returned (.bool true) ∧ Below w.heap.size w w' := by
  have B0 : Hid (∀ o p, Below w.heap.size w ((w.alloc o).alloc p)) := fun o p => ((Below.refl _ _).alloc (Nat.le_refl _) _).alloc (by simp) _
  go_enter Try.func11, Try.ntmps11
  go_wp2_with fail
  go_ret
  exact ⟨rfl, B0.out _ _⟩

set_option maxRecDepth 20000 in
set_option maxHeartbeats 1600000 in
theorem implPairOf_any (st it : Int) (v2 v3 v4 v5 : Value) (s : Int) (w : World) :
    Calls Try.prog 10 #[.agg #[.int .i64 st, .int .i64 it, v2, v3, v4, v5], .int .i64 s] w fun e w' => e = .returned (.agg #[.int .i64 (pairOf st s).1, .int .i64 (pairOf st s).2]) ∧ Below w.heap.size w w' := by
  have B0 : Hid (∀ o p, Below w.heap.size w ((w.alloc o).alloc p)) := fun o p => ((Below.refl _ _).alloc (Nat.le_refl _) _).alloc (by simp) _
  by_cases h0 : s < 0
  · have e : pairOf st s = (0, 0) := if_pos (Or.inl h0)
    by_cases h1 : st < 1
    · rw [e]
      go_enter Try.func10, Try.ntmps10
      go_wp2_with fail
      refine bodyPost_ret (v := .agg #[.int .i64 0, .int .i64 0]) ?_ rfl ⟨rfl, ?_⟩
      · simp [results, Try.results10, go_sem]
      · first | exact B0.out _ _ | exact (B0.out _ _).drew
    · rw [e]
      go_enter Try.func10, Try.ntmps10
      go_wp2_with fail
      refine bodyPost_ret (v := .agg #[.int .i64 0, .int .i64 0]) ?_ rfl ⟨rfl, ?_⟩
      · simp [results, Try.results10, go_sem]
      · first | exact B0.out _ _ | exact (B0.out _ _).drew
  · by_cases h1 : st < 1
    · have e : pairOf st s = (0, 0) := if_pos (Or.inr h1)
      rw [e]
      go_enter Try.func10, Try.ntmps10
      go_wp2_with fail
      refine bodyPost_ret (v := .agg #[.int .i64 0, .int .i64 0]) ?_ rfl ⟨rfl, ?_⟩
      · simp [results, Try.results10, go_sem]
      · first | exact B0.out _ _ | exact (B0.out _ _).drew
    · have e : pairOf st s = (wrap64 (s.tdiv st), s % st) := if_neg (by omega)
      have hne : ¬ st = 0 := by omega
      rw [e]
      go_enter Try.func10, Try.ntmps10
      go_wp2_with fail
      go_region
      go_wp2_with fail
      refine bodyPost_ret (v := .agg #[.int .i64 (wrap64 (s.tdiv st)), .int .i64 (s % st)]) ?_ rfl ⟨rfl, ?_⟩
      · simp [results, Try.results10, go_sem]
      · first | exact B0.out _ _ | exact (B0.out _ _).drew

set_option maxRecDepth 20000 in
set_option maxHeartbeats 1600000 in
theorem specPairOf_any (st it : Int) (v2 v3 v4 v5 : Value) (s : Int) (w : World) :
    Calls Try.prog 8 #[.agg #[.int .i64 st, .int .i64 it, v2, v3, v4, v5], .int .i64 s] w fun e w' => e = .returned (.agg #[.int .i64 (pairOf st s).1, .int .i64 (pairOf st s).2]) ∧ Below w.heap.size w w' := by
  have B0 : Hid (∀ o p, Below w.heap.size w ((w.alloc o).alloc p)) := fun o p => ((Below.refl _ _).alloc (Nat.le_refl _) _).alloc (by simp) _
  by_cases h0 : s < 0
  · have e : pairOf st s = (0, 0) := if_pos (Or.inl h0)
    by_cases h1 : st < 1
    · rw [e]
      go_enter Try.func8, Try.ntmps8
      go_wp2_with fail
      refine bodyPost_ret (v := .agg #[.int .i64 0, .int .i64 0]) ?_ rfl ⟨rfl, ?_⟩
      · simp [results, Try.results8, go_sem]
      · first | exact B0.out _ _ | exact (B0.out _ _).drew
    · rw [e]
      go_enter Try.func8, Try.ntmps8
      go_wp2_with fail
      refine bodyPost_ret (v := .agg #[.int .i64 0, .int .i64 0]) ?_ rfl ⟨rfl, ?_⟩
      · simp [results, Try.results8, go_sem]
      · first | exact B0.out _ _ | exact (B0.out _ _).drew
  · by_cases h1 : st < 1
    · have e : pairOf st s = (0, 0) := if_pos (Or.inr h1)
      rw [e]
      go_enter Try.func8, Try.ntmps8
      go_wp2_with fail
      refine bodyPost_ret (v := .agg #[.int .i64 0, .int .i64 0]) ?_ rfl ⟨rfl, ?_⟩
      · simp [results, Try.results8, go_sem]
      · first | exact B0.out _ _ | exact (B0.out _ _).drew
    · have e : pairOf st s = (wrap64 (s.tdiv st), s % st) := if_neg (by omega)
      have hne : ¬ st = 0 := by omega
      rw [e]
      go_enter Try.func8, Try.ntmps8
      go_wp2_with fail
      go_region
      go_wp2_with fail
      refine bodyPost_ret (v := .agg #[.int .i64 (wrap64 (s.tdiv st)), .int .i64 (s % st)]) ?_ rfl ⟨rfl, ?_⟩
      · simp [results, Try.results8, go_sem]
      · first | exact B0.out _ _ | exact (B0.out _ _).drew

end Go.Proofs.Ytgkgbelinmnfnaa
