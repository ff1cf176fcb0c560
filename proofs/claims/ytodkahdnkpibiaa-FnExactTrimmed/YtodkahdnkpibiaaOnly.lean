/-
  The contract of the model's l02Only. Conditions: lists of at most 2^20 elements, none of the three sets nil.
-/
import Derived.Test.YtodkahdnkpibiaaStates
import Derived.Test.YtodkahdnkpibiaaSpecReached
import Derived.Test.YtodkahdnkpibiaaImplTrimmed
namespace Go.Proofs.Ytodkahdnkpibiaa
open Go.RowKit

/-- The states of the region that lays the new automaton out: how far its calls have come, and which memory has been made. -/
abbrev OnlyS : Type := Nat × Bool × Bool × Bool × Bool

def onlyL (s : OnlyS) : Array Bool := #[true, true, true, true, true, decide (1 ≤ s.1), s.2.1, true, true, decide (2 ≤ s.1), s.2.2.1, true, true, decide (3 ≤ s.1), s.2.2.2.1, true, true, decide (4 ≤ s.1), decide (5 ≤ s.1), s.2.2.2.2, decide (6 ≤ s.1)]

def onlyF (s : OnlyS) : Nat := (6 - s.1) + (if s.2.1 then 0 else 1) + (if s.2.2.1 then 0 else 1) + (if s.2.2.2.1 then 0 else 1) + (if s.2.2.2.2 then 0 else 1)

def onlyT (s : OnlyS) (i : Nat) : Bool :=
  (i == 5 && s.1 == 0) || (i == 6 && !s.2.1) || (i == 10 && !s.2.2.1) || (i == 14 && !s.2.2.2.1) || (i == 19 && !s.2.2.2.2) || (i == 9 && (s.1 == 1 && s.2.1)) || (i == 13 && (s.1 == 2 && s.2.2.1)) || (i == 17 && (s.1 == 3 && s.2.2.2.1)) || (i == 18 && s.1 == 4) || (i == 20 && (s.1 == 5 && s.2.2.2.2))

/-- An automaton's value whose lists read as they should, none of them in older memory. -/
def IaRowF (w : World) (base : Nat) (a : IaD) (v : Value) : Prop :=
  ∃ (a2 : Option Addr) (n2 c2 : Nat) (a3 : Option Addr) (n3 c3 : Nat) (a4 : Option Addr) (n4 c4 : Nat) (a5 : Option Addr) (n5 c5 : Nat),
    v = .agg #[.int .i64 a.states, .int .i64 a.init, .slice a2 n2 c2, .slice a3 n3 c3, .slice a4 n4 c4, .slice a5 n5 c5] ∧ Row w a2 n2 a.ins ∧ Row w a3 n3 a.outs ∧ Row w a4 n4 a.hids ∧ RowS w a5 n5 a.steps ∧
    (∀ q, a2 = some q → 0 < n2 → base ≤ q.block) ∧ (∀ q, a3 = some q → 0 < n3 → base ≤ q.block) ∧ (∀ q, a4 = some q → 0 < n4 → base ≤ q.block) ∧ ∀ q, a5 = some q → 0 < n5 → base ≤ q.block

/-- The steps between states that are kept, numbered anew. -/
def onlyS (keep : List Int) (ss : List St) : List St := (ss.map fun x => (placeOf keep x.1, x.2.1, placeOf keep x.2.2)).filter fun x => decide (0 ≤ x.1) && decide (0 ≤ x.2.2)

theorem onlyS_step (keep : List Int) (ss : List St) (k : Nat) (hk : k < ss.length) : onlyS keep (ss.take (k + 1)) = onlyS keep (ss.take k) ++ if decide (0 ≤ placeOf keep ss[k].1) && decide (0 ≤ placeOf keep ss[k].2.2) then [(placeOf keep ss[k].1, ss[k].2.1, placeOf keep ss[k].2.2)] else [] := by
  unfold onlyS
  rw [List.take_succ_eq_append_getElem hk, List.map_append, List.filter_append]
  congr 1
  rw [List.map_cons, List.map_nil, List.filter_cons, List.filter_nil]

set_option maxRecDepth 20000 in
set_option maxHeartbeats 6400000 in
theorem only_any (st it : Int) (b2 o2 n2 c2 b3 o3 n3 c3 b4 o4 n4 c4 : Nat) (a5 : Option Addr) (n5 c5 : Nat) (ins outs hids : List Int) (steps : List St) (ka : Option Addr) (kn kc : Nat) (keep : List Int) (w : World)
    (r2 : Row w (some ⟨b2, o2, none⟩) n2 ins) (r3 : Row w (some ⟨b3, o3, none⟩) n3 outs) (r4 : Row w (some ⟨b4, o4, none⟩) n4 hids) (r5 : RowS w a5 n5 steps) (rk : Row w ka kn keep) (f2 : n2 ≤ 1048576) (f3 : n3 ≤ 1048576) (f4 : n4 ≤ 1048576) (f5 : n5 ≤ 1048576) (fk : kn ≤ 4194304) :
    Calls Try.prog 59 #[.agg #[.int .i64 st, .int .i64 it, .slice (some ⟨b2, o2, none⟩) n2 c2, .slice (some ⟨b3, o3, none⟩) n3 c3, .slice (some ⟨b4, o4, none⟩) n4 c4, .slice a5 n5 c5], .slice ka kn kc] w fun e w' => ∃ v, e = .returned v ∧ IaRowF w' w.heap.size (onlyOf ⟨st, it, ins, outs, hids, steps⟩ keep) v ∧ Below w.heap.size w w' := by
  obtain ⟨i0, hi, hz0, hz1, hz2⟩ := info_parts info_int
  obtain ⟨j0, hj, hj0, hj1, hj2⟩ := info_parts (show (Try.prog.info? 49).map (fun i => (i.zero, i.size, i.bytes)) = some (some (.agg #[.int .i64 0, .int .i64 0, .int .i64 0]), 3, 24) by kernel_rfl)
  have R2 := Lib.hid r2
  have R3 := Lib.hid r3
  have R4 := Lib.hid r4
  have R5 := Lib.hid r5
  have RK := Lib.hid rk
  clear r2 r3 r4 r5 rk
  obtain ⟨pl, hpl⟩ : ∃ p, p = placeOf keep it := ⟨_, rfl⟩
  have CAT : Hid (∀ W x, Below w.heap.size w W → Calls Try.prog 75 #[.slice ka kn kc, .int .i64 x] W fun e w' => e = .returned (.int .i64 (placeOf keep x)) ∧ w' = W) := fun W x hW => at_any ka kn kc x keep W (RK.out.below hW) (by omega)
  have HPL := Lib.hid hpl
  clear hpl
  have B0 : Hid (∀ o o', Below w.heap.size w ((w.alloc o).alloc o')) := fun o o' => ((Below.refl _ _).alloc (Nat.le_refl _) _).alloc (by simp) _
  have V0 : Hid (VarIs ((w.alloc (.cells #[.int .i64 st, .int .i64 it, .slice (some ⟨b2, o2, none⟩) n2 c2, .slice (some ⟨b3, o3, none⟩) n3 c3, .slice (some ⟨b4, o4, none⟩) n4 c4, .slice a5 n5 c5] 30)).alloc (.cells #[.int .i64 0, .int .i64 0, .slice none 0 0, .slice none 0 0, .slice none 0 0, .slice none 0 0] 30)) w.heap.size #[.int .i64 st, .int .i64 it, .slice (some ⟨b2, o2, none⟩) n2 c2, .slice (some ⟨b3, o3, none⟩) n3 c3, .slice (some ⟨b4, o4, none⟩) n4 c4, .slice a5 n5 c5] 30) := (VarIs.new w _ _ rfl).alloc _
  have VR0 : Hid (VarIs ((w.alloc (.cells #[.int .i64 st, .int .i64 it, .slice (some ⟨b2, o2, none⟩) n2 c2, .slice (some ⟨b3, o3, none⟩) n3 c3, .slice (some ⟨b4, o4, none⟩) n4 c4, .slice a5 n5 c5] 30)).alloc (.cells #[.int .i64 0, .int .i64 0, .slice none 0 0, .slice none 0 0, .slice none 0 0, .slice none 0 0] 30)) (w.heap.size + 1) #[.int .i64 0, .int .i64 0, .slice none 0 0, .slice none 0 0, .slice none 0 0, .slice none 0 0] 30) := VarIs.new _ _ _ (by simp)
  have S0 : Below w.heap.size w ((w.alloc (.cells #[.int .i64 st, .int .i64 it, .slice (some ⟨b2, o2, none⟩) n2 c2, .slice (some ⟨b3, o3, none⟩) n3 c3, .slice (some ⟨b4, o4, none⟩) n4 c4, .slice a5 n5 c5] 30)).alloc (.cells #[.int .i64 0, .int .i64 0, .slice none 0 0, .slice none 0 0, .slice none 0 0, .slice none 0 0] 30)).drew ∧ VarIs ((w.alloc (.cells #[.int .i64 st, .int .i64 it, .slice (some ⟨b2, o2, none⟩) n2 c2, .slice (some ⟨b3, o3, none⟩) n3 c3, .slice (some ⟨b4, o4, none⟩) n4 c4, .slice a5 n5 c5] 30)).alloc (.cells #[.int .i64 0, .int .i64 0, .slice none 0 0, .slice none 0 0, .slice none 0 0, .slice none 0 0] 30)).drew w.heap.size #[.int .i64 st, .int .i64 it, .slice (some ⟨b2, o2, none⟩) n2 c2, .slice (some ⟨b3, o3, none⟩) n3 c3, .slice (some ⟨b4, o4, none⟩) n4 c4, .slice a5 n5 c5] 30 ∧ VarIs ((w.alloc (.cells #[.int .i64 st, .int .i64 it, .slice (some ⟨b2, o2, none⟩) n2 c2, .slice (some ⟨b3, o3, none⟩) n3 c3, .slice (some ⟨b4, o4, none⟩) n4 c4, .slice a5 n5 c5] 30)).alloc (.cells #[.int .i64 0, .int .i64 0, .slice none 0 0, .slice none 0 0, .slice none 0 0, .slice none 0 0] 30)).drew (w.heap.size + 1) #[.int .i64 0, .int .i64 0, .slice none 0 0, .slice none 0 0, .slice none 0 0, .slice none 0 0] 30 ∧ ((w.alloc (.cells #[.int .i64 st, .int .i64 it, .slice (some ⟨b2, o2, none⟩) n2 c2, .slice (some ⟨b3, o3, none⟩) n3 c3, .slice (some ⟨b4, o4, none⟩) n4 c4, .slice a5 n5 c5] 30)).alloc (.cells #[.int .i64 0, .int .i64 0, .slice none 0 0, .slice none 0 0, .slice none 0 0, .slice none 0 0] 30)).drew.cell? ⟨w.heap.size, 1, none⟩ = some (.int .i64 it) ∧ ((w.alloc (.cells #[.int .i64 st, .int .i64 it, .slice (some ⟨b2, o2, none⟩) n2 c2, .slice (some ⟨b3, o3, none⟩) n3 c3, .slice (some ⟨b4, o4, none⟩) n4 c4, .slice a5 n5 c5] 30)).alloc (.cells #[.int .i64 0, .int .i64 0, .slice none 0 0, .slice none 0 0, .slice none 0 0, .slice none 0 0] 30)).drew.cell? ⟨w.heap.size, 2, none⟩ = some (.slice (some ⟨b2, o2, none⟩) n2 c2) ∧ ((w.alloc (.cells #[.int .i64 st, .int .i64 it, .slice (some ⟨b2, o2, none⟩) n2 c2, .slice (some ⟨b3, o3, none⟩) n3 c3, .slice (some ⟨b4, o4, none⟩) n4 c4, .slice a5 n5 c5] 30)).alloc (.cells #[.int .i64 0, .int .i64 0, .slice none 0 0, .slice none 0 0, .slice none 0 0, .slice none 0 0] 30)).drew.cell? ⟨w.heap.size, 3, none⟩ = some (.slice (some ⟨b3, o3, none⟩) n3 c3) ∧ ((w.alloc (.cells #[.int .i64 st, .int .i64 it, .slice (some ⟨b2, o2, none⟩) n2 c2, .slice (some ⟨b3, o3, none⟩) n3 c3, .slice (some ⟨b4, o4, none⟩) n4 c4, .slice a5 n5 c5] 30)).alloc (.cells #[.int .i64 0, .int .i64 0, .slice none 0 0, .slice none 0 0, .slice none 0 0, .slice none 0 0] 30)).drew.cell? ⟨w.heap.size, 4, none⟩ = some (.slice (some ⟨b4, o4, none⟩) n4 c4) := by
    have ha := V0.out.drew
    have hr := VR0.out.drew
    exact ⟨(B0.out _ _).drew, ha, hr, ha.cell rfl, ha.cell rfl, ha.cell rfl, ha.cell rfl⟩
  go_enter Try.func59, Try.ntmps59
  go_wp2_with fail
  refine wp_region_held_drew (S := fun w' => Below w.heap.size w w' ∧ VarIs w' w.heap.size #[.int .i64 st, .int .i64 it, .slice (some ⟨b2, o2, none⟩) n2 c2, .slice (some ⟨b3, o3, none⟩) n3 c3, .slice (some ⟨b4, o4, none⟩) n4 c4, .slice a5 n5 c5] 30 ∧ VarIs w' (w.heap.size + 1) #[.int .i64 0, .int .i64 0, .slice none 0 0, .slice none 0 0, .slice none 0 0, .slice none 0 0] 30 ∧ w'.cell? ⟨w.heap.size, 1, none⟩ = some (.int .i64 it) ∧ w'.cell? ⟨w.heap.size, 2, none⟩ = some (.slice (some ⟨b2, o2, none⟩) n2 c2) ∧ w'.cell? ⟨w.heap.size, 3, none⟩ = some (.slice (some ⟨b3, o3, none⟩) n3 c3) ∧ w'.cell? ⟨w.heap.size, 4, none⟩ = some (.slice (some ⟨b4, o4, none⟩) n4 c4)) (by kernel_rfl) S0 (fun hHeld => ?_)
  change wpAnyH _ _ _ _ _ 21 (Array.replicate 21 false) _ _
  refine take_op 0 8 (.slice ka kn kc) (fuel := 20) rfl rfl (by kernel_rfl) (by kernel_rfl) (by kernel_rfl) (fun _ _ _ h => h) (by rfl) (fun w hSw => by go_simp) hHeld ?_
  simp only [Act.put, List.setIfInBounds_toArray, List.set_cons_zero, List.set_cons_succ]
  refine take_op 1 9 (.int .i64 (kn : Int)) (fuel := 19) rfl rfl (by kernel_rfl) (by kernel_rfl) (by kernel_rfl) (fun _ _ _ h => h) (by rfl) (fun w hSw => by go_simp) hHeld ?_
  simp only [Act.put, List.setIfInBounds_toArray, List.set_cons_zero, List.set_cons_succ]
  refine take_op 2 10 (.slice ka kn kc) (fuel := 18) rfl rfl (by kernel_rfl) (by kernel_rfl) (by kernel_rfl) (fun _ _ _ h => h) (by rfl) (fun w hSw => by go_simp) hHeld ?_
  simp only [Act.put, List.setIfInBounds_toArray, List.set_cons_zero, List.set_cons_succ]
  refine take_op 3 11 (.pointer (some ⟨w.heap.size, 1, none⟩)) (fuel := 17) rfl rfl (by kernel_rfl) (by kernel_rfl) (by kernel_rfl) (fun _ _ _ h => h) (by rfl) (fun w hSw => by go_simp) hHeld ?_
  simp only [Act.put, List.setIfInBounds_toArray, List.set_cons_zero, List.set_cons_succ]
  refine take_op 4 12 (.int .i64 it) (fuel := 16) rfl rfl (by kernel_rfl) (by kernel_rfl) (by kernel_rfl) (fun _ _ _ h => h) (by rfl) (fun w hSw => by go_simp) hHeld ?_
  simp only [Act.put, List.setIfInBounds_toArray, List.set_cons_zero, List.set_cons_succ]
  refine take_op 7 15 (.pointer (some ⟨w.heap.size, 2, none⟩)) (fuel := 15) rfl rfl (by kernel_rfl) (by kernel_rfl) (by kernel_rfl) (fun _ _ _ h => h) (by rfl) (fun w hSw => by go_simp) hHeld ?_
  simp only [Act.put, List.setIfInBounds_toArray, List.set_cons_zero, List.set_cons_succ]
  refine take_op 8 16 (.slice (some ⟨b2, o2, none⟩) n2 c2) (fuel := 14) rfl rfl (by kernel_rfl) (by kernel_rfl) (by kernel_rfl) (fun _ _ _ h => h) (by rfl) (fun w hSw => by go_simp) hHeld ?_
  simp only [Act.put, List.setIfInBounds_toArray, List.set_cons_zero, List.set_cons_succ]
  refine take_op 11 19 (.pointer (some ⟨w.heap.size, 3, none⟩)) (fuel := 13) rfl rfl (by kernel_rfl) (by kernel_rfl) (by kernel_rfl) (fun _ _ _ h => h) (by rfl) (fun w hSw => by go_simp) hHeld ?_
  simp only [Act.put, List.setIfInBounds_toArray, List.set_cons_zero, List.set_cons_succ]
  refine take_op 12 20 (.slice (some ⟨b3, o3, none⟩) n3 c3) (fuel := 12) rfl rfl (by kernel_rfl) (by kernel_rfl) (by kernel_rfl) (fun _ _ _ h => h) (by rfl) (fun w hSw => by go_simp) hHeld ?_
  simp only [Act.put, List.setIfInBounds_toArray, List.set_cons_zero, List.set_cons_succ]
  refine take_op 15 23 (.pointer (some ⟨w.heap.size, 4, none⟩)) (fuel := 11) rfl rfl (by kernel_rfl) (by kernel_rfl) (by kernel_rfl) (fun _ _ _ h => h) (by rfl) (fun w hSw => by go_simp) hHeld ?_
  simp only [Act.put, List.setIfInBounds_toArray, List.set_cons_zero, List.set_cons_succ]
  refine take_op 16 24 (.slice (some ⟨b4, o4, none⟩) n4 c4) (fuel := 10) rfl rfl (by kernel_rfl) (by kernel_rfl) (by kernel_rfl) (fun _ _ _ h => h) (by rfl) (fun w hSw => by go_simp) hHeld ?_
  simp only [Act.put, List.setIfInBounds_toArray, List.set_cons_zero, List.set_cons_succ]

  refine anyH_from onlyL onlyF (fun s a' w' => s.1 ≤ 6 ∧ (2 ≤ s.1 → s.2.1 = true) ∧ (3 ≤ s.1 → s.2.2.1 = true) ∧ (4 ≤ s.1 → s.2.2.2.1 = true) ∧ (6 ≤ s.1 → s.2.2.2.2 = true) ∧ (Below w.heap.size w w' ∧ VarIs w' w.heap.size #[.int .i64 st, .int .i64 it, .slice (some ⟨b2, o2, none⟩) n2 c2, .slice (some ⟨b3, o3, none⟩) n3 c3, .slice (some ⟨b4, o4, none⟩) n4 c4, .slice a5 n5 c5] 30 ∧ VarIs w' (w.heap.size + 1) #[.int .i64 0, .int .i64 0, .slice none 0 0, .slice none 0 0, .slice none 0 0, .slice none 0 0] 30 ∧ w'.cell? ⟨w.heap.size, 1, none⟩ = some (.int .i64 it) ∧ w'.cell? ⟨w.heap.size, 2, none⟩ = some (.slice (some ⟨b2, o2, none⟩) n2 c2) ∧ w'.cell? ⟨w.heap.size, 3, none⟩ = some (.slice (some ⟨b3, o3, none⟩) n3 c3) ∧ w'.cell? ⟨w.heap.size, 4, none⟩ = some (.slice (some ⟨b4, o4, none⟩) n4 c4)) ∧ ∃ u5 u13 u14 u17 u18 u21 u22 u25 u26 : Value, a' = ⟨#[.agg #[.int .i64 st, .int .i64 it, .slice (some ⟨b2, o2, none⟩) n2 c2, .slice (some ⟨b3, o3, none⟩) n3 c3, .slice (some ⟨b4, o4, none⟩) n4 c4, .slice a5 n5 c5], .slice ka kn kc, .pointer (some ⟨w.heap.size, 0, none⟩), undef, .pointer (some ⟨(w.heap.size + 1), 0, none⟩), u5, undef, undef, .slice ka kn kc, .int .i64 (kn : Int), .slice ka kn kc, .pointer (some ⟨w.heap.size, 1, none⟩), .int .i64 it, u13, u14, .pointer (some ⟨w.heap.size, 2, none⟩), .slice (some ⟨b2, o2, none⟩) n2 c2, u17, u18, .pointer (some ⟨w.heap.size, 3, none⟩), .slice (some ⟨b3, o3, none⟩) n3 c3, u21, u22, .pointer (some ⟨w.heap.size, 4, none⟩), .slice (some ⟨b4, o4, none⟩) n4 c4, u25, u26, undef, undef, undef, undef, undef, undef, undef, undef, undef, undef, undef, undef, undef, undef, undef, undef, undef, undef, undef, undef, undef, undef, undef, undef, undef, undef, undef, undef, undef, undef, undef, undef, undef, undef, undef, undef, undef, undef, undef, undef, undef, undef, undef, undef, undef], []⟩ ∧ Hid (1 ≤ s.1 → u13 = .int .i64 pl) ∧ Hid (s.2.1 = true → ∃ g : Nat, u14 = .slice (some ⟨g, 0, none⟩) 0 0) ∧ Hid (s.2.2.1 = true → ∃ g : Nat, u18 = .slice (some ⟨g, 0, none⟩) 0 0) ∧ Hid (s.2.2.2.1 = true → ∃ g : Nat, u22 = .slice (some ⟨g, 0, none⟩) 0 0) ∧ Hid (2 ≤ s.1 → ∃ ad c, u17 = .slice ad n2 c ∧ RowAway w' ad n2 ins u5 ∧ ∀ q, ad = some q → 0 < n2 → w.heap.size + 2 ≤ q.block) ∧ Hid (3 ≤ s.1 → ∃ ad c, u21 = .slice ad n3 c ∧ RowAway w' ad n3 outs u5 ∧ ∀ q, ad = some q → 0 < n3 → w.heap.size + 2 ≤ q.block) ∧ Hid (4 ≤ s.1 → ∃ ad c, u25 = .slice ad n4 c ∧ RowAway w' ad n4 hids u5 ∧ ∀ q, ad = some q → 0 < n4 → w.heap.size + 2 ≤ q.block) ∧ Hid (5 ≤ s.1 → u26 = .agg #[.int .i64 (kn : Int), .int .i64 pl, u17, u21, u25, .slice none 0 0]) ∧ Hid (s.2.2.2.2 = false → u5 = undef) ∧ Hid (s.2.2.2.2 = true → ∃ b : Nat, u5 = .pointer (some ⟨b, 0, none⟩) ∧ w.heap.size + 2 ≤ b ∧ VarIs w' b (if 6 ≤ s.1 then #[.int .i64 (kn : Int), .int .i64 pl, u17, u21, u25, .slice none 0 0] else #[.int .i64 0, .int .i64 0, .slice none 0 0, .slice none 0 0, .slice none 0 0, .slice none 0 0]) 30)) ?hS ?hend ?hne ?hgo (0, false, false, false, false) (by kernel_rfl) rfl ?hJ0
  case hS => exact fun s a' w' h => h.2.2.2.2.2.1
  case hJ0 => exact ⟨by simp, fun h => absurd h (by simp), fun h => absurd h (by simp), fun h => absurd h (by simp), fun h => absurd h (by simp), S0, undef, undef, undef, undef, undef, undef, undef, undef, undef, rfl, fun h => absurd h (by simp), (fun h => by cases h), (fun h => by cases h), (fun h => by cases h), fun h => absurd h (by simp), fun h => absurd h (by simp), fun h => absurd h (by simp), fun h => absurd h (by simp), (fun _ => rfl), (fun h => by cases h)⟩
  case hne =>
    rintro ⟨p, m2, m3, m4, sv⟩ a' w2 hJ hF
    have hp6 := hJ.1
    simp only at hp6
    clear hJ
    have hpc : p = 0 ∨ p = 1 ∨ p = 2 ∨ p = 3 ∨ p = 4 ∨ p = 5 ∨ p = 6 := by omega
    rcases hpc with rfl | rfl | rfl | rfl | rfl | rfl | rfl
    · cases m2 <;> cases m3 <;> cases m4 <;> cases sv <;> exact ne_nil_of (by kernel_rfl)
    · cases m2 <;> cases m3 <;> cases m4 <;> cases sv <;> exact ne_nil_of (by kernel_rfl)
    · cases m2 <;> cases m3 <;> cases m4 <;> cases sv <;> exact ne_nil_of (by kernel_rfl)
    · cases m2 <;> cases m3 <;> cases m4 <;> cases sv <;> exact ne_nil_of (by kernel_rfl)
    · cases m2 <;> cases m3 <;> cases m4 <;> cases sv <;> exact ne_nil_of (by kernel_rfl)
    · cases m2 <;> cases m3 <;> cases m4 <;> cases sv <;> exact ne_nil_of (by kernel_rfl)
    · cases m2 with
      | false => cases m3 <;> cases m4 <;> cases sv <;> exact ne_nil_of (by kernel_rfl)
      | true =>
        cases m3 with
        | false => cases m4 <;> cases sv <;> exact ne_nil_of (by kernel_rfl)
        | true =>
          cases m4 with
          | false => cases sv <;> exact ne_nil_of (by kernel_rfl)
          | true =>
            cases sv with
            | false => exact ne_nil_of (by kernel_rfl)
            | true => exact absurd hF (by decide)
  case hgo =>
    rintro ⟨p, m2, m3, m4, sv⟩ a' w2 hJ hF i hi1
    have hp6 := hJ.1
    simp only at hp6
    have hT : onlyT (p, m2, m3, m4, sv) i = true := by
      clear hJ
      have hpc : p = 0 ∨ p = 1 ∨ p = 2 ∨ p = 3 ∨ p = 4 ∨ p = 5 ∨ p = 6 := by omega
      rcases hpc with rfl | rfl | rfl | rfl | rfl | rfl | rfl <;> cases m2 <;> cases m3 <;> cases m4 <;> cases sv <;> exact ready_all hi1 (by kernel_rfl)
    clear hp6 hi1
    simp only [onlyT, Bool.or_eq_true, Bool.and_eq_true, beq_iff_eq, Bool.not_eq_true'] at hT
    rcases hT with ((((((((⟨rfl, hp⟩ | ⟨rfl, hp⟩) | ⟨rfl, hp⟩) | ⟨rfl, hp⟩) | ⟨rfl, hp⟩) | ⟨rfl, hp⟩) | ⟨rfl, hp⟩) | ⟨rfl, hp⟩) | ⟨rfl, hp⟩) | ⟨rfl, hp⟩
    · obtain ⟨hp6, hv2, hv3, hv4, hv6, hSS, u5, u13, u14, u17, u18, u21, u22, u25, u26, rfl, F13, F14, F18, F22, F17, F21, F25, F26, F5n, F5⟩ := hJ
      obtain rfl : p = 0 := hp
      refine ⟨_, rfl, fun K hK => ?_⟩
      go_simp
      refine (CAT.out _ it hSS.1).mono ?_
      rintro e w3 ⟨rfl, hw3⟩
      obtain rfl := hw3.symm
      go_wp2_with fail
      refine hK.out (1, m2, m3, m4, sv) _ _ (by simp only [onlyF]; first | omega | (simp; omega) | (simp; done)) rfl ⟨by simp, fun h => absurd h (by simp), fun h => absurd h (by simp), fun h => absurd h (by simp), fun h => absurd h (by simp), hSS, u5, _, u14, u17, u18, u21, u22, u25, u26, rfl, (fun _ => by rw [HPL.out]), F14.out, F18.out, F22.out, fun h => absurd h (by simp), fun h => absurd h (by simp), fun h => absurd h (by simp), fun h => absurd h (by simp), F5n.out, F5.out⟩
    · obtain ⟨hp6, hv2, hv3, hv4, hv6, hSS, u5, u13, u14, u17, u18, u21, u22, u25, u26, rfl, F13, F14, F18, F22, F17, F21, F25, F26, F5n, F5⟩ := hJ
      obtain rfl : m2 = false := hp
      have hb : Below w2.heap.size w2 (w2.alloc (.cells #[] 3)) := (Below.refl _ _).alloc (Nat.le_refl _) _
      have hSS2 : Below w.heap.size w (w2.alloc (.cells #[] 3)) ∧ VarIs (w2.alloc (.cells #[] 3)) w.heap.size #[.int .i64 st, .int .i64 it, .slice (some ⟨b2, o2, none⟩) n2 c2, .slice (some ⟨b3, o3, none⟩) n3 c3, .slice (some ⟨b4, o4, none⟩) n4 c4, .slice a5 n5 c5] 30 ∧ VarIs (w2.alloc (.cells #[] 3)) (w.heap.size + 1) #[.int .i64 0, .int .i64 0, .slice none 0 0, .slice none 0 0, .slice none 0 0, .slice none 0 0] 30 ∧ (w2.alloc (.cells #[] 3)).cell? ⟨w.heap.size, 1, none⟩ = some (.int .i64 it) ∧ (w2.alloc (.cells #[] 3)).cell? ⟨w.heap.size, 2, none⟩ = some (.slice (some ⟨b2, o2, none⟩) n2 c2) ∧ (w2.alloc (.cells #[] 3)).cell? ⟨w.heap.size, 3, none⟩ = some (.slice (some ⟨b3, o3, none⟩) n3 c3) ∧ (w2.alloc (.cells #[] 3)).cell? ⟨w.heap.size, 4, none⟩ = some (.slice (some ⟨b4, o4, none⟩) n4 c4) := by
        have ha := hSS.2.1.below hb
        have hr := hSS.2.2.1.below hb
        exact ⟨hSS.1.trans (hb.mono hSS.1.size), ha, hr, ha.cell rfl, ha.cell rfl, ha.cell rfl, ha.cell rfl⟩
      refine ⟨_, rfl, fun K hK => ?_⟩
      go_simp
      refine hK.out (p, true, m3, m4, sv) _ _ (by simp only [onlyF]; first | omega | (simp; omega) | (simp; done)) rfl ⟨hp6, (fun _ => rfl), hv3, hv4, hv6, hSS2, u5, u13, _, u17, u18, u21, u22, u25, u26, rfl, F13.out, (fun _ => ⟨_, rfl⟩), F18.out, F22.out, fun h => by obtain ⟨ad, c, e, r, rz⟩ := F17.out h; exact ⟨ad, c, e, r.below hb, rz⟩, fun h => by obtain ⟨ad, c, e, r, rz⟩ := F21.out h; exact ⟨ad, c, e, r.below hb, rz⟩, fun h => by obtain ⟨ad, c, e, r, rz⟩ := F25.out h; exact ⟨ad, c, e, r.below hb, rz⟩, F26.out, F5n.out, fun h => by obtain ⟨b, e, hle, hv⟩ := F5.out h; exact ⟨b, e, hle, hv.below hb⟩⟩
    · obtain ⟨hp6, hv2, hv3, hv4, hv6, hSS, u5, u13, u14, u17, u18, u21, u22, u25, u26, rfl, F13, F14, F18, F22, F17, F21, F25, F26, F5n, F5⟩ := hJ
      obtain rfl : m3 = false := hp
      have hb : Below w2.heap.size w2 (w2.alloc (.cells #[] 3)) := (Below.refl _ _).alloc (Nat.le_refl _) _
      have hSS2 : Below w.heap.size w (w2.alloc (.cells #[] 3)) ∧ VarIs (w2.alloc (.cells #[] 3)) w.heap.size #[.int .i64 st, .int .i64 it, .slice (some ⟨b2, o2, none⟩) n2 c2, .slice (some ⟨b3, o3, none⟩) n3 c3, .slice (some ⟨b4, o4, none⟩) n4 c4, .slice a5 n5 c5] 30 ∧ VarIs (w2.alloc (.cells #[] 3)) (w.heap.size + 1) #[.int .i64 0, .int .i64 0, .slice none 0 0, .slice none 0 0, .slice none 0 0, .slice none 0 0] 30 ∧ (w2.alloc (.cells #[] 3)).cell? ⟨w.heap.size, 1, none⟩ = some (.int .i64 it) ∧ (w2.alloc (.cells #[] 3)).cell? ⟨w.heap.size, 2, none⟩ = some (.slice (some ⟨b2, o2, none⟩) n2 c2) ∧ (w2.alloc (.cells #[] 3)).cell? ⟨w.heap.size, 3, none⟩ = some (.slice (some ⟨b3, o3, none⟩) n3 c3) ∧ (w2.alloc (.cells #[] 3)).cell? ⟨w.heap.size, 4, none⟩ = some (.slice (some ⟨b4, o4, none⟩) n4 c4) := by
        have ha := hSS.2.1.below hb
        have hr := hSS.2.2.1.below hb
        exact ⟨hSS.1.trans (hb.mono hSS.1.size), ha, hr, ha.cell rfl, ha.cell rfl, ha.cell rfl, ha.cell rfl⟩
      refine ⟨_, rfl, fun K hK => ?_⟩
      go_simp
      refine hK.out (p, m2, true, m4, sv) _ _ (by simp only [onlyF]; first | omega | (simp; omega) | (simp; done)) rfl ⟨hp6, hv2, (fun _ => rfl), hv4, hv6, hSS2, u5, u13, u14, u17, _, u21, u22, u25, u26, rfl, F13.out, F14.out, (fun _ => ⟨_, rfl⟩), F22.out, fun h => by obtain ⟨ad, c, e, r, rz⟩ := F17.out h; exact ⟨ad, c, e, r.below hb, rz⟩, fun h => by obtain ⟨ad, c, e, r, rz⟩ := F21.out h; exact ⟨ad, c, e, r.below hb, rz⟩, fun h => by obtain ⟨ad, c, e, r, rz⟩ := F25.out h; exact ⟨ad, c, e, r.below hb, rz⟩, F26.out, F5n.out, fun h => by obtain ⟨b, e, hle, hv⟩ := F5.out h; exact ⟨b, e, hle, hv.below hb⟩⟩
    · obtain ⟨hp6, hv2, hv3, hv4, hv6, hSS, u5, u13, u14, u17, u18, u21, u22, u25, u26, rfl, F13, F14, F18, F22, F17, F21, F25, F26, F5n, F5⟩ := hJ
      obtain rfl : m4 = false := hp
      have hb : Below w2.heap.size w2 (w2.alloc (.cells #[] 3)) := (Below.refl _ _).alloc (Nat.le_refl _) _
      have hSS2 : Below w.heap.size w (w2.alloc (.cells #[] 3)) ∧ VarIs (w2.alloc (.cells #[] 3)) w.heap.size #[.int .i64 st, .int .i64 it, .slice (some ⟨b2, o2, none⟩) n2 c2, .slice (some ⟨b3, o3, none⟩) n3 c3, .slice (some ⟨b4, o4, none⟩) n4 c4, .slice a5 n5 c5] 30 ∧ VarIs (w2.alloc (.cells #[] 3)) (w.heap.size + 1) #[.int .i64 0, .int .i64 0, .slice none 0 0, .slice none 0 0, .slice none 0 0, .slice none 0 0] 30 ∧ (w2.alloc (.cells #[] 3)).cell? ⟨w.heap.size, 1, none⟩ = some (.int .i64 it) ∧ (w2.alloc (.cells #[] 3)).cell? ⟨w.heap.size, 2, none⟩ = some (.slice (some ⟨b2, o2, none⟩) n2 c2) ∧ (w2.alloc (.cells #[] 3)).cell? ⟨w.heap.size, 3, none⟩ = some (.slice (some ⟨b3, o3, none⟩) n3 c3) ∧ (w2.alloc (.cells #[] 3)).cell? ⟨w.heap.size, 4, none⟩ = some (.slice (some ⟨b4, o4, none⟩) n4 c4) := by
        have ha := hSS.2.1.below hb
        have hr := hSS.2.2.1.below hb
        exact ⟨hSS.1.trans (hb.mono hSS.1.size), ha, hr, ha.cell rfl, ha.cell rfl, ha.cell rfl, ha.cell rfl⟩
      refine ⟨_, rfl, fun K hK => ?_⟩
      go_simp
      refine hK.out (p, m2, m3, true, sv) _ _ (by simp only [onlyF]; first | omega | (simp; omega) | (simp; done)) rfl ⟨hp6, hv2, hv3, (fun _ => rfl), hv6, hSS2, u5, u13, u14, u17, u18, u21, _, u25, u26, rfl, F13.out, F14.out, F18.out, (fun _ => ⟨_, rfl⟩), fun h => by obtain ⟨ad, c, e, r, rz⟩ := F17.out h; exact ⟨ad, c, e, r.below hb, rz⟩, fun h => by obtain ⟨ad, c, e, r, rz⟩ := F21.out h; exact ⟨ad, c, e, r.below hb, rz⟩, fun h => by obtain ⟨ad, c, e, r, rz⟩ := F25.out h; exact ⟨ad, c, e, r.below hb, rz⟩, F26.out, F5n.out, fun h => by obtain ⟨b, e, hle, hv⟩ := F5.out h; exact ⟨b, e, hle, hv.below hb⟩⟩
    · obtain ⟨hp6, hv2, hv3, hv4, hv6, hSS, u5, u13, u14, u17, u18, u21, u22, u25, u26, rfl, F13, F14, F18, F22, F17, F21, F25, F26, F5n, F5⟩ := hJ
      obtain rfl : sv = false := hp
      have hp5 : ¬ 6 ≤ p := fun h => by have := hv6 h; cases this
      have hb : Below w2.heap.size w2 (w2.alloc (.cells #[.int .i64 0, .int .i64 0, .slice none 0 0, .slice none 0 0, .slice none 0 0, .slice none 0 0] 30)) := (Below.refl _ _).alloc (Nat.le_refl _) _
      have hrl := hSS.2.2.1.lt
      have hSS2 : Below w.heap.size w (w2.alloc (.cells #[.int .i64 0, .int .i64 0, .slice none 0 0, .slice none 0 0, .slice none 0 0, .slice none 0 0] 30)) ∧ VarIs (w2.alloc (.cells #[.int .i64 0, .int .i64 0, .slice none 0 0, .slice none 0 0, .slice none 0 0, .slice none 0 0] 30)) w.heap.size #[.int .i64 st, .int .i64 it, .slice (some ⟨b2, o2, none⟩) n2 c2, .slice (some ⟨b3, o3, none⟩) n3 c3, .slice (some ⟨b4, o4, none⟩) n4 c4, .slice a5 n5 c5] 30 ∧ VarIs (w2.alloc (.cells #[.int .i64 0, .int .i64 0, .slice none 0 0, .slice none 0 0, .slice none 0 0, .slice none 0 0] 30)) (w.heap.size + 1) #[.int .i64 0, .int .i64 0, .slice none 0 0, .slice none 0 0, .slice none 0 0, .slice none 0 0] 30 ∧ (w2.alloc (.cells #[.int .i64 0, .int .i64 0, .slice none 0 0, .slice none 0 0, .slice none 0 0, .slice none 0 0] 30)).cell? ⟨w.heap.size, 1, none⟩ = some (.int .i64 it) ∧ (w2.alloc (.cells #[.int .i64 0, .int .i64 0, .slice none 0 0, .slice none 0 0, .slice none 0 0, .slice none 0 0] 30)).cell? ⟨w.heap.size, 2, none⟩ = some (.slice (some ⟨b2, o2, none⟩) n2 c2) ∧ (w2.alloc (.cells #[.int .i64 0, .int .i64 0, .slice none 0 0, .slice none 0 0, .slice none 0 0, .slice none 0 0] 30)).cell? ⟨w.heap.size, 3, none⟩ = some (.slice (some ⟨b3, o3, none⟩) n3 c3) ∧ (w2.alloc (.cells #[.int .i64 0, .int .i64 0, .slice none 0 0, .slice none 0 0, .slice none 0 0, .slice none 0 0] 30)).cell? ⟨w.heap.size, 4, none⟩ = some (.slice (some ⟨b4, o4, none⟩) n4 c4) := by
        have ha := hSS.2.1.below hb
        have hr := hSS.2.2.1.below hb
        exact ⟨hSS.1.trans (hb.mono hSS.1.size), ha, hr, ha.cell rfl, ha.cell rfl, ha.cell rfl, ha.cell rfl⟩
      refine ⟨_, rfl, fun K hK => ?_⟩
      go_simp
      refine hK.out (p, m2, m3, m4, true) _ _ (by simp only [onlyF]; first | omega | (simp; omega) | (simp; done)) rfl ⟨hp6, hv2, hv3, hv4, (fun _ => rfl), hSS2, _, u13, u14, u17, u18, u21, u22, u25, u26, rfl, F13.out, F14.out, F18.out, F22.out, fun h => by obtain ⟨ad, c, e, r, rz⟩ := F17.out h; exact ⟨ad, c, e, ⟨r.1.below hb, fun b hb2 q hq h0 => by cases hb2; have := r.1.lt q hq h0; omega⟩, rz⟩, fun h => by obtain ⟨ad, c, e, r, rz⟩ := F21.out h; exact ⟨ad, c, e, ⟨r.1.below hb, fun b hb2 q hq h0 => by cases hb2; have := r.1.lt q hq h0; omega⟩, rz⟩, fun h => by obtain ⟨ad, c, e, r, rz⟩ := F25.out h; exact ⟨ad, c, e, ⟨r.1.below hb, fun b hb2 q hq h0 => by cases hb2; have := r.1.lt q hq h0; omega⟩, rz⟩, F26.out, (fun h => by cases h), (fun _ => ⟨w2.heap.size, rfl, by omega, by rw [if_neg hp5]; exact VarIs.new w2 #[.int .i64 0, .int .i64 0, .slice none 0 0, .slice none 0 0, .slice none 0 0, .slice none 0 0] 30 rfl⟩)⟩
    · obtain ⟨hp6, hv2, hv3, hv4, hv6, hSS, u5, u13, u14, u17, u18, u21, u22, u25, u26, rfl, F13, F14, F18, F22, F17, F21, F25, F26, F5n, F5⟩ := hJ
      obtain ⟨rfl, rfl⟩ : p = 1 ∧ m2 = true := hp
      obtain ⟨g, hgu⟩ := F14.out rfl
      subst hgu
      refine ⟨_, rfl, fun K hK => ?_⟩
      refine step_copy rfl (.tmp 14) (.tmp 16) rfl i0 Try.underlying22 hi hz0 hz1 hz2 g rfl b2 o2 n2 c2 ins rfl (R2.out.below hSS.1) f2 ?_
      intro a9 c9 w9 hr hb hloc
      have hSS2 : Below w.heap.size w w9 ∧ VarIs w9 w.heap.size #[.int .i64 st, .int .i64 it, .slice (some ⟨b2, o2, none⟩) n2 c2, .slice (some ⟨b3, o3, none⟩) n3 c3, .slice (some ⟨b4, o4, none⟩) n4 c4, .slice a5 n5 c5] 30 ∧ VarIs w9 (w.heap.size + 1) #[.int .i64 0, .int .i64 0, .slice none 0 0, .slice none 0 0, .slice none 0 0, .slice none 0 0] 30 ∧ w9.cell? ⟨w.heap.size, 1, none⟩ = some (.int .i64 it) ∧ w9.cell? ⟨w.heap.size, 2, none⟩ = some (.slice (some ⟨b2, o2, none⟩) n2 c2) ∧ w9.cell? ⟨w.heap.size, 3, none⟩ = some (.slice (some ⟨b3, o3, none⟩) n3 c3) ∧ w9.cell? ⟨w.heap.size, 4, none⟩ = some (.slice (some ⟨b4, o4, none⟩) n4 c4) := by
        have ha := hSS.2.1.below hb
        have hr := hSS.2.2.1.below hb
        exact ⟨hSS.1.trans (hb.mono hSS.1.size), ha, hr, ha.cell rfl, ha.cell rfl, ha.cell rfl, ha.cell rfl⟩
      refine hK.out (2, true, m3, m4, sv) _ _ (by simp only [onlyF]; first | omega | (simp; omega) | (simp; done)) rfl ⟨by simp, (fun _ => rfl), fun h => absurd h (by simp), fun h => absurd h (by simp), fun h => absurd h (by simp), hSS2, u5, u13, _, _, _, u21, _, u25, u26, rfl, (fun _ => F13.out (by simp)), (fun _ => ⟨_, rfl⟩), F18.out, F22.out, (fun _ => ⟨_, _, rfl, ⟨hr, fun b hb2 q hq h0 => by cases sv with | false => (have := F5n.out rfl; rw [this] at hb2; cases hb2) | true => (obtain ⟨b5, e5, _, hv5⟩ := F5.out rfl; rw [e5] at hb2; cases hb2; have := hloc q hq h0; have := hv5.lt; omega)⟩, fun q hq h0 => by have := hloc q hq h0; have := hSS.2.2.1.lt; omega⟩), fun h => absurd h (by simp), fun h => absurd h (by simp), fun h => absurd h (by simp), F5n.out, fun h => by obtain ⟨b, e, hle, hv⟩ := F5.out h; exact ⟨b, e, hle, hv.below hb⟩⟩
    · obtain ⟨hp6, hv2, hv3, hv4, hv6, hSS, u5, u13, u14, u17, u18, u21, u22, u25, u26, rfl, F13, F14, F18, F22, F17, F21, F25, F26, F5n, F5⟩ := hJ
      obtain ⟨rfl, rfl⟩ : p = 2 ∧ m3 = true := hp
      obtain ⟨g, hgu⟩ := F18.out rfl
      subst hgu
      refine ⟨_, rfl, fun K hK => ?_⟩
      refine step_copy rfl (.tmp 18) (.tmp 20) rfl i0 Try.underlying22 hi hz0 hz1 hz2 g rfl b3 o3 n3 c3 outs rfl (R3.out.below hSS.1) f3 ?_
      intro a9 c9 w9 hr hb hloc
      have hSS2 : Below w.heap.size w w9 ∧ VarIs w9 w.heap.size #[.int .i64 st, .int .i64 it, .slice (some ⟨b2, o2, none⟩) n2 c2, .slice (some ⟨b3, o3, none⟩) n3 c3, .slice (some ⟨b4, o4, none⟩) n4 c4, .slice a5 n5 c5] 30 ∧ VarIs w9 (w.heap.size + 1) #[.int .i64 0, .int .i64 0, .slice none 0 0, .slice none 0 0, .slice none 0 0, .slice none 0 0] 30 ∧ w9.cell? ⟨w.heap.size, 1, none⟩ = some (.int .i64 it) ∧ w9.cell? ⟨w.heap.size, 2, none⟩ = some (.slice (some ⟨b2, o2, none⟩) n2 c2) ∧ w9.cell? ⟨w.heap.size, 3, none⟩ = some (.slice (some ⟨b3, o3, none⟩) n3 c3) ∧ w9.cell? ⟨w.heap.size, 4, none⟩ = some (.slice (some ⟨b4, o4, none⟩) n4 c4) := by
        have ha := hSS.2.1.below hb
        have hr := hSS.2.2.1.below hb
        exact ⟨hSS.1.trans (hb.mono hSS.1.size), ha, hr, ha.cell rfl, ha.cell rfl, ha.cell rfl, ha.cell rfl⟩
      refine hK.out (3, m2, true, m4, sv) _ _ (by simp only [onlyF]; first | omega | (simp; omega) | (simp; done)) rfl ⟨by simp, (fun _ => hv2 (by simp)), (fun _ => rfl), fun h => absurd h (by simp), fun h => absurd h (by simp), hSS2, u5, u13, _, u17, _, _, _, u25, u26, rfl, (fun _ => F13.out (by simp)), F14.out, (fun _ => ⟨_, rfl⟩), F22.out, fun _ => by obtain ⟨ad, c, e, r, rz⟩ := F17.out (by simp); exact ⟨ad, c, e, r.below hb, rz⟩, (fun _ => ⟨_, _, rfl, ⟨hr, fun b hb2 q hq h0 => by cases sv with | false => (have := F5n.out rfl; rw [this] at hb2; cases hb2) | true => (obtain ⟨b5, e5, _, hv5⟩ := F5.out rfl; rw [e5] at hb2; cases hb2; have := hloc q hq h0; have := hv5.lt; omega)⟩, fun q hq h0 => by have := hloc q hq h0; have := hSS.2.2.1.lt; omega⟩), fun h => absurd h (by simp), fun h => absurd h (by simp), F5n.out, fun h => by obtain ⟨b, e, hle, hv⟩ := F5.out h; exact ⟨b, e, hle, hv.below hb⟩⟩
    · obtain ⟨hp6, hv2, hv3, hv4, hv6, hSS, u5, u13, u14, u17, u18, u21, u22, u25, u26, rfl, F13, F14, F18, F22, F17, F21, F25, F26, F5n, F5⟩ := hJ
      obtain ⟨rfl, rfl⟩ : p = 3 ∧ m4 = true := hp
      obtain ⟨g, hgu⟩ := F22.out rfl
      subst hgu
      refine ⟨_, rfl, fun K hK => ?_⟩
      refine step_copy rfl (.tmp 22) (.tmp 24) rfl i0 Try.underlying22 hi hz0 hz1 hz2 g rfl b4 o4 n4 c4 hids rfl (R4.out.below hSS.1) f4 ?_
      intro a9 c9 w9 hr hb hloc
      have hSS2 : Below w.heap.size w w9 ∧ VarIs w9 w.heap.size #[.int .i64 st, .int .i64 it, .slice (some ⟨b2, o2, none⟩) n2 c2, .slice (some ⟨b3, o3, none⟩) n3 c3, .slice (some ⟨b4, o4, none⟩) n4 c4, .slice a5 n5 c5] 30 ∧ VarIs w9 (w.heap.size + 1) #[.int .i64 0, .int .i64 0, .slice none 0 0, .slice none 0 0, .slice none 0 0, .slice none 0 0] 30 ∧ w9.cell? ⟨w.heap.size, 1, none⟩ = some (.int .i64 it) ∧ w9.cell? ⟨w.heap.size, 2, none⟩ = some (.slice (some ⟨b2, o2, none⟩) n2 c2) ∧ w9.cell? ⟨w.heap.size, 3, none⟩ = some (.slice (some ⟨b3, o3, none⟩) n3 c3) ∧ w9.cell? ⟨w.heap.size, 4, none⟩ = some (.slice (some ⟨b4, o4, none⟩) n4 c4) := by
        have ha := hSS.2.1.below hb
        have hr := hSS.2.2.1.below hb
        exact ⟨hSS.1.trans (hb.mono hSS.1.size), ha, hr, ha.cell rfl, ha.cell rfl, ha.cell rfl, ha.cell rfl⟩
      refine hK.out (4, m2, m3, true, sv) _ _ (by simp only [onlyF]; first | omega | (simp; omega) | (simp; done)) rfl ⟨by simp, (fun _ => hv2 (by simp)), (fun _ => hv3 (by simp)), (fun _ => rfl), fun h => absurd h (by simp), hSS2, u5, u13, _, u17, _, u21, _, _, u26, rfl, (fun _ => F13.out (by simp)), F14.out, F18.out, (fun _ => ⟨_, rfl⟩), fun _ => by obtain ⟨ad, c, e, r, rz⟩ := F17.out (by simp); exact ⟨ad, c, e, r.below hb, rz⟩, fun _ => by obtain ⟨ad, c, e, r, rz⟩ := F21.out (by simp); exact ⟨ad, c, e, r.below hb, rz⟩, (fun _ => ⟨_, _, rfl, ⟨hr, fun b hb2 q hq h0 => by cases sv with | false => (have := F5n.out rfl; rw [this] at hb2; cases hb2) | true => (obtain ⟨b5, e5, _, hv5⟩ := F5.out rfl; rw [e5] at hb2; cases hb2; have := hloc q hq h0; have := hv5.lt; omega)⟩, fun q hq h0 => by have := hloc q hq h0; have := hSS.2.2.1.lt; omega⟩), fun h => absurd h (by simp), F5n.out, fun h => by obtain ⟨b, e, hle, hv⟩ := F5.out h; exact ⟨b, e, hle, hv.below hb⟩⟩
    · obtain ⟨hp6, hv2, hv3, hv4, hv6, hSS, u5, u13, u14, u17, u18, u21, u22, u25, u26, rfl, F13, F14, F18, F22, F17, F21, F25, F26, F5n, F5⟩ := hJ
      obtain rfl : p = 4 := hp
      have e13 := F13.out (by simp)
      subst e13
      obtain ⟨ad2, cc2, e17, r17⟩ := F17.out (by simp)
      obtain ⟨ad3, cc3, e21, r21⟩ := F21.out (by simp)
      obtain ⟨ad4, cc4, e25, r25⟩ := F25.out (by simp)
      subst e17 e21 e25
      refine ⟨_, rfl, fun K hK => ?_⟩
      go_simp
      refine hK.out (5, m2, m3, m4, sv) _ _ (by simp only [onlyF]; first | omega | (simp; omega) | (simp; done)) rfl ⟨by simp, (fun _ => hv2 (by simp)), (fun _ => hv3 (by simp)), (fun _ => hv4 (by simp)), fun h => absurd h (by simp), hSS, u5, _, u14, _, u18, _, u22, _, _, rfl, (fun _ => rfl), F14.out, F18.out, F22.out, (fun _ => ⟨_, _, rfl, r17⟩), (fun _ => ⟨_, _, rfl, r21⟩), (fun _ => ⟨_, _, rfl, r25⟩), (fun _ => rfl), F5n.out, F5.out⟩
    · obtain ⟨hp6, hv2, hv3, hv4, hv6, hSS, u5, u13, u14, u17, u18, u21, u22, u25, u26, rfl, F13, F14, F18, F22, F17, F21, F25, F26, F5n, F5⟩ := hJ
      obtain ⟨rfl, rfl⟩ : p = 5 ∧ sv = true := hp
      obtain ⟨b, hbu, hle, hv0⟩ := F5.out rfl
      subst hbu
      have hv : VarIs w2 b #[.int .i64 0, .int .i64 0, .slice none 0 0, .slice none 0 0, .slice none 0 0, .slice none 0 0] 30 := by simpa using hv0
      have e26 := F26.out (by simp)
      subst e26
      obtain ⟨ad2, cc2, e17, r17⟩ := F17.out (by simp)
      obtain ⟨ad3, cc3, e21, r21⟩ := F21.out (by simp)
      obtain ⟨ad4, cc4, e25, r25⟩ := F25.out (by simp)
      subst e17 e21 e25
      have HGS := grown_setCells b [.int .i64 (kn : Int), .int .i64 pl, .slice ad2 n2 cc2, .slice ad3 n3 cc3, .slice ad4 n4 cc4, .slice none 0 0] 0 w2
      have hSS2 : Below w.heap.size w (w2.setCells b 0 [.int .i64 (kn : Int), .int .i64 pl, .slice ad2 n2 cc2, .slice ad3 n3 cc3, .slice ad4 n4 cc4, .slice none 0 0]) ∧ VarIs (w2.setCells b 0 [.int .i64 (kn : Int), .int .i64 pl, .slice ad2 n2 cc2, .slice ad3 n3 cc3, .slice ad4 n4 cc4, .slice none 0 0]) w.heap.size #[.int .i64 st, .int .i64 it, .slice (some ⟨b2, o2, none⟩) n2 c2, .slice (some ⟨b3, o3, none⟩) n3 c3, .slice (some ⟨b4, o4, none⟩) n4 c4, .slice a5 n5 c5] 30 ∧ VarIs (w2.setCells b 0 [.int .i64 (kn : Int), .int .i64 pl, .slice ad2 n2 cc2, .slice ad3 n3 cc3, .slice ad4 n4 cc4, .slice none 0 0]) (w.heap.size + 1) #[.int .i64 0, .int .i64 0, .slice none 0 0, .slice none 0 0, .slice none 0 0, .slice none 0 0] 30 ∧ (w2.setCells b 0 [.int .i64 (kn : Int), .int .i64 pl, .slice ad2 n2 cc2, .slice ad3 n3 cc3, .slice ad4 n4 cc4, .slice none 0 0]).cell? ⟨w.heap.size, 1, none⟩ = some (.int .i64 it) ∧ (w2.setCells b 0 [.int .i64 (kn : Int), .int .i64 pl, .slice ad2 n2 cc2, .slice ad3 n3 cc3, .slice ad4 n4 cc4, .slice none 0 0]).cell? ⟨w.heap.size, 2, none⟩ = some (.slice (some ⟨b2, o2, none⟩) n2 c2) ∧ (w2.setCells b 0 [.int .i64 (kn : Int), .int .i64 pl, .slice ad2 n2 cc2, .slice ad3 n3 cc3, .slice ad4 n4 cc4, .slice none 0 0]).cell? ⟨w.heap.size, 3, none⟩ = some (.slice (some ⟨b3, o3, none⟩) n3 c3) ∧ (w2.setCells b 0 [.int .i64 (kn : Int), .int .i64 pl, .slice ad2 n2 cc2, .slice ad3 n3 cc3, .slice ad4 n4 cc4, .slice none 0 0]).cell? ⟨w.heap.size, 4, none⟩ = some (.slice (some ⟨b4, o4, none⟩) n4 c4) := by
        have ha := hSS.2.1.grown HGS (fun e => by have := Option.some.inj e; omega)
        have hr := hSS.2.2.1.grown HGS (fun e => by have := Option.some.inj e; omega)
        exact ⟨hSS.1.grown HGS hSS.1.size (fun q hq => by have := Option.some.inj hq; omega), ha, hr, ha.cell rfl, ha.cell rfl, ha.cell rfl, ha.cell rfl⟩
      refine ⟨_, rfl, fun K hK => ?_⟩
      rw [if_pos (by rfl)]
      refine wp_store_mid _ _ _ rfl b 0 #[.int .i64 (kn : Int), .int .i64 pl, .slice ad2 n2 cc2, .slice ad3 n3 cc3, .slice ad4 n4 cc4, .slice none 0 0] rfl rfl (hv.there rfl) (by kernel_rfl) (ia_one _ _ _ _ _ _ _ _ _ _ _ _ _ _) ?_
      refine hK.out (6, m2, m3, m4, true) _ _ (by simp only [onlyF]; first | omega | (simp; omega) | (simp; done)) rfl ⟨by simp, (fun _ => hv2 (by simp)), (fun _ => hv3 (by simp)), (fun _ => hv4 (by simp)), (fun _ => rfl), hSS2, _, u13, u14, _, u18, _, u22, _, _, rfl, (fun _ => F13.out (by simp)), F14.out, F18.out, F22.out, (fun _ => ⟨_, _, rfl, ⟨r17.1.1.grown HGS (r17.1.2 b rfl), r17.1.2⟩, r17.2⟩), (fun _ => ⟨_, _, rfl, ⟨r21.1.1.grown HGS (r21.1.2 b rfl), r21.1.2⟩, r21.2⟩), (fun _ => ⟨_, _, rfl, ⟨r25.1.1.grown HGS (r25.1.2 b rfl), r25.1.2⟩, r25.2⟩), (fun _ => rfl), (fun h => by cases h), (fun _ => ⟨b, rfl, hle, by simpa using hv.sets _ _ _ _ _ _⟩)⟩
  case hend =>
    rintro ⟨p, m2, m3, m4, sv⟩ a' w2 hJ hF
    obtain ⟨hp6, hv2, hv3, hv4, hv6, hSS, u5, u13, u14, u17, u18, u21, u22, u25, u26, rfl, F13, F14, F18, F22, F17, F21, F25, F26, F5n, F5⟩ := hJ
    simp only [onlyF] at hF
    simp only at hp6 hv2 hv3 hv4 hv6
    obtain rfl : p = 6 := by omega
    obtain rfl := hv2 (by omega)
    obtain rfl := hv3 (by omega)
    obtain rfl := hv4 (by omega)
    obtain rfl := hv6 (by omega)
    refine ⟨by kernel_rfl, ?_⟩
    obtain ⟨b, hbu, hle, hvb⟩ := F5.out rfl
    obtain ⟨ad2, cc2, e17, r17⟩ := F17.out (by simp)
    obtain ⟨ad3, cc3, e21, r21⟩ := F21.out (by simp)
    obtain ⟨ad4, cc4, e25, r25⟩ := F25.out (by simp)
    subst hbu e17 e21 e25
    have HVO0 : Hid (VarIs w2 b #[.int .i64 (kn : Int), .int .i64 pl, .slice ad2 n2 cc2, .slice ad3 n3 cc3, .slice ad4 n4 cc4, .slice none 0 0] 30) := by simpa [Hid] using hvb
    have HB2 := Lib.hid hSS.1
    have HVA2 := Lib.hid hSS.2.1
    have HVR2 := Lib.hid hSS.2.2.1
    have R17 := Lib.hid r17
    have R21 := Lib.hid r21
    have R25 := Lib.hid r25
    have hbl := HVO0.out.lt
    have HW2 : Hid (w.heap.size + 2 ≤ b ∧ b < w2.heap.size ∧ w.heap.size < w2.heap.size) := ⟨hle, hbl, by omega⟩
    clear F13 F14 F18 F22 F17 F21 F25 F26 F5n F5 hF hp6 hv2 hv3 hv4 hv6 hSS hvb r17 r21 r25 S0 V0 VR0 B0
    go_wp2_with fail
    go_loopw [6] (fun i wr => ∃ (k len : Nat) (x5 : Value) (T : List St), k ≤ n5 ∧ i = .int .i64 k ∧ Hid (VarIs wr b #[.int .i64 (kn : Int), .int .i64 pl, .slice ad2 n2 cc2, .slice ad3 n3 cc3, .slice ad4 n4 cc4, x5] 30) ∧ Hid (OwnsS 49 wr w2.heap.size x5 len T) ∧ Hid (T = onlyS keep (steps.take k)) ∧ len ≤ k ∧ Hid (Below w.heap.size w wr) ∧ Hid (VarIs wr w.heap.size #[.int .i64 st, .int .i64 it, .slice (some ⟨b2, o2, none⟩) n2 c2, .slice (some ⟨b3, o3, none⟩) n3 c3, .slice (some ⟨b4, o4, none⟩) n4 c4, .slice a5 n5 c5] 30) ∧ Hid (VarIs wr (w.heap.size + 1) #[.int .i64 0, .int .i64 0, .slice none 0 0, .slice none 0 0, .slice none 0 0, .slice none 0 0] 30) ∧ Hid (Row wr ad2 n2 ins ∧ Row wr ad3 n3 outs ∧ Row wr ad4 n4 hids) ∧ w2.heap.size ≤ wr.heap.size) (fun i _ => n5 - (intOf i).toNat)
    case atStart => exact ⟨0, 0, _, [], Nat.zero_le _, rfl, HVO0.out, World.ownsRow_nil _ _ _ _, rfl, Nat.le_refl _, HB2.out, HVA2.out, HVR2.out, ⟨R17.out.1.1, R21.out.1.1, R25.out.1.1⟩, Nat.le_refl _⟩
    case round =>
      obtain ⟨k, len, x5, T, hk, rfl, HVO, HOS, HT, hlen, HB, HVA, HVR, HRW, hw2r⟩ := hrel
      clear HVO0 HB2 HVA2 HVR2
      have kb := HVA.out.cell (j := 5) rfl
      by_cases hlt : k < n5
      · obtain ⟨bs, off, rfl, hb, hcell⟩ := R5.out.2 (by omega)
        have hkx : k < steps.length := by rw [R5.out.1]; exact hlt
        obtain ⟨⟨x, y, z⟩, hs⟩ : ∃ t, t = steps[k] := ⟨_, rfl⟩
        obtain ⟨d0, d1, d2⟩ := hcell k steps[k] (List.getElem?_eq_getElem hkx)
        rw [← hs] at d0 d1 d2
        obtain ⟨px, hpx⟩ : ∃ p, p = placeOf keep x := ⟨_, rfl⟩
        obtain ⟨pz, hpz⟩ : ∃ p, p = placeOf keep z := ⟨_, rfl⟩
        have CX : Hid (∀ W, Below w.heap.size w W → Calls Try.prog 75 #[.slice ka kn kc, .int .i64 x] W fun e w' => e = .returned (.int .i64 px) ∧ w' = W) := fun W hW => by rw [hpx]; exact CAT.out W x hW
        have CZ : Hid (∀ W, Below w.heap.size w W → Calls Try.prog 75 #[.slice ka kn kc, .int .i64 z] W fun e w' => e = .returned (.int .i64 pz) ∧ w' = W) := fun W hW => by rw [hpz]; exact CAT.out W z hW
        have HST : Hid (onlyS keep (steps.take (k + 1)) = T ++ if decide (0 ≤ px) && decide (0 ≤ pz) then [(px, y, pz)] else []) := by
          unfold Hid
          rw [onlyS_step keep steps k hkx, ← hs, HT.out, hpx, hpz]
        have mk : ∀ W, Below wr.heap.size wr W → Below w.heap.size w W ∧ W.cell? ⟨w.heap.size, 5, none⟩ = some (.slice (some ⟨bs, off, none⟩) n5 c5) ∧ W.cell? ⟨bs, off + k * 3, none⟩ = some (.int .i64 x) ∧ W.cell? ⟨bs, off + k * 3 + 1, none⟩ = some (.int .i64 y) ∧ W.cell? ⟨bs, off + k * 3 + 2, none⟩ = some (.int .i64 z) := fun W hW => by
          have hB2 := HB.out.trans (hW.mono HB.out.size)
          exact ⟨hB2, (HVA.out.below hW).cell rfl, (hB2.cell (p := ⟨bs, off + k * 3, none⟩) hb).trans d0, (hB2.cell (p := ⟨bs, off + k * 3 + 1, none⟩) hb).trans d1, (hB2.cell (p := ⟨bs, off + k * 3 + 2, none⟩) hb).trans d2⟩
        have SA := mk wr.drew (Below.refl _ _).drew
        have SZ := mk (wr.alloc (.cells #[.int .i64 0, .int .i64 0, .int .i64 0] 49)).drew ((Below.refl _ _).alloc (Nat.le_refl _) _).drew
        have SY := mk (wr.alloc (.cells #[.int .i64 px, .int .i64 y, .int .i64 pz] 49)).drew ((Below.refl _ _).alloc (Nat.le_refl _) _).drew
        clear d0 d1 d2 hs hcell hpx hpz mk
        go_wp2_with fail
        refine wp_region_held_drew (S := fun w' => Below w.heap.size w w' ∧ w'.cell? ⟨w.heap.size, 5, none⟩ = some (.slice (some ⟨bs, off, none⟩) n5 c5) ∧ w'.cell? ⟨bs, off + k * 3, none⟩ = some (.int .i64 x) ∧ w'.cell? ⟨bs, off + k * 3 + 1, none⟩ = some (.int .i64 y) ∧ w'.cell? ⟨bs, off + k * 3 + 2, none⟩ = some (.int .i64 z)) (by kernel_rfl) SA (fun hHeld => ?_)
        change wpAnyH _ _ _ _ _ 25 (Array.replicate 25 false) _ _
        refine take_op 0 34 (.slice ka kn kc) (fuel := 24) rfl rfl (by kernel_rfl) (by kernel_rfl) (by kernel_rfl) (fun _ _ _ h => h) (by rfl) (fun w hSw => by go_simp) hHeld ?_
        simp only [Act.put, List.setIfInBounds_toArray, List.set_cons_zero, List.set_cons_succ]
        refine take_op 1 35 (.pointer (some ⟨w.heap.size, 5, none⟩)) (fuel := 23) rfl rfl (by kernel_rfl) (by kernel_rfl) (by kernel_rfl) (fun _ _ _ h => h) (by rfl) (fun w hSw => by go_simp) hHeld ?_
        simp only [Act.put, List.setIfInBounds_toArray, List.set_cons_zero, List.set_cons_succ]
        refine take_op 2 36 (.slice (some ⟨bs, off, none⟩) n5 c5) (fuel := 22) rfl rfl (by kernel_rfl) (by kernel_rfl) (by kernel_rfl) (fun _ _ _ h => h) (by rfl) (fun w hSw => by go_simp) hHeld ?_
        simp only [Act.put, List.setIfInBounds_toArray, List.set_cons_zero, List.set_cons_succ]
        refine take_op 3 37 (.int .i64 k) (fuel := 21) rfl rfl (by kernel_rfl) (by kernel_rfl) (by kernel_rfl) (fun _ _ _ h => h) (by rfl) (fun w hSw => by go_simp) hHeld ?_
        simp only [Act.put, List.setIfInBounds_toArray, List.set_cons_zero, List.set_cons_succ]
        refine take_op 4 38 (.pointer (some ⟨bs, off + k * 3, none⟩)) (fuel := 20) rfl rfl (by kernel_rfl) (by kernel_rfl) (by kernel_rfl) (fun _ _ _ h => h) (by rfl) (fun w hSw => by go_simp) hHeld ?_
        simp only [Act.put, List.setIfInBounds_toArray, List.set_cons_zero, List.set_cons_succ]
        refine take_op 5 39 (.pointer (some ⟨bs, off + k * 3, none⟩)) (fuel := 19) rfl rfl (by kernel_rfl) (by kernel_rfl) (by kernel_rfl) (fun _ _ _ h => h) (by rfl) (fun w hSw => by go_simp) hHeld ?_
        simp only [Act.put, List.setIfInBounds_toArray, List.set_cons_zero, List.set_cons_succ]
        refine take_op 6 40 (.int .i64 x) (fuel := 18) rfl rfl (by kernel_rfl) (by kernel_rfl) (by kernel_rfl) (fun _ _ _ h => h) (by rfl) (fun w hSw => by go_simp) hHeld ?_
        simp only [Act.put, List.setIfInBounds_toArray, List.set_cons_zero, List.set_cons_succ]
        refine take_op 8 42 (.pointer (some ⟨w.heap.size, 5, none⟩)) (fuel := 17) rfl rfl (by kernel_rfl) (by kernel_rfl) (by kernel_rfl) (fun _ _ _ h => h) (by rfl) (fun w hSw => by go_simp) hHeld ?_
        simp only [Act.put, List.setIfInBounds_toArray, List.set_cons_zero, List.set_cons_succ]
        refine take_op 9 43 (.slice (some ⟨bs, off, none⟩) n5 c5) (fuel := 16) rfl rfl (by kernel_rfl) (by kernel_rfl) (by kernel_rfl) (fun _ _ _ h => h) (by rfl) (fun w hSw => by go_simp) hHeld ?_
        simp only [Act.put, List.setIfInBounds_toArray, List.set_cons_zero, List.set_cons_succ]
        refine take_op 10 44 (.int .i64 k) (fuel := 15) rfl rfl (by kernel_rfl) (by kernel_rfl) (by kernel_rfl) (fun _ _ _ h => h) (by rfl) (fun w hSw => by go_simp) hHeld ?_
        simp only [Act.put, List.setIfInBounds_toArray, List.set_cons_zero, List.set_cons_succ]
        refine take_op 11 45 (.pointer (some ⟨bs, off + k * 3, none⟩)) (fuel := 14) rfl rfl (by kernel_rfl) (by kernel_rfl) (by kernel_rfl) (fun _ _ _ h => h) (by rfl) (fun w hSw => by go_simp) hHeld ?_
        simp only [Act.put, List.setIfInBounds_toArray, List.set_cons_zero, List.set_cons_succ]
        refine take_op 12 46 (.pointer (some ⟨bs, off + k * 3 + 1, none⟩)) (fuel := 13) rfl rfl (by kernel_rfl) (by kernel_rfl) (by kernel_rfl) (fun _ _ _ h => h) (by rfl) (fun w hSw => by go_simp) hHeld ?_
        simp only [Act.put, List.setIfInBounds_toArray, List.set_cons_zero, List.set_cons_succ]
        refine take_op 13 47 (.int .i64 y) (fuel := 12) rfl rfl (by kernel_rfl) (by kernel_rfl) (by kernel_rfl) (fun _ _ _ h => h) (by rfl) (fun w hSw => by go_simp) hHeld ?_
        simp only [Act.put, List.setIfInBounds_toArray, List.set_cons_zero, List.set_cons_succ]
        refine take_op 14 48 (.slice ka kn kc) (fuel := 11) rfl rfl (by kernel_rfl) (by kernel_rfl) (by kernel_rfl) (fun _ _ _ h => h) (by rfl) (fun w hSw => by go_simp) hHeld ?_
        simp only [Act.put, List.setIfInBounds_toArray, List.set_cons_zero, List.set_cons_succ]
        refine take_op 15 49 (.pointer (some ⟨w.heap.size, 5, none⟩)) (fuel := 10) rfl rfl (by kernel_rfl) (by kernel_rfl) (by kernel_rfl) (fun _ _ _ h => h) (by rfl) (fun w hSw => by go_simp) hHeld ?_
        simp only [Act.put, List.setIfInBounds_toArray, List.set_cons_zero, List.set_cons_succ]
        refine take_op 16 50 (.slice (some ⟨bs, off, none⟩) n5 c5) (fuel := 9) rfl rfl (by kernel_rfl) (by kernel_rfl) (by kernel_rfl) (fun _ _ _ h => h) (by rfl) (fun w hSw => by go_simp) hHeld ?_
        simp only [Act.put, List.setIfInBounds_toArray, List.set_cons_zero, List.set_cons_succ]
        refine take_op 17 51 (.int .i64 k) (fuel := 8) rfl rfl (by kernel_rfl) (by kernel_rfl) (by kernel_rfl) (fun _ _ _ h => h) (by rfl) (fun w hSw => by go_simp) hHeld ?_
        simp only [Act.put, List.setIfInBounds_toArray, List.set_cons_zero, List.set_cons_succ]
        refine take_op 18 52 (.pointer (some ⟨bs, off + k * 3, none⟩)) (fuel := 7) rfl rfl (by kernel_rfl) (by kernel_rfl) (by kernel_rfl) (fun _ _ _ h => h) (by rfl) (fun w hSw => by go_simp) hHeld ?_
        simp only [Act.put, List.setIfInBounds_toArray, List.set_cons_zero, List.set_cons_succ]
        refine take_op 19 53 (.pointer (some ⟨bs, off + k * 3 + 2, none⟩)) (fuel := 6) rfl rfl (by kernel_rfl) (by kernel_rfl) (by kernel_rfl) (fun _ _ _ h => h) (by rfl) (fun w hSw => by go_simp) hHeld ?_
        simp only [Act.put, List.setIfInBounds_toArray, List.set_cons_zero, List.set_cons_succ]
        refine take_op 20 54 (.int .i64 z) (fuel := 5) rfl rfl (by kernel_rfl) (by kernel_rfl) (by kernel_rfl) (fun _ _ _ h => h) (by rfl) (fun w hSw => by go_simp) hHeld ?_
        simp only [Act.put, List.setIfInBounds_toArray, List.set_cons_zero, List.set_cons_succ]

        refine wpAnyH_ready (rs := [7, 23]) (fuel := 4) (by kernel_rfl) (by simp) ?_
        refine AllReadyH.cons rfl (fun K hK => ?_) ?_
        · go_simp
          refine (CX.out _ SA.1).mono ?_
          rintro e w3 ⟨rfl, hw3⟩
          obtain rfl := hw3.symm
          go_wp2_with fail
          refine hK.out _ _ SA (fun hHeld => ?_)
          clear hK K
          refine wpAnyH_ready (rs := [21, 23]) (fuel := 3) (by kernel_rfl) (by simp) ?_
          refine AllReadyH.cons rfl (fun K hK => ?_) ?_
          · go_simp
            refine (CZ.out _ SA.1).mono ?_
            rintro e w3 ⟨rfl, hw3⟩
            obtain rfl := hw3.symm
            go_wp2_with fail
            refine hK.out _ _ SA (fun hHeld => ?_)
            clear hK K
            refine take_op 22 56 (.agg #[.int .i64 px, .int .i64 y, .int .i64 pz]) (fuel := 2) rfl rfl (by kernel_rfl) (by kernel_rfl) (by kernel_rfl) (fun _ _ _ h => h) (by rfl) (fun w hSw => by go_simp) hHeld ?_
            simp only [Act.put, List.setIfInBounds_toArray, List.set_cons_zero, List.set_cons_succ]
            refine wpAnyH_ready (rs := [23]) (fuel := 1) (by kernel_rfl) (by simp) ?_
            refine AllReadyH.cons rfl (fun K hK => ?_) AllReadyH.nil
            go_simp
            refine hK.out _ _ SZ (fun hHeld => ?_)
            clear hK K
            refine wpAnyH_ready (rs := [24]) (fuel := 0) (by kernel_rfl) (by simp) ?_
            refine AllReadyH.cons rfl (fun K hK => ?_) AllReadyH.nil
            go_simp
            refine hK.out _ _ SY (fun hHeld => ?_)
            clear hK K
            refine wpAnyH_done (by kernel_rfl) ?_ _
            clear hHeld SA SZ SY
            have xv := VarIs.new wr #[.int .i64 px, .int .i64 y, .int .i64 pz] 49 rfl
            have q0 := xv.drew.cell (j := 0) rfl
            have q1 := xv.drew.cell (j := 1) rfl
            have q2 := xv.drew.cell (j := 2) rfl
            clear xv
            have bwy : Below wr.heap.size wr (wr.alloc (.cells #[.int .i64 px, .int .i64 y, .int .i64 pz] 49)).drew := ((Below.refl _ _).alloc (Nat.le_refl _) _).drew
            have BY := Lib.hid (HB.out.trans (bwy.mono HB.out.size))
            have VOY := Lib.hid (HVO.out.below bwy)
            have OSY := Lib.hid (HOS.out.below bwy)
            have VAY := Lib.hid (HVA.out.below bwy)
            have VRY := Lib.hid (HVR.out.below bwy)
            have RWY : Hid (Row (wr.alloc (.cells #[.int .i64 px, .int .i64 y, .int .i64 pz] 49)).drew ad2 n2 ins ∧ Row (wr.alloc (.cells #[.int .i64 px, .int .i64 y, .int .i64 pz] 49)).drew ad3 n3 outs ∧ Row (wr.alloc (.cells #[.int .i64 px, .int .i64 y, .int .i64 pz] 49)).drew ad4 n4 hids) := ⟨HRW.out.1.below bwy, HRW.out.2.1.below bwy, HRW.out.2.2.below bwy⟩
            clear bwy
            by_cases hx0 : 0 ≤ px
            · have hdx : decide ((0 : Int) ≤ px) = true := by simp [hx0]
              by_cases hz0' : 0 ≤ pz
              · have hdz : decide ((0 : Int) ≤ pz) = true := by simp [hz0']
                have HT2 : Hid (T ++ [(px, y, pz)] = onlyS keep (steps.take (k + 1))) := by
                  have := HST.out
                  rw [hdx, hdz] at this
                  unfold Hid
                  simpa using this.symm
                clear hx0 hz0'
                have bcell := VOY.out.cell (j := 5) rfl
                have hwl := VAY.out.lt
                have hw2 := HW2.out
                have bw2 : Below wr.heap.size wr (((wr.alloc (.cells #[.int .i64 px, .int .i64 y, .int .i64 pz] 49)).alloc (.cells #[.int .i64 px, .int .i64 y, .int .i64 pz] 49)).drew) := (((Below.refl _ _).alloc (Nat.le_refl _) _).alloc (by simp) _).drew
                have B2 := Lib.hid (HB.out.trans (bw2.mono HB.out.size))
                have VO2 := Lib.hid (HVO.out.below bw2)
                have VA2 := Lib.hid (HVA.out.below bw2)
                have VR2 := Lib.hid (HVR.out.below bw2)
                have RW2 : Hid (Row (((wr.alloc (.cells #[.int .i64 px, .int .i64 y, .int .i64 pz] 49)).alloc (.cells #[.int .i64 px, .int .i64 y, .int .i64 pz] 49)).drew) ad2 n2 ins ∧ Row (((wr.alloc (.cells #[.int .i64 px, .int .i64 y, .int .i64 pz] 49)).alloc (.cells #[.int .i64 px, .int .i64 y, .int .i64 pz] 49)).drew) ad3 n3 outs ∧ Row (((wr.alloc (.cells #[.int .i64 px, .int .i64 y, .int .i64 pz] 49)).alloc (.cells #[.int .i64 px, .int .i64 y, .int .i64 pz] 49)).drew) ad4 n4 hids) := ⟨HRW.out.1.below bw2, HRW.out.2.1.below bw2, HRW.out.2.2.below bw2⟩
                have T1 := HOS.out.below bw2
                have olt := HOS.out.lt
                have S1 : SrcS (((wr.alloc (.cells #[.int .i64 px, .int .i64 y, .int .i64 pz] 49)).alloc (.cells #[.int .i64 px, .int .i64 y, .int .i64 pz] 49)).drew) (some ⟨wr.heap.size + 1, 0, none⟩) 1 1 [(px, y, pz)] := srcS_of rfl (fun j s hs => by
                  have hv : VarIs (((wr.alloc (.cells #[.int .i64 px, .int .i64 y, .int .i64 pz] 49)).alloc (.cells #[.int .i64 px, .int .i64 y, .int .i64 pz] 49)).drew) (wr.heap.size + 1) #[.int .i64 px, .int .i64 y, .int .i64 pz] 49 := (VarIs.new (wr.alloc (.cells #[.int .i64 px, .int .i64 y, .int .i64 pz] 49)) #[.int .i64 px, .int .i64 y, .int .i64 pz] 49 (by simp)).drew
                  match j, hs with
                  | 0, hs => simp at hs; subst hs; exact ⟨hv.cell rfl, hv.cell rfl, hv.cell rfl⟩
                  | j + 1, hs => simp at hs)
                clear bw2
                go_wp2_with (at_builtin; refine wpList_appS rfl (.tmp 66) (.tmp 68) 28 49 rfl w2.heap.size j0 Try.underlying28 hj hj0 hj1 hj2 x5 len T rfl T1 (some ⟨wr.heap.size + 1, 0, none⟩) 1 1 [(px, y, pz)] rfl S1 (by omega) (by simp; omega) ?_)
                rintro v4 w4 ⟨hown4, hgrow4, hnil4⟩
                obtain ⟨av4, cv4, rfl⟩ := hown4.form
                have VB4 := Lib.hid (VO2.out.grown hgrow4 (fun e => by have := (olt _ e.symm).1; omega))
                have VA4 := Lib.hid (VA2.out.grown hgrow4 (fun e => by have := (olt _ e.symm).1; omega))
                have VR4 := Lib.hid (VR2.out.grown hgrow4 (fun e => by have := (olt _ e.symm).1; omega))
                have B4 := Lib.hid (B2.out.grown hgrow4 B2.out.size (fun q hq => by have := (olt q hq).1; omega))
                have RW4 : Hid (Row w4 ad2 n2 ins ∧ Row w4 ad3 n3 outs ∧ Row w4 ad4 n4 hids) := ⟨RW2.out.1.grownAny hgrow4 (fun q hq h0 e => by have := (olt _ e.symm).1; have := R17.out.1.1.lt q hq h0; omega), RW2.out.2.1.grownAny hgrow4 (fun q hq h0 e => by have := (olt _ e.symm).1; have := R21.out.1.1.lt q hq h0; omega), RW2.out.2.2.grownAny hgrow4 (fun q hq h0 e => by have := (olt _ e.symm).1; have := R25.out.1.1.lt q hq h0; omega)⟩
                have hg5 : World.grownBy w4 (w4.setCell ⟨b, 5, none⟩ (.slice av4 (len + 1) cv4)) (some b) := ⟨rfl, rfl, rfl, by simp, fun q _ hq => heap_setCell_other w4 ⟨b, 5, none⟩ q (.slice av4 (len + 1) cv4) (fun e => hq (by simp [e]))⟩
                have VB5 : Hid (VarIs (w4.setCell ⟨b, 5, none⟩ (.slice av4 (len + 1) cv4)) b #[.int .i64 (kn : Int), .int .i64 pl, .slice ad2 n2 cc2, .slice ad3 n3 cc3, .slice ad4 n4 cc4, .slice av4 (len + 1) cv4] 30) := VB4.out.set 5 (.slice av4 (len + 1) cv4)
                have OS5 : Hid (OwnsS 49 (w4.setCell ⟨b, 5, none⟩ (.slice av4 (len + 1) cv4)) w2.heap.size (.slice av4 (len + 1) cv4) (len + 1) (T ++ [(px, y, pz)])) := hown4.keep hg5 (fun q hq e => by have := (hown4.lt q hq).1; have := Option.some.inj e; omega)
                have VA5 := Lib.hid (VA4.out.grown hg5 (fun e => by have := Option.some.inj e; omega))
                have VR5 := Lib.hid (VR4.out.grown hg5 (fun e => by have := Option.some.inj e; omega))
                have B5 := Lib.hid (B4.out.grown hg5 B4.out.size (fun q hq => by have := Option.some.inj hq; omega))
                have RW5 : Hid (Row (w4.setCell ⟨b, 5, none⟩ (.slice av4 (len + 1) cv4)) ad2 n2 ins ∧ Row (w4.setCell ⟨b, 5, none⟩ (.slice av4 (len + 1) cv4)) ad3 n3 outs ∧ Row (w4.setCell ⟨b, 5, none⟩ (.slice av4 (len + 1) cv4)) ad4 n4 hids) := ⟨RW4.out.1.grown hg5 (R17.out.1.2 b rfl), RW4.out.2.1.grown hg5 (R21.out.1.2 b rfl), RW4.out.2.2.grown hg5 (R25.out.1.2 b rfl)⟩
                have hs4 : w2.heap.size ≤ w4.heap.size := by
                  have h1 := hgrow4.size
                  have h2 : (((wr.alloc (.cells #[.int .i64 px, .int .i64 y, .int .i64 pz] 49)).alloc (.cells #[.int .i64 px, .int .i64 y, .int .i64 pz] 49)).drew).heap.size = wr.heap.size + 1 + 1 := by simp
                  rw [h2] at h1
                  omega
                have kc := VB4.out.cell (j := 5) rfl
                have kf := VB4.out.frozen 5
                clear hown4 hgrow4 hnil4 hg5 T1 S1 bcell
                go_wp2_with fail
                go_roundw
                case rel => exact ⟨k + 1, len + 1, (.slice av4 (len + 1) cv4), T ++ [(px, y, pz)], by omega, by go_num, VB5.out, OS5.out, HT2.out, by omega, B5.out, VA5.out, VR5.out, RW5.out, by simp; omega⟩
                case measure => simp [intOf]; omega
              · have hdz : decide ((0 : Int) ≤ pz) = false := by simp; omega
                have HT2 : Hid (T = onlyS keep (steps.take (k + 1))) := by
                  have := HST.out
                  rw [hdz] at this
                  unfold Hid
                  simpa using this.symm
                clear hx0 hz0'
                go_wp2_with fail
                go_roundw
                case rel => exact ⟨k + 1, len, x5, T, by omega, by go_num, VOY.out, OSY.out, HT2.out, by omega, BY.out, VAY.out, VRY.out, RWY.out, by simp; omega⟩
                case measure => simp [intOf]; omega
            · have hdx : decide ((0 : Int) ≤ px) = false := by simp; omega
              have HT2 : Hid (T = onlyS keep (steps.take (k + 1))) := by
                have := HST.out
                rw [hdx] at this
                unfold Hid
                simpa using this.symm
              clear hx0
              go_wp2_with fail
              go_roundw
              case rel => exact ⟨k + 1, len, x5, T, by omega, by go_num, VOY.out, OSY.out, HT2.out, by omega, BY.out, VAY.out, VRY.out, RWY.out, by simp; omega⟩
              case measure => simp [intOf]; omega

          · refine AllReadyH.cons rfl (fun K hK => ?_) AllReadyH.nil
            go_simp
            refine hK.out _ _ SZ (fun hHeld => ?_)
            clear hK K
            refine wpAnyH_ready (rs := [21]) (fuel := 2) (by kernel_rfl) (by simp) ?_
            refine AllReadyH.cons rfl (fun K hK => ?_) AllReadyH.nil
            go_simp
            refine (CZ.out _ SZ.1).mono ?_
            rintro e w3 ⟨rfl, hw3⟩
            obtain rfl := hw3.symm
            go_wp2_with fail
            refine hK.out _ _ SZ (fun hHeld => ?_)
            clear hK K
            refine take_op 22 56 (.agg #[.int .i64 px, .int .i64 y, .int .i64 pz]) (fuel := 1) rfl rfl (by kernel_rfl) (by kernel_rfl) (by kernel_rfl) (fun _ _ _ h => h) (by rfl) (fun w hSw => by go_simp) hHeld ?_
            simp only [Act.put, List.setIfInBounds_toArray, List.set_cons_zero, List.set_cons_succ]
            refine wpAnyH_ready (rs := [24]) (fuel := 0) (by kernel_rfl) (by simp) ?_
            refine AllReadyH.cons rfl (fun K hK => ?_) AllReadyH.nil
            go_simp
            refine hK.out _ _ SY (fun hHeld => ?_)
            clear hK K
            refine wpAnyH_done (by kernel_rfl) ?_ _
            clear hHeld SA SZ SY
            have xv := VarIs.new wr #[.int .i64 px, .int .i64 y, .int .i64 pz] 49 rfl
            have q0 := xv.drew.cell (j := 0) rfl
            have q1 := xv.drew.cell (j := 1) rfl
            have q2 := xv.drew.cell (j := 2) rfl
            clear xv
            have bwy : Below wr.heap.size wr (wr.alloc (.cells #[.int .i64 px, .int .i64 y, .int .i64 pz] 49)).drew := ((Below.refl _ _).alloc (Nat.le_refl _) _).drew
            have BY := Lib.hid (HB.out.trans (bwy.mono HB.out.size))
            have VOY := Lib.hid (HVO.out.below bwy)
            have OSY := Lib.hid (HOS.out.below bwy)
            have VAY := Lib.hid (HVA.out.below bwy)
            have VRY := Lib.hid (HVR.out.below bwy)
            have RWY : Hid (Row (wr.alloc (.cells #[.int .i64 px, .int .i64 y, .int .i64 pz] 49)).drew ad2 n2 ins ∧ Row (wr.alloc (.cells #[.int .i64 px, .int .i64 y, .int .i64 pz] 49)).drew ad3 n3 outs ∧ Row (wr.alloc (.cells #[.int .i64 px, .int .i64 y, .int .i64 pz] 49)).drew ad4 n4 hids) := ⟨HRW.out.1.below bwy, HRW.out.2.1.below bwy, HRW.out.2.2.below bwy⟩
            clear bwy
            by_cases hx0 : 0 ≤ px
            · have hdx : decide ((0 : Int) ≤ px) = true := by simp [hx0]
              by_cases hz0' : 0 ≤ pz
              · have hdz : decide ((0 : Int) ≤ pz) = true := by simp [hz0']
                have HT2 : Hid (T ++ [(px, y, pz)] = onlyS keep (steps.take (k + 1))) := by
                  have := HST.out
                  rw [hdx, hdz] at this
                  unfold Hid
                  simpa using this.symm
                clear hx0 hz0'
                have bcell := VOY.out.cell (j := 5) rfl
                have hwl := VAY.out.lt
                have hw2 := HW2.out
                have bw2 : Below wr.heap.size wr (((wr.alloc (.cells #[.int .i64 px, .int .i64 y, .int .i64 pz] 49)).alloc (.cells #[.int .i64 px, .int .i64 y, .int .i64 pz] 49)).drew) := (((Below.refl _ _).alloc (Nat.le_refl _) _).alloc (by simp) _).drew
                have B2 := Lib.hid (HB.out.trans (bw2.mono HB.out.size))
                have VO2 := Lib.hid (HVO.out.below bw2)
                have VA2 := Lib.hid (HVA.out.below bw2)
                have VR2 := Lib.hid (HVR.out.below bw2)
                have RW2 : Hid (Row (((wr.alloc (.cells #[.int .i64 px, .int .i64 y, .int .i64 pz] 49)).alloc (.cells #[.int .i64 px, .int .i64 y, .int .i64 pz] 49)).drew) ad2 n2 ins ∧ Row (((wr.alloc (.cells #[.int .i64 px, .int .i64 y, .int .i64 pz] 49)).alloc (.cells #[.int .i64 px, .int .i64 y, .int .i64 pz] 49)).drew) ad3 n3 outs ∧ Row (((wr.alloc (.cells #[.int .i64 px, .int .i64 y, .int .i64 pz] 49)).alloc (.cells #[.int .i64 px, .int .i64 y, .int .i64 pz] 49)).drew) ad4 n4 hids) := ⟨HRW.out.1.below bw2, HRW.out.2.1.below bw2, HRW.out.2.2.below bw2⟩
                have T1 := HOS.out.below bw2
                have olt := HOS.out.lt
                have S1 : SrcS (((wr.alloc (.cells #[.int .i64 px, .int .i64 y, .int .i64 pz] 49)).alloc (.cells #[.int .i64 px, .int .i64 y, .int .i64 pz] 49)).drew) (some ⟨wr.heap.size + 1, 0, none⟩) 1 1 [(px, y, pz)] := srcS_of rfl (fun j s hs => by
                  have hv : VarIs (((wr.alloc (.cells #[.int .i64 px, .int .i64 y, .int .i64 pz] 49)).alloc (.cells #[.int .i64 px, .int .i64 y, .int .i64 pz] 49)).drew) (wr.heap.size + 1) #[.int .i64 px, .int .i64 y, .int .i64 pz] 49 := (VarIs.new (wr.alloc (.cells #[.int .i64 px, .int .i64 y, .int .i64 pz] 49)) #[.int .i64 px, .int .i64 y, .int .i64 pz] 49 (by simp)).drew
                  match j, hs with
                  | 0, hs => simp at hs; subst hs; exact ⟨hv.cell rfl, hv.cell rfl, hv.cell rfl⟩
                  | j + 1, hs => simp at hs)
                clear bw2
                go_wp2_with (at_builtin; refine wpList_appS rfl (.tmp 66) (.tmp 68) 28 49 rfl w2.heap.size j0 Try.underlying28 hj hj0 hj1 hj2 x5 len T rfl T1 (some ⟨wr.heap.size + 1, 0, none⟩) 1 1 [(px, y, pz)] rfl S1 (by omega) (by simp; omega) ?_)
                rintro v4 w4 ⟨hown4, hgrow4, hnil4⟩
                obtain ⟨av4, cv4, rfl⟩ := hown4.form
                have VB4 := Lib.hid (VO2.out.grown hgrow4 (fun e => by have := (olt _ e.symm).1; omega))
                have VA4 := Lib.hid (VA2.out.grown hgrow4 (fun e => by have := (olt _ e.symm).1; omega))
                have VR4 := Lib.hid (VR2.out.grown hgrow4 (fun e => by have := (olt _ e.symm).1; omega))
                have B4 := Lib.hid (B2.out.grown hgrow4 B2.out.size (fun q hq => by have := (olt q hq).1; omega))
                have RW4 : Hid (Row w4 ad2 n2 ins ∧ Row w4 ad3 n3 outs ∧ Row w4 ad4 n4 hids) := ⟨RW2.out.1.grownAny hgrow4 (fun q hq h0 e => by have := (olt _ e.symm).1; have := R17.out.1.1.lt q hq h0; omega), RW2.out.2.1.grownAny hgrow4 (fun q hq h0 e => by have := (olt _ e.symm).1; have := R21.out.1.1.lt q hq h0; omega), RW2.out.2.2.grownAny hgrow4 (fun q hq h0 e => by have := (olt _ e.symm).1; have := R25.out.1.1.lt q hq h0; omega)⟩
                have hg5 : World.grownBy w4 (w4.setCell ⟨b, 5, none⟩ (.slice av4 (len + 1) cv4)) (some b) := ⟨rfl, rfl, rfl, by simp, fun q _ hq => heap_setCell_other w4 ⟨b, 5, none⟩ q (.slice av4 (len + 1) cv4) (fun e => hq (by simp [e]))⟩
                have VB5 : Hid (VarIs (w4.setCell ⟨b, 5, none⟩ (.slice av4 (len + 1) cv4)) b #[.int .i64 (kn : Int), .int .i64 pl, .slice ad2 n2 cc2, .slice ad3 n3 cc3, .slice ad4 n4 cc4, .slice av4 (len + 1) cv4] 30) := VB4.out.set 5 (.slice av4 (len + 1) cv4)
                have OS5 : Hid (OwnsS 49 (w4.setCell ⟨b, 5, none⟩ (.slice av4 (len + 1) cv4)) w2.heap.size (.slice av4 (len + 1) cv4) (len + 1) (T ++ [(px, y, pz)])) := hown4.keep hg5 (fun q hq e => by have := (hown4.lt q hq).1; have := Option.some.inj e; omega)
                have VA5 := Lib.hid (VA4.out.grown hg5 (fun e => by have := Option.some.inj e; omega))
                have VR5 := Lib.hid (VR4.out.grown hg5 (fun e => by have := Option.some.inj e; omega))
                have B5 := Lib.hid (B4.out.grown hg5 B4.out.size (fun q hq => by have := Option.some.inj hq; omega))
                have RW5 : Hid (Row (w4.setCell ⟨b, 5, none⟩ (.slice av4 (len + 1) cv4)) ad2 n2 ins ∧ Row (w4.setCell ⟨b, 5, none⟩ (.slice av4 (len + 1) cv4)) ad3 n3 outs ∧ Row (w4.setCell ⟨b, 5, none⟩ (.slice av4 (len + 1) cv4)) ad4 n4 hids) := ⟨RW4.out.1.grown hg5 (R17.out.1.2 b rfl), RW4.out.2.1.grown hg5 (R21.out.1.2 b rfl), RW4.out.2.2.grown hg5 (R25.out.1.2 b rfl)⟩
                have hs4 : w2.heap.size ≤ w4.heap.size := by
                  have h1 := hgrow4.size
                  have h2 : (((wr.alloc (.cells #[.int .i64 px, .int .i64 y, .int .i64 pz] 49)).alloc (.cells #[.int .i64 px, .int .i64 y, .int .i64 pz] 49)).drew).heap.size = wr.heap.size + 1 + 1 := by simp
                  rw [h2] at h1
                  omega
                have kc := VB4.out.cell (j := 5) rfl
                have kf := VB4.out.frozen 5
                clear hown4 hgrow4 hnil4 hg5 T1 S1 bcell
                go_wp2_with fail
                go_roundw
                case rel => exact ⟨k + 1, len + 1, (.slice av4 (len + 1) cv4), T ++ [(px, y, pz)], by omega, by go_num, VB5.out, OS5.out, HT2.out, by omega, B5.out, VA5.out, VR5.out, RW5.out, by simp; omega⟩
                case measure => simp [intOf]; omega
              · have hdz : decide ((0 : Int) ≤ pz) = false := by simp; omega
                have HT2 : Hid (T = onlyS keep (steps.take (k + 1))) := by
                  have := HST.out
                  rw [hdz] at this
                  unfold Hid
                  simpa using this.symm
                clear hx0 hz0'
                go_wp2_with fail
                go_roundw
                case rel => exact ⟨k + 1, len, x5, T, by omega, by go_num, VOY.out, OSY.out, HT2.out, by omega, BY.out, VAY.out, VRY.out, RWY.out, by simp; omega⟩
                case measure => simp [intOf]; omega
            · have hdx : decide ((0 : Int) ≤ px) = false := by simp; omega
              have HT2 : Hid (T = onlyS keep (steps.take (k + 1))) := by
                have := HST.out
                rw [hdx] at this
                unfold Hid
                simpa using this.symm
              clear hx0
              go_wp2_with fail
              go_roundw
              case rel => exact ⟨k + 1, len, x5, T, by omega, by go_num, VOY.out, OSY.out, HT2.out, by omega, BY.out, VAY.out, VRY.out, RWY.out, by simp; omega⟩
              case measure => simp [intOf]; omega

        · refine AllReadyH.cons rfl (fun K hK => ?_) AllReadyH.nil
          go_simp
          refine hK.out _ _ SZ (fun hHeld => ?_)
          clear hK K
          refine wpAnyH_ready (rs := [7]) (fuel := 3) (by kernel_rfl) (by simp) ?_
          refine AllReadyH.cons rfl (fun K hK => ?_) AllReadyH.nil
          go_simp
          refine (CX.out _ SZ.1).mono ?_
          rintro e w3 ⟨rfl, hw3⟩
          obtain rfl := hw3.symm
          go_wp2_with fail
          refine hK.out _ _ SZ (fun hHeld => ?_)
          clear hK K
          refine wpAnyH_ready (rs := [21]) (fuel := 2) (by kernel_rfl) (by simp) ?_
          refine AllReadyH.cons rfl (fun K hK => ?_) AllReadyH.nil
          go_simp
          refine (CZ.out _ SZ.1).mono ?_
          rintro e w3 ⟨rfl, hw3⟩
          obtain rfl := hw3.symm
          go_wp2_with fail
          refine hK.out _ _ SZ (fun hHeld => ?_)
          clear hK K
          refine take_op 22 56 (.agg #[.int .i64 px, .int .i64 y, .int .i64 pz]) (fuel := 1) rfl rfl (by kernel_rfl) (by kernel_rfl) (by kernel_rfl) (fun _ _ _ h => h) (by rfl) (fun w hSw => by go_simp) hHeld ?_
          simp only [Act.put, List.setIfInBounds_toArray, List.set_cons_zero, List.set_cons_succ]
          refine wpAnyH_ready (rs := [24]) (fuel := 0) (by kernel_rfl) (by simp) ?_
          refine AllReadyH.cons rfl (fun K hK => ?_) AllReadyH.nil
          go_simp
          refine hK.out _ _ SY (fun hHeld => ?_)
          clear hK K
          refine wpAnyH_done (by kernel_rfl) ?_ _
          clear hHeld SA SZ SY
          have xv := VarIs.new wr #[.int .i64 px, .int .i64 y, .int .i64 pz] 49 rfl
          have q0 := xv.drew.cell (j := 0) rfl
          have q1 := xv.drew.cell (j := 1) rfl
          have q2 := xv.drew.cell (j := 2) rfl
          clear xv
          have bwy : Below wr.heap.size wr (wr.alloc (.cells #[.int .i64 px, .int .i64 y, .int .i64 pz] 49)).drew := ((Below.refl _ _).alloc (Nat.le_refl _) _).drew
          have BY := Lib.hid (HB.out.trans (bwy.mono HB.out.size))
          have VOY := Lib.hid (HVO.out.below bwy)
          have OSY := Lib.hid (HOS.out.below bwy)
          have VAY := Lib.hid (HVA.out.below bwy)
          have VRY := Lib.hid (HVR.out.below bwy)
          have RWY : Hid (Row (wr.alloc (.cells #[.int .i64 px, .int .i64 y, .int .i64 pz] 49)).drew ad2 n2 ins ∧ Row (wr.alloc (.cells #[.int .i64 px, .int .i64 y, .int .i64 pz] 49)).drew ad3 n3 outs ∧ Row (wr.alloc (.cells #[.int .i64 px, .int .i64 y, .int .i64 pz] 49)).drew ad4 n4 hids) := ⟨HRW.out.1.below bwy, HRW.out.2.1.below bwy, HRW.out.2.2.below bwy⟩
          clear bwy
          by_cases hx0 : 0 ≤ px
          · have hdx : decide ((0 : Int) ≤ px) = true := by simp [hx0]
            by_cases hz0' : 0 ≤ pz
            · have hdz : decide ((0 : Int) ≤ pz) = true := by simp [hz0']
              have HT2 : Hid (T ++ [(px, y, pz)] = onlyS keep (steps.take (k + 1))) := by
                have := HST.out
                rw [hdx, hdz] at this
                unfold Hid
                simpa using this.symm
              clear hx0 hz0'
              have bcell := VOY.out.cell (j := 5) rfl
              have hwl := VAY.out.lt
              have hw2 := HW2.out
              have bw2 : Below wr.heap.size wr (((wr.alloc (.cells #[.int .i64 px, .int .i64 y, .int .i64 pz] 49)).alloc (.cells #[.int .i64 px, .int .i64 y, .int .i64 pz] 49)).drew) := (((Below.refl _ _).alloc (Nat.le_refl _) _).alloc (by simp) _).drew
              have B2 := Lib.hid (HB.out.trans (bw2.mono HB.out.size))
              have VO2 := Lib.hid (HVO.out.below bw2)
              have VA2 := Lib.hid (HVA.out.below bw2)
              have VR2 := Lib.hid (HVR.out.below bw2)
              have RW2 : Hid (Row (((wr.alloc (.cells #[.int .i64 px, .int .i64 y, .int .i64 pz] 49)).alloc (.cells #[.int .i64 px, .int .i64 y, .int .i64 pz] 49)).drew) ad2 n2 ins ∧ Row (((wr.alloc (.cells #[.int .i64 px, .int .i64 y, .int .i64 pz] 49)).alloc (.cells #[.int .i64 px, .int .i64 y, .int .i64 pz] 49)).drew) ad3 n3 outs ∧ Row (((wr.alloc (.cells #[.int .i64 px, .int .i64 y, .int .i64 pz] 49)).alloc (.cells #[.int .i64 px, .int .i64 y, .int .i64 pz] 49)).drew) ad4 n4 hids) := ⟨HRW.out.1.below bw2, HRW.out.2.1.below bw2, HRW.out.2.2.below bw2⟩
              have T1 := HOS.out.below bw2
              have olt := HOS.out.lt
              have S1 : SrcS (((wr.alloc (.cells #[.int .i64 px, .int .i64 y, .int .i64 pz] 49)).alloc (.cells #[.int .i64 px, .int .i64 y, .int .i64 pz] 49)).drew) (some ⟨wr.heap.size + 1, 0, none⟩) 1 1 [(px, y, pz)] := srcS_of rfl (fun j s hs => by
                have hv : VarIs (((wr.alloc (.cells #[.int .i64 px, .int .i64 y, .int .i64 pz] 49)).alloc (.cells #[.int .i64 px, .int .i64 y, .int .i64 pz] 49)).drew) (wr.heap.size + 1) #[.int .i64 px, .int .i64 y, .int .i64 pz] 49 := (VarIs.new (wr.alloc (.cells #[.int .i64 px, .int .i64 y, .int .i64 pz] 49)) #[.int .i64 px, .int .i64 y, .int .i64 pz] 49 (by simp)).drew
                match j, hs with
                | 0, hs => simp at hs; subst hs; exact ⟨hv.cell rfl, hv.cell rfl, hv.cell rfl⟩
                | j + 1, hs => simp at hs)
              clear bw2
              go_wp2_with (at_builtin; refine wpList_appS rfl (.tmp 66) (.tmp 68) 28 49 rfl w2.heap.size j0 Try.underlying28 hj hj0 hj1 hj2 x5 len T rfl T1 (some ⟨wr.heap.size + 1, 0, none⟩) 1 1 [(px, y, pz)] rfl S1 (by omega) (by simp; omega) ?_)
              rintro v4 w4 ⟨hown4, hgrow4, hnil4⟩
              obtain ⟨av4, cv4, rfl⟩ := hown4.form
              have VB4 := Lib.hid (VO2.out.grown hgrow4 (fun e => by have := (olt _ e.symm).1; omega))
              have VA4 := Lib.hid (VA2.out.grown hgrow4 (fun e => by have := (olt _ e.symm).1; omega))
              have VR4 := Lib.hid (VR2.out.grown hgrow4 (fun e => by have := (olt _ e.symm).1; omega))
              have B4 := Lib.hid (B2.out.grown hgrow4 B2.out.size (fun q hq => by have := (olt q hq).1; omega))
              have RW4 : Hid (Row w4 ad2 n2 ins ∧ Row w4 ad3 n3 outs ∧ Row w4 ad4 n4 hids) := ⟨RW2.out.1.grownAny hgrow4 (fun q hq h0 e => by have := (olt _ e.symm).1; have := R17.out.1.1.lt q hq h0; omega), RW2.out.2.1.grownAny hgrow4 (fun q hq h0 e => by have := (olt _ e.symm).1; have := R21.out.1.1.lt q hq h0; omega), RW2.out.2.2.grownAny hgrow4 (fun q hq h0 e => by have := (olt _ e.symm).1; have := R25.out.1.1.lt q hq h0; omega)⟩
              have hg5 : World.grownBy w4 (w4.setCell ⟨b, 5, none⟩ (.slice av4 (len + 1) cv4)) (some b) := ⟨rfl, rfl, rfl, by simp, fun q _ hq => heap_setCell_other w4 ⟨b, 5, none⟩ q (.slice av4 (len + 1) cv4) (fun e => hq (by simp [e]))⟩
              have VB5 : Hid (VarIs (w4.setCell ⟨b, 5, none⟩ (.slice av4 (len + 1) cv4)) b #[.int .i64 (kn : Int), .int .i64 pl, .slice ad2 n2 cc2, .slice ad3 n3 cc3, .slice ad4 n4 cc4, .slice av4 (len + 1) cv4] 30) := VB4.out.set 5 (.slice av4 (len + 1) cv4)
              have OS5 : Hid (OwnsS 49 (w4.setCell ⟨b, 5, none⟩ (.slice av4 (len + 1) cv4)) w2.heap.size (.slice av4 (len + 1) cv4) (len + 1) (T ++ [(px, y, pz)])) := hown4.keep hg5 (fun q hq e => by have := (hown4.lt q hq).1; have := Option.some.inj e; omega)
              have VA5 := Lib.hid (VA4.out.grown hg5 (fun e => by have := Option.some.inj e; omega))
              have VR5 := Lib.hid (VR4.out.grown hg5 (fun e => by have := Option.some.inj e; omega))
              have B5 := Lib.hid (B4.out.grown hg5 B4.out.size (fun q hq => by have := Option.some.inj hq; omega))
              have RW5 : Hid (Row (w4.setCell ⟨b, 5, none⟩ (.slice av4 (len + 1) cv4)) ad2 n2 ins ∧ Row (w4.setCell ⟨b, 5, none⟩ (.slice av4 (len + 1) cv4)) ad3 n3 outs ∧ Row (w4.setCell ⟨b, 5, none⟩ (.slice av4 (len + 1) cv4)) ad4 n4 hids) := ⟨RW4.out.1.grown hg5 (R17.out.1.2 b rfl), RW4.out.2.1.grown hg5 (R21.out.1.2 b rfl), RW4.out.2.2.grown hg5 (R25.out.1.2 b rfl)⟩
              have hs4 : w2.heap.size ≤ w4.heap.size := by
                have h1 := hgrow4.size
                have h2 : (((wr.alloc (.cells #[.int .i64 px, .int .i64 y, .int .i64 pz] 49)).alloc (.cells #[.int .i64 px, .int .i64 y, .int .i64 pz] 49)).drew).heap.size = wr.heap.size + 1 + 1 := by simp
                rw [h2] at h1
                omega
              have kc := VB4.out.cell (j := 5) rfl
              have kf := VB4.out.frozen 5
              clear hown4 hgrow4 hnil4 hg5 T1 S1 bcell
              go_wp2_with fail
              go_roundw
              case rel => exact ⟨k + 1, len + 1, (.slice av4 (len + 1) cv4), T ++ [(px, y, pz)], by omega, by go_num, VB5.out, OS5.out, HT2.out, by omega, B5.out, VA5.out, VR5.out, RW5.out, by simp; omega⟩
              case measure => simp [intOf]; omega
            · have hdz : decide ((0 : Int) ≤ pz) = false := by simp; omega
              have HT2 : Hid (T = onlyS keep (steps.take (k + 1))) := by
                have := HST.out
                rw [hdz] at this
                unfold Hid
                simpa using this.symm
              clear hx0 hz0'
              go_wp2_with fail
              go_roundw
              case rel => exact ⟨k + 1, len, x5, T, by omega, by go_num, VOY.out, OSY.out, HT2.out, by omega, BY.out, VAY.out, VRY.out, RWY.out, by simp; omega⟩
              case measure => simp [intOf]; omega
          · have hdx : decide ((0 : Int) ≤ px) = false := by simp; omega
            have HT2 : Hid (T = onlyS keep (steps.take (k + 1))) := by
              have := HST.out
              rw [hdx] at this
              unfold Hid
              simpa using this.symm
            clear hx0
            go_wp2_with fail
            go_roundw
            case rel => exact ⟨k + 1, len, x5, T, by omega, by go_num, VOY.out, OSY.out, HT2.out, by omega, BY.out, VAY.out, VRY.out, RWY.out, by simp; omega⟩
            case measure => simp [intOf]; omega

      · have HE : Hid (T = onlyS keep steps) := by
          have := HT.out
          rw [List.take_of_length_le (by rw [R5.out.1]; omega)] at this
          exact this
        obtain ⟨b5, d5, hx5⟩ := HOS.out.form
        subst hx5
        have k0 := HVO.out.cell (j := 0) rfl
        have k1 := HVO.out.cell (j := 1) rfl
        have k2 := HVO.out.cell (j := 2) rfl
        have k3 := HVO.out.cell (j := 3) rfl
        have k4 := HVO.out.cell (j := 4) rfl
        have k5 := HVO.out.cell (j := 5) rfl
        have TH : Hid (wr.there (w.heap.size + 1) 0 6) := HVR.out.there rfl
        have RG2 : Hid ((wr.setCells (w.heap.size + 1) 0 [.int .i64 (kn : Int), .int .i64 pl, .slice ad2 n2 cc2, .slice ad3 n3 cc3, .slice ad4 n4 cc4, .slice b5 len d5]).rangeAt (w.heap.size + 1) 0 [.int .i64 (kn : Int), .int .i64 pl, .slice ad2 n2 cc2, .slice ad3 n3 cc3, .slice ad4 n4 cc4, .slice b5 len d5]) := World.rangeAt_setCells_same wr (w.heap.size + 1) 0 _ TH.out
        have HGS := Lib.hid (grown_setCells (w.heap.size + 1) [.int .i64 (kn : Int), .int .i64 pl, .slice ad2 n2 cc2, .slice ad3 n3 cc3, .slice ad4 n4 cc4, .slice b5 len d5] 0 wr)
        go_wp2_with (refine wpList_store_mid rfl _ _ _ rfl (w.heap.size + 1) 0 #[.int .i64 (kn : Int), .int .i64 pl, .slice ad2 n2 cc2, .slice ad3 n3 cc3, .slice ad4 n4 cc4, .slice b5 len d5] rfl rfl TH.out (by kernel_rfl) (ia_one _ _ _ _ _ _ _ _ _ _ _ _ _ _) ?_)
        clear k0 k1 k2 k3 k4 k5
        refine bodyPost_ret (v := .agg #[.int .i64 (kn : Int), .int .i64 pl, .slice ad2 n2 cc2, .slice ad3 n3 cc3, .slice ad4 n4 cc4, .slice b5 len d5]) ?_ rfl ⟨_, rfl, ?_, HB.out.grown HGS.out HB.out.size (fun q hq => by have := Option.some.inj hq; omega)⟩
        · have HC0 := RG2.out 0 _ rfl
          have HC1 := RG2.out 1 _ rfl
          have HC2 := RG2.out 2 _ rfl
          have HC3 := RG2.out 3 _ rfl
          have HC4 := RG2.out 4 _ rfl
          have HC5 := RG2.out 5 _ rfl
          simp only [Nat.zero_add] at HC0 HC1 HC2 HC3 HC4 HC5
          simp [results, Try.results59, go_sem, HC0, HC1, HC2, HC3, HC4, HC5]
        · have hw2 := HW2.out
          have hk1 := RK.out.1
          have o5 := (HOS.out.keep HGS.out (fun q hq e => by have := (HOS.out.lt q hq).1; have := Option.some.inj e; omega)).row
          refine ⟨ad2, n2, cc2, ad3, n3, cc3, ad4, n4, cc4, b5, len, d5, ?_, ?_, ?_, ?_, ?_, (fun q hq h0 => by have := R17.out.2 q hq h0; omega), (fun q hq h0 => by have := R21.out.2 q hq h0; omega), (fun q hq h0 => by have := R25.out.2 q hq h0; omega), (fun q hq h0 => by subst hq; have := (HOS.out.lt q.block rfl).1; omega)⟩
          · simp only [onlyOf]
            rw [hk1, ← HPL.out]
          · exact HRW.out.1.grown HGS.out (fun q hq h0 e => by have := R17.out.2 q hq h0; omega)
          · exact HRW.out.2.1.grown HGS.out (fun q hq h0 e => by have := R21.out.2 q hq h0; omega)
          · exact HRW.out.2.2.grown HGS.out (fun q hq h0 e => by have := R25.out.2 q hq h0; omega)
          · have h5 := o5.2.2.2
            rw [HE.out] at h5
            exact h5



end Go.Proofs.Ytodkahdnkpibiaa
