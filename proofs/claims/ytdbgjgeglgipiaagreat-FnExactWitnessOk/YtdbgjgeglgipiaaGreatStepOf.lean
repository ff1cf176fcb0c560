/-
  Contracts of the program's stepOfPairs, stepsApart, stepsTogether. Conditions: both automata are right, their lists have at most 2^20 elements.
-/
import Derived.Test.YtdbgjgeglgipiaaGreatProdMath
import Derived.Test.YtdbgjgeglgipiaaGreatClashList
import Derived.Test.YtdbgjgeglgipiaaGreatAppNew
import Derived.Test.YtdbgjgeglgipiaaGreatStepPut
import Derived.Test.YtdbgjgeglgipiaaGreatSetHas
import Derived.Test.YtdbgjgeglgipiaaGreatIaLaw
import Derived.Test.YtdbgjgeglgipiaaGreatRegion
namespace Go.Proofs.YtdbgjgeglgipiaaGreat
open Go.RowKit

set_option maxRecDepth 20000 in
set_option maxHeartbeats 3200000 in
theorem stepOfPairs_any (su iu : Int) (u2 u3 u4 u5 : Value) (p q act p' q' : Int) (w : World) (h0 : 0 ≤ su ∧ su ≤ 40) (hp : 0 ≤ p ∧ p ≤ 40) (hq : 0 ≤ q ∧ q ≤ 40) (hp' : 0 ≤ p' ∧ p' ≤ 40) (hq' : 0 ≤ q' ∧ q' ≤ 40) :
    Calls Tryz.prog 83 #[.agg #[.int .i64 su, .int .i64 iu, u2, u3, u4, u5], .agg #[.int .i64 p, .int .i64 q], .int .i64 act, .agg #[.int .i64 p', .int .i64 q']] w fun e w' => e = .returned (.agg #[.int .i64 (p * su + q), .int .i64 act, .int .i64 (p' * su + q')]) ∧ Below w.heap.size w w' := by
  obtain ⟨x1, hx1⟩ : ∃ x, x = p * su + q := ⟨_, rfl⟩
  obtain ⟨x2, hx2⟩ : ∃ x, x = p' * su + q' := ⟨_, rfl⟩
  have C1 : Hid (∀ W, Calls Tryz.prog 56 #[.agg #[.int .i64 su, .int .i64 iu, u2, u3, u4, u5], .agg #[.int .i64 p, .int .i64 q]] W fun e w' => e = .returned (.int .i64 x1) ∧ Below W.heap.size W w') := fun W => by rw [hx1]; exact stateOf_any su iu u2 u3 u4 u5 p q W h0 hp hq
  have C2 : Hid (∀ W, Calls Tryz.prog 56 #[.agg #[.int .i64 su, .int .i64 iu, u2, u3, u4, u5], .agg #[.int .i64 p', .int .i64 q']] W fun e w' => e = .returned (.int .i64 x2) ∧ Below W.heap.size W w') := fun W => by rw [hx2]; exact stateOf_any su iu u2 u3 u4 u5 p' q' W h0 hp' hq'
  rw [← hx1, ← hx2]
  clear hx1 hx2 h0 hp hq hp' hq'
  have SD : Below w.heap.size w ((((w.alloc (.cells #[.int .i64 su, .int .i64 iu, u2, u3, u4, u5] 31)).alloc (.cells #[.int .i64 p, .int .i64 q] 59)).alloc (.cells #[.int .i64 p', .int .i64 q'] 59)).alloc (.cells #[.int .i64 0, .int .i64 0, .int .i64 0] 48)).drew ∧ VarIs ((((w.alloc (.cells #[.int .i64 su, .int .i64 iu, u2, u3, u4, u5] 31)).alloc (.cells #[.int .i64 p, .int .i64 q] 59)).alloc (.cells #[.int .i64 p', .int .i64 q'] 59)).alloc (.cells #[.int .i64 0, .int .i64 0, .int .i64 0] 48)).drew w.heap.size #[.int .i64 su, .int .i64 iu, u2, u3, u4, u5] 31 ∧ VarIs ((((w.alloc (.cells #[.int .i64 su, .int .i64 iu, u2, u3, u4, u5] 31)).alloc (.cells #[.int .i64 p, .int .i64 q] 59)).alloc (.cells #[.int .i64 p', .int .i64 q'] 59)).alloc (.cells #[.int .i64 0, .int .i64 0, .int .i64 0] 48)).drew (w.heap.size + 1) #[.int .i64 p, .int .i64 q] 59 ∧ VarIs ((((w.alloc (.cells #[.int .i64 su, .int .i64 iu, u2, u3, u4, u5] 31)).alloc (.cells #[.int .i64 p, .int .i64 q] 59)).alloc (.cells #[.int .i64 p', .int .i64 q'] 59)).alloc (.cells #[.int .i64 0, .int .i64 0, .int .i64 0] 48)).drew (w.heap.size + 2) #[.int .i64 p', .int .i64 q'] 59 := ⟨(((((Below.refl _ w).alloc (Nat.le_refl _) _).alloc (by simp) _).alloc (by simp; omega) _).alloc (by simp; omega) _).drew, (((VarIs.new w #[.int .i64 su, .int .i64 iu, u2, u3, u4, u5] 31 rfl).alloc _).alloc _).alloc _, ((VarIs.new (w.alloc (.cells #[.int .i64 su, .int .i64 iu, u2, u3, u4, u5] 31)) #[.int .i64 p, .int .i64 q] 59 (by simp)).alloc _).alloc _, (VarIs.new ((w.alloc (.cells #[.int .i64 su, .int .i64 iu, u2, u3, u4, u5] 31)).alloc (.cells #[.int .i64 p, .int .i64 q] 59)) #[.int .i64 p', .int .i64 q'] 59 (by simp)).alloc _⟩
  have TZ : Hid (VarIs ((((w.alloc (.cells #[.int .i64 su, .int .i64 iu, u2, u3, u4, u5] 31)).alloc (.cells #[.int .i64 p, .int .i64 q] 59)).alloc (.cells #[.int .i64 p', .int .i64 q'] 59)).alloc (.cells #[.int .i64 0, .int .i64 0, .int .i64 0] 48)).drew (w.heap.size + 3) #[.int .i64 0, .int .i64 0, .int .i64 0] 48) := VarIs.new (((w.alloc (.cells #[.int .i64 su, .int .i64 iu, u2, u3, u4, u5] 31)).alloc (.cells #[.int .i64 p, .int .i64 q] 59)).alloc (.cells #[.int .i64 p', .int .i64 q'] 59)) #[.int .i64 0, .int .i64 0, .int .i64 0] 48 (by simp)
  go_enter Tryz.func83, Tryz.ntmps83
  go_wp2_with fail
  refine wp_region_held_drew (S := fun w' => Below w.heap.size w w' ∧ VarIs w' w.heap.size #[.int .i64 su, .int .i64 iu, u2, u3, u4, u5] 31 ∧ VarIs w' (w.heap.size + 1) #[.int .i64 p, .int .i64 q] 59 ∧ VarIs w' (w.heap.size + 2) #[.int .i64 p', .int .i64 q'] 59) (by kernel_rfl) SD (fun hHeld => ?_)
  change wpAnyH _ _ _ _ _ 9 (Array.replicate 9 false) _ _
  refine take_yields 0 9 (.agg #[.int .i64 su, .int .i64 iu, u2, u3, u4, u5]) (fuel := 8) rfl rfl (by kernel_rfl) (by kernel_rfl) (by kernel_rfl) (fun _ _ _ h => h) (yieldsIf_load_mid (by rfl) _ _ rfl (w.heap.size) 0 rfl #[.int .i64 su, .int .i64 iu, u2, u3, u4, u5].toList _ (fun w hw => hw.2.1.range) Tryz.underlying31 rfl (by kernel_rfl)) hHeld ?_
  simp only [Act.put, List.setIfInBounds_toArray, List.set_cons_zero, List.set_cons_succ]
  refine take_yields 1 10 (.agg #[.int .i64 p, .int .i64 q]) (fuel := 7) rfl rfl (by kernel_rfl) (by kernel_rfl) (by kernel_rfl) (fun _ _ _ h => h) (yieldsIf_load_mid (by rfl) _ _ rfl (w.heap.size + 1) 0 rfl #[.int .i64 p, .int .i64 q].toList _ (fun w hw => hw.2.2.1.range) Tryz.underlying59 rfl (by kernel_rfl)) hHeld ?_
  simp only [Act.put, List.setIfInBounds_toArray, List.set_cons_zero, List.set_cons_succ]
  refine take_op 3 12 (.int .i64 act) (fuel := 6) rfl rfl (by kernel_rfl) (by kernel_rfl) (by kernel_rfl) (fun _ _ _ h => h) (by rfl) (fun w hSw => by go_simp) hHeld ?_
  simp only [Act.put, List.setIfInBounds_toArray, List.set_cons_zero, List.set_cons_succ]
  refine take_yields 4 13 (.agg #[.int .i64 su, .int .i64 iu, u2, u3, u4, u5]) (fuel := 5) rfl rfl (by kernel_rfl) (by kernel_rfl) (by kernel_rfl) (fun _ _ _ h => h) (yieldsIf_load_mid (by rfl) _ _ rfl (w.heap.size) 0 rfl #[.int .i64 su, .int .i64 iu, u2, u3, u4, u5].toList _ (fun w hw => hw.2.1.range) Tryz.underlying31 rfl (by kernel_rfl)) hHeld ?_
  simp only [Act.put, List.setIfInBounds_toArray, List.set_cons_zero, List.set_cons_succ]
  refine take_yields 5 14 (.agg #[.int .i64 p', .int .i64 q']) (fuel := 4) rfl rfl (by kernel_rfl) (by kernel_rfl) (by kernel_rfl) (fun _ _ _ h => h) (yieldsIf_load_mid (by rfl) _ _ rfl (w.heap.size + 2) 0 rfl #[.int .i64 p', .int .i64 q'].toList _ (fun w hw => hw.2.2.2.range) Tryz.underlying59 rfl (by kernel_rfl)) hHeld ?_
  simp only [Act.put, List.setIfInBounds_toArray, List.set_cons_zero, List.set_cons_succ]
  refine wpAnyH_ready (rs := [2]) (fuel := 3) (by kernel_rfl) (by simp) ?_
  refine AllReadyH.cons rfl (fun K hK => ?_) AllReadyH.nil
  go_simp
  refine (C1.out _).mono ?_
  rintro e w1 ⟨rfl, hb⟩
  have T1 := Lib.hid (TZ.out.below hb)
  have hS1 : Below w.heap.size w w1 ∧ VarIs w1 w.heap.size #[.int .i64 su, .int .i64 iu, u2, u3, u4, u5] 31 ∧ VarIs w1 (w.heap.size + 1) #[.int .i64 p, .int .i64 q] 59 ∧ VarIs w1 (w.heap.size + 2) #[.int .i64 p', .int .i64 q'] 59 := ⟨hHeld.1.trans (hb.mono hHeld.1.size), hHeld.2.1.below hb, hHeld.2.2.1.below hb, hHeld.2.2.2.below hb⟩
  clear hb
  go_wp2_with fail
  refine hK.out _ _ hS1 (fun hHeld => ?_)
  clear hK K
  refine wpAnyH_ready (rs := [6]) (fuel := 2) (by kernel_rfl) (by simp) ?_
  refine AllReadyH.cons rfl (fun K hK => ?_) AllReadyH.nil
  go_simp
  refine (C2.out _).mono ?_
  rintro e w2 ⟨rfl, hb⟩
  have T2 := Lib.hid (T1.out.below hb)
  have hS2 : Below w.heap.size w w2 ∧ VarIs w2 w.heap.size #[.int .i64 su, .int .i64 iu, u2, u3, u4, u5] 31 ∧ VarIs w2 (w.heap.size + 1) #[.int .i64 p, .int .i64 q] 59 ∧ VarIs w2 (w.heap.size + 2) #[.int .i64 p', .int .i64 q'] 59 := ⟨hHeld.1.trans (hb.mono hHeld.1.size), hHeld.2.1.below hb, hHeld.2.2.1.below hb, hHeld.2.2.2.below hb⟩
  have t9 : Hid (w2.there (w.heap.size + 3) 0 3) := T2.out.there rfl
  have g9 := Lib.hid (grown_setCells (w.heap.size + 3) [.int .i64 x1, .int .i64 act, .int .i64 x2] 0 w2)
  have rg9 : Hid ((w2.setCells (w.heap.size + 3) 0 [.int .i64 x1, .int .i64 act, .int .i64 x2]).rangeAt (w.heap.size + 3) 0 [.int .i64 x1, .int .i64 act, .int .i64 x2]) := World.rangeAt_setCells_same w2 (w.heap.size + 3) 0 [.int .i64 x1, .int .i64 act, .int .i64 x2] (by simpa using t9.out)
  clear hb
  go_wp2_with fail
  refine hK.out _ _ hS2 (fun hHeld => ?_)
  clear hK K
  refine take_op 7 16 (.agg #[.int .i64 x1, .int .i64 act, .int .i64 x2]) (fuel := 1) rfl rfl (by kernel_rfl) (by kernel_rfl) (by kernel_rfl) (fun _ _ _ h => h) (by rfl) (fun w hSw => by go_simp) hHeld ?_
  simp only [Act.put, List.setIfInBounds_toArray, List.set_cons_zero, List.set_cons_succ]
  refine wpAnyH_ready (rs := [8]) (fuel := 0) (by kernel_rfl) (by simp) ?_
  refine AllReadyH.cons rfl (fun K hK => ?_) AllReadyH.nil
  rw [if_pos (by rfl)]
  refine wp_store_mid _ _ _ rfl (w.heap.size + 3) 0 #[.int .i64 x1, .int .i64 act, .int .i64 x2] rfl rfl t9.out (by kernel_rfl) (by simp [Value.oneCell']) ?_
  refine hK.out _ _ ⟨hHeld.1.grown g9.out hHeld.1.size (fun q hq => by have h1 := Option.some.inj hq; omega), hHeld.2.1.grown g9.out (fun e => by have h1 := Option.some.inj e; omega), hHeld.2.2.1.grown g9.out (fun e => by have h1 := Option.some.inj e; omega), hHeld.2.2.2.grown g9.out (fun e => by have h1 := Option.some.inj e; omega)⟩ (fun hHeld => ?_)
  clear hK K
  refine wpAnyH_done (by kernel_rfl) ?_ _

  have rg := rg9.out
  have c0 := rg 0 (.int .i64 x1) rfl
  have c1 := rg 1 (.int .i64 act) rfl
  have c2 := rg 2 (.int .i64 x2) rfl
  simp only [Nat.zero_add, Nat.add_zero] at c0 c1 c2
  go_wp2_with fail
  refine bodyPost_ret (v := .agg #[.int .i64 x1, .int .i64 act, .int .i64 x2]) ?_ rfl ⟨rfl, hHeld.1⟩
  simp [results, Tryz.results83, go_sem, c0, c1, c2]

end Go.Proofs.YtdbgjgeglgipiaaGreat
