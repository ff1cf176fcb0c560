/-
  Steps compared and sorted: cmp.Or, compareSteps, slices.SortFunc at a row of steps of the call's own. Conditions: as each statement says.
-/
import Derived.Test.YtdbgjgeglgipiaaGreatConcatS
import Derived.Test.YtdbgjgeglgipiaaGreatProdMath
import Derived.Test.YtdbgjgeglgipiaaGreatShelfS
import Derived.Test.YtdbgjgeglgipiaaGreatRegion
import Derived.Sort.OwnSorted
namespace Go.Proofs.YtdbgjgeglgipiaaGreat
open Go.RowKit Go.Sort Go.Proofs Go.Shelf

/-- The first that is not 0. -/
def orL : List Int → Int
  | [] => 0
  | x :: r => if x = 0 then orL r else x

theorem orL_take {L : List Int} {k : Nat} (h : ∀ x ∈ L.take k, x = 0) (hk : k < L.length) (hx : L[k] ≠ 0) : orL L = L[k] := by
  induction L generalizing k with
  | nil => simp at hk
  | cons x r ih =>
    cases k with
    | zero => simp only [List.getElem_cons_zero] at hx ⊢; show (if x = 0 then _ else _) = _; rw [if_neg hx]
    | succ k =>
      have h0 : x = 0 := h x (by simp)
      show (if x = 0 then _ else _) = _
      rw [if_pos h0]
      simp only [List.getElem_cons_succ] at hx ⊢
      exact ih (fun y hy => h y (by simp [hy])) (by simpa using hk) hx

theorem orL_zero {L : List Int} (h : ∀ x ∈ L, x = 0) : orL L = 0 := by
  induction L with
  | nil => rfl
  | cons x r ih =>
    show (if x = 0 then _ else _) = _
    rw [if_pos (h x (by simp))]
    exact ih (fun y hy => h y (by simp [hy]))

set_option maxRecDepth 20000 in
set_option maxHeartbeats 1600000 in
theorem cmpOr_any (a : Option Addr) (n c : Nat) (L : List Int) (w : World) (h : Row w a n L) (hn : n ≤ 1000000) :
    Calls Tryz.prog 86 #[.slice a n c] w fun e w' => e = .returned (.int .i64 (orL L)) ∧ w' = w := by
  have HR := Lib.hid h
  obtain ⟨r, hr⟩ : ∃ r, r = orL L := ⟨_, rfl⟩
  rw [← hr]
  have HE := Lib.hid hr
  clear hr h
  go_enter Tryz.func86, Tryz.ntmps86
  go_wp2_with fail
  go_loopw [8] (fun iv wr => ∃ k : Nat, k ≤ n ∧ iv = .int .i64 (k : Int) ∧ Hid (∀ x ∈ L.take k, x = 0) ∧ w = wr) (fun iv _ => n - (intOf iv).toNat)
  case atStart => exact ⟨0, Nat.zero_le _, rfl, fun x hx => by simp at hx, rfl⟩
  case round =>
    obtain ⟨k, hk, rfl, HZ, rfl⟩ := hrel
    by_cases hlt : k < n
    · obtain ⟨b, off, rfl, hb, hcell⟩ := HR.out.2 (by omega)
      have hkx : k < L.length := by rw [HR.out.1]; exact hlt
      obtain ⟨x, hx⟩ : ∃ x, x = L[k] := ⟨_, rfl⟩
      have g0 : w.cell? ⟨b, off + k, none⟩ = some (.int .i64 x) := by rw [hcell k hlt, getD_eq L k hkx, hx]
      have HX := Lib.hid hx
      clear hx hcell
      by_cases h0 : x = 0
      · have hd : (x == 0) = true := by simp [h0]
        have HZ2 : Hid (∀ y ∈ L.take (k + 1), y = 0) := fun y hy => by
          rw [List.take_succ_eq_append_getElem hkx, List.mem_append] at hy
          rcases hy with hy | hy
          · exact HZ.out y hy
          · rw [List.mem_singleton.1 hy, ← HX.out]; exact h0
        clear h0
        go_wp2_with fail
        go_roundw
        case rel => exact ⟨k + 1, by omega, by go_num, HZ2.out, (by trivial)⟩
        case measure => simp [intOf]; omega
      · have hd : (x == 0) = false := by simp [h0]
        have HQ : Hid (r = x) := by unfold Hid; rw [HE.out, HX.out]; exact orL_take HZ.out hkx (by rw [← HX.out]; exact h0)
        clear h0
        go_wp2_with fail
        go_ret
        rw [HQ.out]
        exact ⟨rfl, rfl⟩
    · have HQ : Hid (r = 0) := by
        unfold Hid
        rw [HE.out]
        have := HZ.out
        rw [List.take_of_length_le (by rw [HR.out.1]; omega)] at this
        exact orL_zero this
      go_wp2_with fail
      go_ret
      rw [HQ.out]
      exact ⟨rfl, rfl⟩

/-- What compareSteps answers. -/
def cmpSt (x y : St) : Int := orL [Lib.compareInt x.1 y.1, Lib.compareInt x.2.1 y.2.1, Lib.compareInt x.2.2 y.2.2]

theorem compareInt_cases (x y : Int) : (Lib.compareInt x y = 0 ↔ x = y) ∧ (Lib.compareInt x y < 0 ↔ x < y) := by
  unfold Lib.compareInt
  by_cases h1 : x < y
  · simp [h1]; omega
  · by_cases h2 : y < x
    · simp [h1, h2]; omega
    · simp [h1, h2]; omega

theorem ltSt (x y : St) : ltOf cmpSt x y = true ↔ Ahead x y := by
  obtain ⟨a, b, c⟩ := x
  obtain ⟨a', b', c'⟩ := y
  have h1 := compareInt_cases a a'
  have h2 := compareInt_cases b b'
  have h3 := compareInt_cases c c'
  unfold ltOf
  rw [decide_eq_true_eq]
  simp only [cmpSt, orL, Ahead]
  by_cases e1 : Lib.compareInt a a' = 0
  · rw [if_pos e1]
    have := h1.1.1 e1
    by_cases e2 : Lib.compareInt b b' = 0
    · rw [if_pos e2]
      have := h2.1.1 e2
      by_cases e3 : Lib.compareInt c c' = 0
      · rw [if_pos e3]; have := h3.1.1 e3; omega
      · rw [if_neg e3, h3.2]; omega
    · rw [if_neg e2, h2.2]
      have : ¬ b = b' := fun e => e2 (h2.1.2 e)
      omega
  · rw [if_neg e1, h1.2]
    have : ¬ a = a' := fun e => e1 (h1.1.2 e)
    omega

theorem ltSt_no (x y : St) : ltOf cmpSt x y = false ↔ ¬ Ahead x y := by
  rw [← ltSt x y]
  simp

theorem ahead_total {x y : St} (h1 : ¬ Ahead x y) (h2 : ¬ Ahead y x) : x = y := by
  obtain ⟨a, b, c⟩ := x
  obtain ⟨a', b', c'⟩ := y
  unfold Ahead at h1 h2
  simp only at h1 h2
  have : a = a' := by omega
  subst this
  have : b = b' := by omega
  subst this
  have : c = c' := by omega
  subst this
  rfl

theorem swoSt : SWO (ltOf cmpSt) where
  irrefl x := (ltSt_no x x).2 (fun h => h.ne rfl)
  trans x y z h1 h2 := (ltSt x z).2 (((ltSt x y).1 h1).trans ((ltSt y z).1 h2))
  ntrans x y z h1 h2 := by
    rw [ltSt_no] at *
    intro h3
    by_cases h4 : Ahead y x
    · exact h2 (h4.trans h3)
    · obtain rfl := ahead_total h1 h4
      exact h2 h3

theorem grow3 (W : World) (X Y Z : Obj) : (((W.alloc X).alloc Y).drew).alloc Z = grow (W.drewN 1) #[X, Y, Z] := by
  have e : ((W.heap.push X).push Y).push Z = W.heap ++ #[X, Y, Z] := by apply Array.ext'; simp
  exact congrArg (fun h => ({ W with heap := h, drawn := W.drawn + 1 } : World)) e

set_option maxRecDepth 20000 in
set_option maxHeartbeats 3200000 in
theorem cmpSteps_any (x y : St) (W : World) :
    Calls Tryz.prog 55 #[.agg #[.int .i64 x.1, .int .i64 x.2.1, .int .i64 x.2.2], .agg #[.int .i64 y.1, .int .i64 y.2.1, .int .i64 y.2.2]] W fun e w' => e = .returned (.int .i64 (cmpSt x y)) ∧ ∃ q os', w' = grow (W.drewN q) os' := by
  obtain ⟨xf, xa, xt⟩ := x
  obtain ⟨yf, ya, yt⟩ := y
  simp only
  have HC : Hid (∀ (p q : Int) (W' : World), Calls Tryz.prog 87 #[.int .i64 p, .int .i64 q] W' fun e w' => e = .returned (.int .i64 (Lib.compareInt p q)) ∧ W' = w') := fun p q W' => (Tryz.cmp_Compare_int p q W').mono fun e w' h => ⟨h.1, h.2.symm⟩
  obtain ⟨r, hr⟩ : ∃ r, r = cmpSt (xf, xa, xt) (yf, ya, yt) := ⟨_, rfl⟩
  have SD : VarIs ((W.alloc (.cells #[.int .i64 xf, .int .i64 xa, .int .i64 xt] 48)).alloc (.cells #[.int .i64 yf, .int .i64 ya, .int .i64 yt] 48)).drew W.heap.size #[.int .i64 xf, .int .i64 xa, .int .i64 xt] 48 ∧ VarIs ((W.alloc (.cells #[.int .i64 xf, .int .i64 xa, .int .i64 xt] 48)).alloc (.cells #[.int .i64 yf, .int .i64 ya, .int .i64 yt] 48)).drew (W.heap.size + 1) #[.int .i64 yf, .int .i64 ya, .int .i64 yt] 48 := ⟨(VarIs.new W #[.int .i64 xf, .int .i64 xa, .int .i64 xt] 48 rfl).alloc _, VarIs.new (W.alloc (.cells #[.int .i64 xf, .int .i64 xa, .int .i64 xt] 48)) #[.int .i64 yf, .int .i64 ya, .int .i64 yt] 48 (by simp)⟩
  have CO : Hid (Calls Tryz.prog 86 #[.slice (some ⟨W.heap.size + 1 + 1, 0, none⟩) 3 3] ((((W.alloc (.cells #[.int .i64 xf, .int .i64 xa, .int .i64 xt] 48)).alloc (.cells #[.int .i64 yf, .int .i64 ya, .int .i64 yt] 48)).drew).alloc (.cells #[.int .i64 (Lib.compareInt xf yf), .int .i64 (Lib.compareInt xa ya), .int .i64 (Lib.compareInt xt yt)] 3)) fun e w' => e = .returned (.int .i64 r) ∧ ((((W.alloc (.cells #[.int .i64 xf, .int .i64 xa, .int .i64 xt] 48)).alloc (.cells #[.int .i64 yf, .int .i64 ya, .int .i64 yt] 48)).drew).alloc (.cells #[.int .i64 (Lib.compareInt xf yf), .int .i64 (Lib.compareInt xa ya), .int .i64 (Lib.compareInt xt yt)] 3)) = w') := by
    rw [hr]
    refine (cmpOr_any _ 3 3 [Lib.compareInt xf yf, Lib.compareInt xa ya, Lib.compareInt xt yt] _ ?_ (by omega)).mono fun e w' h => ⟨h.1, h.2.symm⟩
    have := (owns_lit (((W.alloc (.cells #[.int .i64 xf, .int .i64 xa, .int .i64 xt] 48)).alloc (.cells #[.int .i64 yf, .int .i64 ya, .int .i64 yt] 48)).drew) [Lib.compareInt xf yf, Lib.compareInt xa ya, Lib.compareInt xt yt] 3 rfl (by unfold maxLen; omega)).row.2.2.2
    simpa using this
  rw [← hr]
  clear hr
  go_enter Tryz.func55, Tryz.ntmps55
  go_wp2_with fail
  refine wp_region_held_drew (S := fun w' => VarIs w' W.heap.size #[.int .i64 xf, .int .i64 xa, .int .i64 xt] 48 ∧ VarIs w' (W.heap.size + 1) #[.int .i64 yf, .int .i64 ya, .int .i64 yt] 48) (by kernel_rfl) SD (fun hHeld => ?_)
  change wpAnyH _ _ _ _ _ 18 (Array.replicate 18 false) _ _
  refine take_op 0 5 (.pointer (some ⟨W.heap.size, 0, none⟩)) (fuel := 17) rfl rfl (by kernel_rfl) (by kernel_rfl) (by kernel_rfl) (fun _ _ _ h => h) (by rfl) (fun w hSw => by go_simp) hHeld ?_
  simp only [Act.put, List.setIfInBounds_toArray, List.set_cons_zero, List.set_cons_succ]
  refine take_op 1 6 (.int .i64 xf) (fuel := 16) rfl rfl (by kernel_rfl) (by kernel_rfl) (by kernel_rfl) (fun _ _ _ h => h) (by rfl) (fun w hSw => by have m := hSw.1.cell (j := 0) (u := .int .i64 xf) rfl; go_simp) hHeld ?_
  simp only [Act.put, List.setIfInBounds_toArray, List.set_cons_zero, List.set_cons_succ]
  refine take_op 2 7 (.pointer (some ⟨W.heap.size + 1, 0, none⟩)) (fuel := 15) rfl rfl (by kernel_rfl) (by kernel_rfl) (by kernel_rfl) (fun _ _ _ h => h) (by rfl) (fun w hSw => by go_simp) hHeld ?_
  simp only [Act.put, List.setIfInBounds_toArray, List.set_cons_zero, List.set_cons_succ]
  refine take_op 3 8 (.int .i64 yf) (fuel := 14) rfl rfl (by kernel_rfl) (by kernel_rfl) (by kernel_rfl) (fun _ _ _ h => h) (by rfl) (fun w hSw => by have m := hSw.2.cell (j := 0) (u := .int .i64 yf) rfl; go_simp) hHeld ?_
  simp only [Act.put, List.setIfInBounds_toArray, List.set_cons_zero, List.set_cons_succ]
  refine take_op 5 10 (.pointer (some ⟨W.heap.size, 1, none⟩)) (fuel := 13) rfl rfl (by kernel_rfl) (by kernel_rfl) (by kernel_rfl) (fun _ _ _ h => h) (by rfl) (fun w hSw => by go_simp) hHeld ?_
  simp only [Act.put, List.setIfInBounds_toArray, List.set_cons_zero, List.set_cons_succ]
  refine take_op 6 11 (.int .i64 xa) (fuel := 12) rfl rfl (by kernel_rfl) (by kernel_rfl) (by kernel_rfl) (fun _ _ _ h => h) (by rfl) (fun w hSw => by have m := hSw.1.cell (j := 1) (u := .int .i64 xa) rfl; go_simp) hHeld ?_
  simp only [Act.put, List.setIfInBounds_toArray, List.set_cons_zero, List.set_cons_succ]
  refine take_op 7 12 (.pointer (some ⟨W.heap.size + 1, 1, none⟩)) (fuel := 11) rfl rfl (by kernel_rfl) (by kernel_rfl) (by kernel_rfl) (fun _ _ _ h => h) (by rfl) (fun w hSw => by go_simp) hHeld ?_
  simp only [Act.put, List.setIfInBounds_toArray, List.set_cons_zero, List.set_cons_succ]
  refine take_op 8 13 (.int .i64 ya) (fuel := 10) rfl rfl (by kernel_rfl) (by kernel_rfl) (by kernel_rfl) (fun _ _ _ h => h) (by rfl) (fun w hSw => by have m := hSw.2.cell (j := 1) (u := .int .i64 ya) rfl; go_simp) hHeld ?_
  simp only [Act.put, List.setIfInBounds_toArray, List.set_cons_zero, List.set_cons_succ]
  refine take_op 10 15 (.pointer (some ⟨W.heap.size, 2, none⟩)) (fuel := 9) rfl rfl (by kernel_rfl) (by kernel_rfl) (by kernel_rfl) (fun _ _ _ h => h) (by rfl) (fun w hSw => by go_simp) hHeld ?_
  simp only [Act.put, List.setIfInBounds_toArray, List.set_cons_zero, List.set_cons_succ]
  refine take_op 11 16 (.int .i64 xt) (fuel := 8) rfl rfl (by kernel_rfl) (by kernel_rfl) (by kernel_rfl) (fun _ _ _ h => h) (by rfl) (fun w hSw => by have m := hSw.1.cell (j := 2) (u := .int .i64 xt) rfl; go_simp) hHeld ?_
  simp only [Act.put, List.setIfInBounds_toArray, List.set_cons_zero, List.set_cons_succ]
  refine take_op 12 17 (.pointer (some ⟨W.heap.size + 1, 2, none⟩)) (fuel := 7) rfl rfl (by kernel_rfl) (by kernel_rfl) (by kernel_rfl) (fun _ _ _ h => h) (by rfl) (fun w hSw => by go_simp) hHeld ?_
  simp only [Act.put, List.setIfInBounds_toArray, List.set_cons_zero, List.set_cons_succ]
  refine take_op 13 18 (.int .i64 yt) (fuel := 6) rfl rfl (by kernel_rfl) (by kernel_rfl) (by kernel_rfl) (fun _ _ _ h => h) (by rfl) (fun w hSw => by have m := hSw.2.cell (j := 2) (u := .int .i64 yt) rfl; go_simp) hHeld ?_
  simp only [Act.put, List.setIfInBounds_toArray, List.set_cons_zero, List.set_cons_succ]
  refine wpAnyH_ready (rs := [4]) (fuel := 5) (by kernel_rfl) (by simp) ?_
  refine AllReadyH.cons rfl (fun K hK => ?_) AllReadyH.nil
  go_simp
  refine (HC.out xf yf _).mono ?_
  rintro e e1w ⟨rfl, rfl⟩
  go_wp2_with fail
  refine hK.out _ _ hHeld (fun hHeld => ?_)
  clear hK K
  refine wpAnyH_ready (rs := [9]) (fuel := 4) (by kernel_rfl) (by simp) ?_
  refine AllReadyH.cons rfl (fun K hK => ?_) AllReadyH.nil
  go_simp
  refine (HC.out xa ya _).mono ?_
  rintro e e2w ⟨rfl, rfl⟩
  go_wp2_with fail
  refine hK.out _ _ hHeld (fun hHeld => ?_)
  clear hK K
  refine wpAnyH_ready (rs := [14]) (fuel := 3) (by kernel_rfl) (by simp) ?_
  refine AllReadyH.cons rfl (fun K hK => ?_) AllReadyH.nil
  go_simp
  refine (HC.out xt yt _).mono ?_
  rintro e e3w ⟨rfl, rfl⟩
  go_wp2_with fail
  refine hK.out _ _ hHeld (fun hHeld => ?_)
  clear hK K
  refine wpAnyH_ready (rs := [15]) (fuel := 2) (by kernel_rfl) (by simp) ?_
  refine AllReadyH.cons rfl (fun K hK => ?_) AllReadyH.nil
  go_simp
  refine hK.out _ _ (⟨hHeld.1.alloc _, hHeld.2.alloc _⟩) (fun hHeld => ?_)
  clear hK K
  try simp only [Act.put, List.setIfInBounds_toArray, List.set_cons_zero, List.set_cons_succ]
  refine wpAnyH_ready (rs := [16]) (fuel := 1) (by kernel_rfl) (by simp) ?_
  refine AllReadyH.cons rfl (fun K hK => ?_) AllReadyH.nil
  go_simp
  refine (CO.out).mono ?_
  rintro e wo ⟨rfl, rfl⟩
  go_wp2_with fail
  refine hK.out _ _ hHeld (fun hHeld => ?_)
  clear hK K
  refine take_op 17 4 (.int .i64 r) (fuel := 0) rfl rfl (by kernel_rfl) (by kernel_rfl) (by kernel_rfl) (fun _ _ _ h => h) (by rfl) (fun w hSw => by go_simp) hHeld ?_
  simp only [Act.put, List.setIfInBounds_toArray, List.set_cons_zero, List.set_cons_succ]
  refine wpAnyH_done (by kernel_rfl) ?_ _

  go_wp2_with fail
  go_ret
  exact ⟨rfl, 1, _, grow3 _ _ _ _⟩

end Go.Proofs.YtdbgjgeglgipiaaGreat
