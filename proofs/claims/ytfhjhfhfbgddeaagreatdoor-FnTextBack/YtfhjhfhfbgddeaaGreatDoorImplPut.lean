/-
  Contracts of the program's readStates, readStep and readLine: the numbers of a line go into the automaton that is being read. Conditions: as each statement says.
-/
import Derived.Test.YtfhjhfhfbgddeaaGreatDoorReadBox
import Derived.Test.YtfhjhfhfbgddeaaGreatDoorImplWords
import Derived.Test.YtfhjhfhfbgddeaaGreatDoorTextMath
import Derived.Test.YtfhjhfhfbgddeaaGreatDoorRegion
import Derived.Deep.AppendLies
namespace Go.Proofs.YtfhjhfhfbgddeaaGreatDoor
open Go.RowKit

/-- An automaton that is being read in the variable 'A'; all that lay in 'w1' stands. -/
structure RB (w1 w : World) (A : Nat) (a : IaD) : Prop where
  box : ReadBox w A w1.heap.size a
  far : Far w1 w A

theorem RB.below {w1 w w' : World} {A : Nat} {a : IaD} (h : RB w1 w A a) (hb : Below w.heap.size w w') : RB w1 w' A a := ⟨h.box.below hb, h.far.below hb⟩

/-- True, and the automaton has what the line says; or false. -/
def PutRes (w1 : World) (A : Nat) (r : Option IaD) (e : Ending) (w' : World) : Prop :=
  ∃ (b : Bool) (a' : IaD), e = .returned (.bool b) ∧ RB w1 w' A a' ∧ ((b = true ∧ r = some a') ∨ (b = false ∧ r = none))

set_option maxRecDepth 20000 in
set_option maxHeartbeats 3200000 in
theorem readStates_any (w1 w0 w : World) (A : Nat) (a : IaD) (v : Value) (n : Nat) (xs : List Int) (h : RB w1 w0 A a) (hb : Below w0.heap.size w0 w) (hv : Owns w w0.heap.size v n xs) :
    Calls Tryz.prog 73 #[.pointer (some ⟨A, 0, none⟩), v] w (PutRes w1 A (putLine 0 xs a)) := by
  obtain ⟨bv, dv, rfl⟩ := hv.form
  have hml := hv.length
  have HO := Lib.hid hv
  have HR := Lib.hid (h.below hb)
  obtain ⟨x2, x3, x4, x5, hbox⟩ := (h.below hb).box.box
  have HBX := Lib.hid hbox
  have hAw : A < w0.heap.size := Nat.lt_of_lt_of_le h.box.1 h.box.2.1
  clear hv h hbox
  by_cases h2 : n = 2
  · have hnn : ¬ (Value.slice bv n dv) = .slice none 0 0 := fun e => by simp at e; omega
    obtain ⟨gv, cv, hsl⟩ := HO.out.head hnn
    simp only [Value.slice.injEq, true_and] at hsl
    obtain ⟨rfl, rfl⟩ := hsl
    obtain ⟨y0, hy0⟩ : ∃ y, y = xs.getD 0 0 := ⟨_, rfl⟩
    obtain ⟨y1, hy1⟩ : ∃ y, y = xs.getD 1 0 := ⟨_, rfl⟩
    have HPN : Hid (putLine 0 xs a = some ⟨y0, y1, a.ins, a.outs, a.hids, a.steps⟩) := by rw [Hid, hy0, hy1]; exact putLine_0 a (by omega)
    have hgv : A < gv := by have := (HO.out.lt gv rfl).1; omega
    have c0 : w.cell? ⟨gv, 0, none⟩ = some (.int .i64 y0) := by rw [hy0]; exact HO.out.cells.2 0 (by omega)
    have c1 : w.cell? ⟨gv, 1, none⟩ = some (.int .i64 y1) := by rw [hy1]; exact HO.out.cells.2 1 (by omega)
    have S0 : w.drew.cell? ⟨gv, 0, none⟩ = some (.int .i64 y0) ∧ w.drew.cell? ⟨gv, 1, none⟩ = some (.int .i64 y1) := ⟨c0, c1⟩
    have hne : ∀ i j, (⟨A, i, none⟩ : Addr) ≠ ⟨gv, j, none⟩ := fun i j e => by
      have h4 := congrArg Addr.block e
      simp only at h4
      omega
    have S1 : (w.drew.setCell ⟨A, 0, none⟩ (.int .i64 y0)).cell? ⟨gv, 0, none⟩ = some (.int .i64 y0) ∧ (w.drew.setCell ⟨A, 0, none⟩ (.int .i64 y0)).cell? ⟨gv, 1, none⟩ = some (.int .i64 y1) := ⟨(World.cell?_setCell_other _ _ _ _ (hne 0 0)).trans c0, (World.cell?_setCell_other _ _ _ _ (hne 0 1)).trans c1⟩
    have S2 : ((w.drew.setCell ⟨A, 0, none⟩ (.int .i64 y0)).setCell ⟨A, 1, none⟩ (.int .i64 y1)).cell? ⟨gv, 0, none⟩ = some (.int .i64 y0) ∧ ((w.drew.setCell ⟨A, 0, none⟩ (.int .i64 y0)).setCell ⟨A, 1, none⟩ (.int .i64 y1)).cell? ⟨gv, 1, none⟩ = some (.int .i64 y1) := ⟨(World.cell?_setCell_other _ _ _ _ (hne 1 0)).trans S1.1, (World.cell?_setCell_other _ _ _ _ (hne 1 1)).trans S1.2⟩
    have mc0 : w.drew.cell? ⟨A, 0, none⟩ = _ := HBX.out.var.cell (j := 0) rfl
    have mf0 : w.drew.frozen? ⟨A, 0, none⟩ = false := HBX.out.var.frozen 0
    have hv1 : VarIs ((w.setCell ⟨A, 0, none⟩ (.int .i64 y0)).drew) A _ _ := VarIs.set (w := w.drew) HBX.out.var 0 (.int .i64 y0)
    have mc1 := hv1.cell (j := 1) rfl
    have mf1 := hv1.frozen 1
    have HRB : Hid (RB w1 ((w.drew.setCell ⟨A, 0, none⟩ (.int .i64 y0)).setCell ⟨A, 1, none⟩ (.int .i64 y1)) A ⟨y0, y1, a.ins, a.outs, a.hids, a.steps⟩) := ⟨Box.two (w := w.drew) (HBX.out.below (Below.refl _ w).drew) y0 y1, ((HR.out.far.below (Below.refl _ w).drew).set 0 (.int .i64 y0)).set 1 (.int .i64 y1)⟩
    have hm2 : (((n : Nat) : Int) != 2) = false := by simp; omega
    have hmi0 : ¬ n = 0 := by omega
    have hmi1 : ¬ ((n : Nat) : Int) ≤ 1 := by omega
    clear hy0 hy1 hnn h2 hv1
    go_enter Tryz.func73, Tryz.ntmps73
    go_wp2_with fail
    clear c0 c1
    refine wp_region_held_drew (S := fun w' => w'.cell? ⟨gv, 0, none⟩ = some (.int .i64 y0) ∧ w'.cell? ⟨gv, 1, none⟩ = some (.int .i64 y1)) (by kernel_rfl) S0 (fun hHeld => ?_)
    change wpAnyH _ _ _ _ _ 14 (Array.replicate 14 false) _ _
    refine take_op 0 8 (.pointer (some ⟨A, 0, none⟩)) (fuel := 13) rfl rfl (by kernel_rfl) (by kernel_rfl) (by kernel_rfl) (fun _ _ _ h => h) (by rfl) (fun w hSw => by go_simp) hHeld ?_
    simp only [Act.put, List.setIfInBounds_toArray, List.set_cons_zero, List.set_cons_succ]
    refine take_op 1 9 (.pointer (some ⟨A, 0, none⟩)) (fuel := 12) rfl rfl (by kernel_rfl) (by kernel_rfl) (by kernel_rfl) (fun _ _ _ h => h) (by rfl) (fun w hSw => by go_simp) hHeld ?_
    simp only [Act.put, List.setIfInBounds_toArray, List.set_cons_zero, List.set_cons_succ]
    refine take_op 2 10 (.slice (some ⟨gv, 0, none⟩) n dv) (fuel := 11) rfl rfl (by kernel_rfl) (by kernel_rfl) (by kernel_rfl) (fun _ _ _ h => h) (by rfl) (fun w hSw => by go_simp) hHeld ?_
    simp only [Act.put, List.setIfInBounds_toArray, List.set_cons_zero, List.set_cons_succ]
    refine take_op 3 11 (.pointer (some ⟨gv, 0, none⟩)) (fuel := 10) rfl rfl (by kernel_rfl) (by kernel_rfl) (by kernel_rfl) (fun _ _ _ h => h) (by rfl) (fun w hSw => by go_simp) hHeld ?_
    simp only [Act.put, List.setIfInBounds_toArray, List.set_cons_zero, List.set_cons_succ]
    refine take_op 4 12 (.int .i64 y0) (fuel := 9) rfl rfl (by kernel_rfl) (by kernel_rfl) (by kernel_rfl) (fun _ _ _ h => h) (by rfl) (fun w hSw => by go_simp) hHeld ?_
    simp only [Act.put, List.setIfInBounds_toArray, List.set_cons_zero, List.set_cons_succ]
    refine take_op 5 13 (.slice (some ⟨gv, 0, none⟩) n dv) (fuel := 8) rfl rfl (by kernel_rfl) (by kernel_rfl) (by kernel_rfl) (fun _ _ _ h => h) (by rfl) (fun w hSw => by go_simp) hHeld ?_
    simp only [Act.put, List.setIfInBounds_toArray, List.set_cons_zero, List.set_cons_succ]
    refine take_op 6 14 (.pointer (some ⟨gv, 1, none⟩)) (fuel := 7) rfl rfl (by kernel_rfl) (by kernel_rfl) (by kernel_rfl) (fun _ _ _ h => h) (by rfl) (fun w hSw => by go_simp) hHeld ?_
    simp only [Act.put, List.setIfInBounds_toArray, List.set_cons_zero, List.set_cons_succ]
    refine take_op 7 15 (.int .i64 y1) (fuel := 6) rfl rfl (by kernel_rfl) (by kernel_rfl) (by kernel_rfl) (fun _ _ _ h => h) (by rfl) (fun w hSw => by go_simp) hHeld ?_
    simp only [Act.put, List.setIfInBounds_toArray, List.set_cons_zero, List.set_cons_succ]
    refine take_op 8 16 (.pointer (some ⟨A, 0, none⟩)) (fuel := 5) rfl rfl (by kernel_rfl) (by kernel_rfl) (by kernel_rfl) (fun _ _ _ h => h) (by rfl) (fun w hSw => by go_simp) hHeld ?_
    simp only [Act.put, List.setIfInBounds_toArray, List.set_cons_zero, List.set_cons_succ]
    refine take_op 9 17 (.pointer (some ⟨A, 0, none⟩)) (fuel := 4) rfl rfl (by kernel_rfl) (by kernel_rfl) (by kernel_rfl) (fun _ _ _ h => h) (by rfl) (fun w hSw => by go_simp) hHeld ?_
    simp only [Act.put, List.setIfInBounds_toArray, List.set_cons_zero, List.set_cons_succ]
    refine wpAnyH_ready (rs := [10]) (fuel := 3) (by kernel_rfl) (by simp) ?_
    refine AllReadyH.cons rfl (fun K hK => ?_) AllReadyH.nil
    go_simp
    refine hK.out _ _ S1 (fun hHeld => ?_)
    clear hK K
    refine take_op 11 18 (.pointer (some ⟨A, 0, none⟩)) (fuel := 2) rfl rfl (by kernel_rfl) (by kernel_rfl) (by kernel_rfl) (fun _ _ _ h => h) (by rfl) (fun w hSw => by go_simp) hHeld ?_
    simp only [Act.put, List.setIfInBounds_toArray, List.set_cons_zero, List.set_cons_succ]
    refine take_op 12 19 (.pointer (some ⟨A, 1, none⟩)) (fuel := 1) rfl rfl (by kernel_rfl) (by kernel_rfl) (by kernel_rfl) (fun _ _ _ h => h) (by rfl) (fun w hSw => by go_simp) hHeld ?_
    simp only [Act.put, List.setIfInBounds_toArray, List.set_cons_zero, List.set_cons_succ]
    refine wpAnyH_ready (rs := [13]) (fuel := 0) (by kernel_rfl) (by simp) ?_
    refine AllReadyH.cons rfl (fun K hK => ?_) AllReadyH.nil
    go_simp
    refine hK.out _ _ S2 (fun hHeld => ?_)
    clear hK K
    refine wpAnyH_done (by kernel_rfl) ?_ _
    clear hHeld S0 S1 S2 mc0 mf0 mc1 mf1
    go_wp2_with fail
    go_ret
    exact ⟨true, _, rfl, HRB.out, Or.inl ⟨rfl, HPN.out⟩⟩
  · have hm2 : (((n : Nat) : Int) != 2) = true := by simp; omega
    have HPN : Hid (putLine 0 xs a = none) := putLine_0no a (by omega)
    go_enter Tryz.func73, Tryz.ntmps73
    go_wp2_with fail
    go_ret
    exact ⟨false, _, rfl, HR.out, Or.inr ⟨rfl, HPN.out⟩⟩

set_option maxRecDepth 20000 in
set_option maxHeartbeats 3200000 in
theorem readStep_any (k : Nat) (w1 w0 w : World) (A : Nat) (a : IaD) (v : Value) (n : Nat) (xs : List Int) (h : RB w1 w0 A a) (hb : Below w0.heap.size w0 w) (hv : Owns w w0.heap.size v n xs) (hk : ¬ k < 4) (hst : a.steps.length ≤ 1048576) :
    Calls Tryz.prog 74 #[.pointer (some ⟨A, 0, none⟩), v] w (PutRes w1 A (putLine k xs a)) := by
  obtain ⟨bv, dv, rfl⟩ := hv.form
  have hml := hv.length
  have HO := Lib.hid hv
  have HR := Lib.hid (h.below hb)
  obtain ⟨x2, x3, x4, x5, hbox0⟩ := h.box.box
  have hbox := hbox0.below hb
  obtain ⟨b5, d5, rfl⟩ := hbox.o5.form
  have HAP : Hid (∀ b, (Value.slice bv n dv).ownBlock = some b → Value.ownBlock (.slice b5 a.steps.length d5) ≠ some b) := later_apartS hbox0.o5 hv
  have HBX := Lib.hid hbox
  have hAw : A < w0.heap.size := Nat.lt_of_lt_of_le h.box.1 h.box.2.1
  have hA1 : A < w1.heap.size := h.box.1
  clear hv h hbox hbox0
  by_cases h2 : n = 3
  · have hnn : ¬ (Value.slice bv n dv) = .slice none 0 0 := fun e => by simp at e; omega
    obtain ⟨gv, cv, hsl⟩ := HO.out.head hnn
    simp only [Value.slice.injEq, true_and] at hsl
    obtain ⟨rfl, rfl⟩ := hsl
    obtain ⟨y0, hy0⟩ : ∃ y, y = xs.getD 0 0 := ⟨_, rfl⟩
    obtain ⟨y1, hy1⟩ : ∃ y, y = xs.getD 1 0 := ⟨_, rfl⟩
    obtain ⟨y2, hy2⟩ : ∃ y, y = xs.getD 2 0 := ⟨_, rfl⟩
    have HPN : Hid (putLine k xs a = some ⟨a.states, a.init, a.ins, a.outs, a.hids, a.steps ++ [(y0, y1, y2)]⟩) := by rw [Hid, hy0, hy1, hy2]; exact putLine_4 a hk (by omega)
    have hgv : A < gv := by have := (HO.out.lt gv rfl).1; omega
    have c0 : w.cell? ⟨gv, 0, none⟩ = some (.int .i64 y0) := by rw [hy0]; exact HO.out.cells.2 0 (by omega)
    have c1 : w.cell? ⟨gv, 1, none⟩ = some (.int .i64 y1) := by rw [hy1]; exact HO.out.cells.2 1 (by omega)
    have c2 : w.cell? ⟨gv, 2, none⟩ = some (.int .i64 y2) := by rw [hy2]; exact HO.out.cells.2 2 (by omega)
    have S0 : w.drew.cell? ⟨gv, 0, none⟩ = some (.int .i64 y0) ∧ w.drew.cell? ⟨gv, 1, none⟩ = some (.int .i64 y1) ∧ w.drew.cell? ⟨gv, 2, none⟩ = some (.int .i64 y2) := ⟨c0, c1, c2⟩
    have hbN : Below w.heap.size w (w.drew.alloc (.cells #[.int .i64 y0, .int .i64 y1, .int .i64 y2] 47)) := ((Below.refl _ w).drew).alloc (Nat.le_refl _) _
    have HBL := Lib.hid hbN
    have HBN := Lib.hid (HBX.out.below hbN)
    have SN1 : (w.drew.alloc (.cells #[.int .i64 y0, .int .i64 y1, .int .i64 y2] 47)).cell? ⟨gv, 0, none⟩ = some (.int .i64 y0) ∧ (w.drew.alloc (.cells #[.int .i64 y0, .int .i64 y1, .int .i64 y2] 47)).cell? ⟨gv, 1, none⟩ = some (.int .i64 y1) ∧ (w.drew.alloc (.cells #[.int .i64 y0, .int .i64 y1, .int .i64 y2] 47)).cell? ⟨gv, 2, none⟩ = some (.int .i64 y2) := ⟨(hbN.cell (p := ⟨gv, 0, none⟩) (HO.out.lt gv rfl).2).trans c0, (hbN.cell (p := ⟨gv, 1, none⟩) (HO.out.lt gv rfl).2).trans c1, (hbN.cell (p := ⟨gv, 2, none⟩) (HO.out.lt gv rfl).2).trans c2⟩
    have SN : Hid (∀ j u, (flat [(y0, y1, y2)])[j]? = some u → (w.drew.alloc (.cells #[.int .i64 y0, .int .i64 y1, .int .i64 y2] 47)).cell? ((⟨w.heap.size, 0, none⟩ : Addr).add j) = some u) := fun j u hu => by
      rw [add_lit, Nat.zero_add, cell_of_row _ w.heap.size j _ 47 (0, 0) (heap_alloc_new w.drew _)]
      simpa [flat, stCells] using hu
    have hbsz : Hid (w1.heap.size ≤ (w.drew.alloc (.cells #[.int .i64 y0, .int .i64 y1, .int .i64 y2] 47)).heap.size) := HBN.out.size
    have HSX : Hid (∀ w4 : World, (w.drew.alloc (.cells #[.int .i64 y0, .int .i64 y1, .int .i64 y2] 47)).grownBy w4 (Value.ownBlock (.slice b5 a.steps.length d5)) → w4.cell? ⟨gv, 0, none⟩ = some (.int .i64 y0) ∧ w4.cell? ⟨gv, 1, none⟩ = some (.int .i64 y1) ∧ w4.cell? ⟨gv, 2, none⟩ = some (.int .i64 y2)) := fun w4 hg => by
      have hne : (Value.ownBlock (.slice b5 a.steps.length d5)) ≠ some gv := HAP.out gv rfl
      exact ⟨hg.cell SN1.1 (fun e => hne e.symm), hg.cell SN1.2.1 (fun e => hne e.symm), hg.cell SN1.2.2 (fun e => hne e.symm)⟩
    obtain ⟨i1, hi1, hy10, hy11, hy12⟩ := info_parts (show (Tryz.prog.info? 47).map (fun i => (i.zero, i.size, i.bytes)) = some (some (.agg #[.int .i64 0, .int .i64 0, .int .i64 0]), 3, 24) by kernel_rfl)
    have hm2 : (((n : Nat) : Int) != 3) = false := by simp; omega
    have hmi0 : ¬ n = 0 := by omega
    have hmi1 : ¬ ((n : Nat) : Int) ≤ 1 := by omega
    have hmi2 : ¬ ((n : Nat) : Int) ≤ 2 := by omega
    clear hy0 hy1 hy2 hnn h2 hbN
    go_enter Tryz.func74, Tryz.ntmps74
    go_wp2_with fail
    clear c0 c1 c2
    refine wp_region_held_drew (S := fun w' => w'.cell? ⟨gv, 0, none⟩ = some (.int .i64 y0) ∧ w'.cell? ⟨gv, 1, none⟩ = some (.int .i64 y1) ∧ w'.cell? ⟨gv, 2, none⟩ = some (.int .i64 y2)) (by kernel_rfl) S0 (fun hHeld => ?_)
    change wpAnyH _ _ _ _ _ 20 (Array.replicate 20 false) _ _
    refine take_op 0 8 (.pointer (some ⟨A, 0, none⟩)) (fuel := 19) rfl rfl (by kernel_rfl) (by kernel_rfl) (by kernel_rfl) (fun _ _ _ h => h) (by rfl) (fun w hSw => by go_simp) hHeld ?_
    simp only [Act.put, List.setIfInBounds_toArray, List.set_cons_zero, List.set_cons_succ]
    refine take_op 1 9 (.pointer (some ⟨A, 0, none⟩)) (fuel := 18) rfl rfl (by kernel_rfl) (by kernel_rfl) (by kernel_rfl) (fun _ _ _ h => h) (by rfl) (fun w hSw => by go_simp) hHeld ?_
    simp only [Act.put, List.setIfInBounds_toArray, List.set_cons_zero, List.set_cons_succ]
    refine take_op 2 10 (.pointer (some ⟨A, 0, none⟩)) (fuel := 17) rfl rfl (by kernel_rfl) (by kernel_rfl) (by kernel_rfl) (fun _ _ _ h => h) (by rfl) (fun w hSw => by go_simp) hHeld ?_
    simp only [Act.put, List.setIfInBounds_toArray, List.set_cons_zero, List.set_cons_succ]
    refine take_op 3 11 (.pointer (some ⟨A, 5, none⟩)) (fuel := 16) rfl rfl (by kernel_rfl) (by kernel_rfl) (by kernel_rfl) (fun _ _ _ h => h) (by rfl) (fun w hSw => by go_simp) hHeld ?_
    simp only [Act.put, List.setIfInBounds_toArray, List.set_cons_zero, List.set_cons_succ]
    refine take_op 5 13 (.slice (some ⟨gv, 0, none⟩) n dv) (fuel := 15) rfl rfl (by kernel_rfl) (by kernel_rfl) (by kernel_rfl) (fun _ _ _ h => h) (by rfl) (fun w hSw => by go_simp) hHeld ?_
    simp only [Act.put, List.setIfInBounds_toArray, List.set_cons_zero, List.set_cons_succ]
    refine take_op 6 14 (.pointer (some ⟨gv, 0, none⟩)) (fuel := 14) rfl rfl (by kernel_rfl) (by kernel_rfl) (by kernel_rfl) (fun _ _ _ h => h) (by rfl) (fun w hSw => by go_simp) hHeld ?_
    simp only [Act.put, List.setIfInBounds_toArray, List.set_cons_zero, List.set_cons_succ]
    refine take_op 7 15 (.int .i64 y0) (fuel := 13) rfl rfl (by kernel_rfl) (by kernel_rfl) (by kernel_rfl) (fun _ _ _ h => h) (by rfl) (fun w hSw => by go_simp) hHeld ?_
    simp only [Act.put, List.setIfInBounds_toArray, List.set_cons_zero, List.set_cons_succ]
    refine take_op 8 16 (.slice (some ⟨gv, 0, none⟩) n dv) (fuel := 12) rfl rfl (by kernel_rfl) (by kernel_rfl) (by kernel_rfl) (fun _ _ _ h => h) (by rfl) (fun w hSw => by go_simp) hHeld ?_
    simp only [Act.put, List.setIfInBounds_toArray, List.set_cons_zero, List.set_cons_succ]
    refine take_op 9 17 (.pointer (some ⟨gv, 1, none⟩)) (fuel := 11) rfl rfl (by kernel_rfl) (by kernel_rfl) (by kernel_rfl) (fun _ _ _ h => h) (by rfl) (fun w hSw => by go_simp) hHeld ?_
    simp only [Act.put, List.setIfInBounds_toArray, List.set_cons_zero, List.set_cons_succ]
    refine take_op 10 18 (.int .i64 y1) (fuel := 10) rfl rfl (by kernel_rfl) (by kernel_rfl) (by kernel_rfl) (fun _ _ _ h => h) (by rfl) (fun w hSw => by go_simp) hHeld ?_
    simp only [Act.put, List.setIfInBounds_toArray, List.set_cons_zero, List.set_cons_succ]
    refine take_op 11 19 (.slice (some ⟨gv, 0, none⟩) n dv) (fuel := 9) rfl rfl (by kernel_rfl) (by kernel_rfl) (by kernel_rfl) (fun _ _ _ h => h) (by rfl) (fun w hSw => by go_simp) hHeld ?_
    simp only [Act.put, List.setIfInBounds_toArray, List.set_cons_zero, List.set_cons_succ]
    refine take_op 12 20 (.pointer (some ⟨gv, 2, none⟩)) (fuel := 8) rfl rfl (by kernel_rfl) (by kernel_rfl) (by kernel_rfl) (fun _ _ _ h => h) (by rfl) (fun w hSw => by go_simp) hHeld ?_
    simp only [Act.put, List.setIfInBounds_toArray, List.set_cons_zero, List.set_cons_succ]
    refine take_op 13 21 (.int .i64 y2) (fuel := 7) rfl rfl (by kernel_rfl) (by kernel_rfl) (by kernel_rfl) (fun _ _ _ h => h) (by rfl) (fun w hSw => by go_simp) hHeld ?_
    simp only [Act.put, List.setIfInBounds_toArray, List.set_cons_zero, List.set_cons_succ]
    refine take_op 14 22 (.agg #[.int .i64 y0, .int .i64 y1, .int .i64 y2]) (fuel := 6) rfl rfl (by kernel_rfl) (by kernel_rfl) (by kernel_rfl) (fun _ _ _ h => h) (by rfl) (fun w hSw => by go_simp) hHeld ?_
    simp only [Act.put, List.setIfInBounds_toArray, List.set_cons_zero, List.set_cons_succ]
    refine wpAnyH_ready (rs := [4, 15]) (fuel := 5) (by kernel_rfl) (by simp) ?_
    refine AllReadyH.cons rfl (fun K hK => ?_) ?_
    · have rc : w.drew.cell? ⟨A, 5, none⟩ = some (.slice b5 a.steps.length d5) := HBX.out.var.cell rfl
      go_simp
      refine hK.out _ _ S0 (fun hHeld => ?_)
      clear hK K rc
      refine wpAnyH_ready (rs := [15]) (fuel := 4) (by kernel_rfl) (by simp) ?_
      refine AllReadyH.cons rfl (fun K hK => ?_) AllReadyH.nil
      go_simp
      refine hK.out _ _ SN1 (fun hHeld => ?_)
      clear hK K
      refine wpAnyH_ready (rs := [16]) (fuel := 3) (by kernel_rfl) (by simp) ?_
      refine AllReadyH.cons rfl (fun K hK => ?_) AllReadyH.nil
      refine step_append_lies _ rfl (.tmp 12) (.tmp 23) 25 rfl w1.heap.size 47 i1 (.agg #[.int .i64 0, .int .i64 0, .int .i64 0]) 3 24 Tryz.underlying25 hi1 hy10 hy11 hy12 rfl (by decide) _ a.steps.length (flat a.steps) rfl HBN.out.o5 ⟨w.heap.size, 0, none⟩ 1 1 (flat [(y0, y1, y2)]) rfl rfl SN.out (flat_one _) (by decide) (by unfold maxLen; omega) (by omega) hbsz.out _ rfl ?_
      intro g5 cap5 w4 hown' hgrow hlies hlt'
      have HOS : Hid (OwnsS 47 w4 w1.heap.size (.slice (some ⟨g5, 0, none⟩) (a.steps.length + 1) cap5) (a.steps ++ [(y0, y1, y2)]).length (a.steps ++ [(y0, y1, y2)])) := by
        unfold Hid OwnsS
        rw [flat_append, List.length_append]
        exact hown'
      have HRB : Hid (RB w1 (w4.setCell ⟨A, 5, none⟩ (.slice (some ⟨g5, 0, none⟩) (a.steps.length + 1) cap5)) A ⟨a.states, a.init, a.ins, a.outs, a.hids, a.steps ++ [(y0, y1, y2)]⟩) := ⟨HBN.out.steps hgrow HOS.out (by
        rcases hlies with h | h
        · exact Or.inl h.symm
        · exact Or.inr (fun b hb => by
            have hb' : some g5 = some b := hb
            cases hb'
            exact Nat.le_of_eq h.symm)), (((HR.out.far.below HBL.out).grown hgrow (fun q hq => Or.inr (HBN.out.o5.lt q hq).1))).set 5 _⟩
      have HV4 : VarIs w4 A #[.int .i64 a.states, .int .i64 a.init, x2, x3, x4, .slice b5 a.steps.length d5] 27 := HBN.out.var.grown hgrow (fun e => by
        have h1 := (HBN.out.o5.lt _ e.symm).1
        omega)
      have mc4 := HV4.cell (j := 5) rfl
      have mf4 := HV4.frozen 5
      have SW4 := HSX.out w4 hgrow
      have HSE : Hid ((w4.setCell ⟨A, 5, none⟩ (.slice (some ⟨g5, 0, none⟩) (a.steps.length + 1) cap5)).cell? ⟨gv, 0, none⟩ = some (.int .i64 y0) ∧ (w4.setCell ⟨A, 5, none⟩ (.slice (some ⟨g5, 0, none⟩) (a.steps.length + 1) cap5)).cell? ⟨gv, 1, none⟩ = some (.int .i64 y1) ∧ (w4.setCell ⟨A, 5, none⟩ (.slice (some ⟨g5, 0, none⟩) (a.steps.length + 1) cap5)).cell? ⟨gv, 2, none⟩ = some (.int .i64 y2)) := by
        have hne : ∀ j, (⟨A, 5, none⟩ : Addr) ≠ ⟨gv, j, none⟩ := fun j e => by
          have h4 := congrArg Addr.block e
          simp only at h4
          omega
        exact ⟨(World.cell?_setCell_other _ _ _ _ (hne 0)).trans SW4.1, (World.cell?_setCell_other _ _ _ _ (hne 1)).trans SW4.2.1, (World.cell?_setCell_other _ _ _ _ (hne 2)).trans SW4.2.2⟩
      clear hown' hgrow hlies hlt' HV4
      refine hK.out _ _ SW4 (fun hHeld => ?_)
      clear hK K
      simp only [Act.put, List.setIfInBounds_toArray]
      refine take_op 17 25 (.pointer (some ⟨A, 0, none⟩)) (fuel := 2) rfl rfl (by kernel_rfl) (by kernel_rfl) (by kernel_rfl) (fun _ _ _ h => h) (by rfl) (fun w hSw => by go_simp) hHeld ?_
      simp only [Act.put]
      refine take_op 18 26 (.pointer (some ⟨A, 5, none⟩)) (fuel := 1) rfl rfl (by kernel_rfl) (by kernel_rfl) (by kernel_rfl) (fun _ _ _ h => h) (by rfl) (fun w hSw => by go_simp) hHeld ?_
      simp only [Act.put]
      refine wpAnyH_ready (rs := [19]) (fuel := 0) (by kernel_rfl) (by simp) ?_
      refine AllReadyH.cons rfl (fun K hK => ?_) AllReadyH.nil
      go_simp
      refine hK.out _ _ HSE.out (fun hHeld => ?_)
      clear hK K
      refine wpAnyH_done (by kernel_rfl) ?_ _
      clear hHeld mc4 mf4 SW4 HSE HOS HSX SN S0 SN1
      go_wp2_with fail
      go_ret
      exact ⟨true, _, rfl, HRB.out, Or.inl ⟨rfl, HPN.out⟩⟩
    · refine AllReadyH.cons rfl (fun K hK => ?_) AllReadyH.nil
      go_simp
      refine hK.out _ _ SN1 (fun hHeld => ?_)
      clear hK K
      have rc : ((w.alloc (.cells #[.int .i64 y0, .int .i64 y1, .int .i64 y2] 47)).drew).cell? ⟨A, 5, none⟩ = some (.slice b5 a.steps.length d5) := HBN.out.var.cell rfl
      refine wpAnyH_ready (rs := [4]) (fuel := 4) (by kernel_rfl) (by simp) ?_
      refine AllReadyH.cons rfl (fun K hK => ?_) AllReadyH.nil
      go_simp
      refine hK.out _ _ SN1 (fun hHeld => ?_)
      clear hK K
      clear rc
      refine wpAnyH_ready (rs := [16]) (fuel := 3) (by kernel_rfl) (by simp) ?_
      refine AllReadyH.cons rfl (fun K hK => ?_) AllReadyH.nil
      refine step_append_lies _ rfl (.tmp 12) (.tmp 23) 25 rfl w1.heap.size 47 i1 (.agg #[.int .i64 0, .int .i64 0, .int .i64 0]) 3 24 Tryz.underlying25 hi1 hy10 hy11 hy12 rfl (by decide) _ a.steps.length (flat a.steps) rfl HBN.out.o5 ⟨w.heap.size, 0, none⟩ 1 1 (flat [(y0, y1, y2)]) rfl rfl SN.out (flat_one _) (by decide) (by unfold maxLen; omega) (by omega) hbsz.out _ rfl ?_
      intro g5 cap5 w4 hown' hgrow hlies hlt'
      have HOS : Hid (OwnsS 47 w4 w1.heap.size (.slice (some ⟨g5, 0, none⟩) (a.steps.length + 1) cap5) (a.steps ++ [(y0, y1, y2)]).length (a.steps ++ [(y0, y1, y2)])) := by
        unfold Hid OwnsS
        rw [flat_append, List.length_append]
        exact hown'
      have HRB : Hid (RB w1 (w4.setCell ⟨A, 5, none⟩ (.slice (some ⟨g5, 0, none⟩) (a.steps.length + 1) cap5)) A ⟨a.states, a.init, a.ins, a.outs, a.hids, a.steps ++ [(y0, y1, y2)]⟩) := ⟨HBN.out.steps hgrow HOS.out (by
        rcases hlies with h | h
        · exact Or.inl h.symm
        · exact Or.inr (fun b hb => by
            have hb' : some g5 = some b := hb
            cases hb'
            exact Nat.le_of_eq h.symm)), (((HR.out.far.below HBL.out).grown hgrow (fun q hq => Or.inr (HBN.out.o5.lt q hq).1))).set 5 _⟩
      have HV4 : VarIs w4 A #[.int .i64 a.states, .int .i64 a.init, x2, x3, x4, .slice b5 a.steps.length d5] 27 := HBN.out.var.grown hgrow (fun e => by
        have h1 := (HBN.out.o5.lt _ e.symm).1
        omega)
      have mc4 := HV4.cell (j := 5) rfl
      have mf4 := HV4.frozen 5
      have SW4 := HSX.out w4 hgrow
      have HSE : Hid ((w4.setCell ⟨A, 5, none⟩ (.slice (some ⟨g5, 0, none⟩) (a.steps.length + 1) cap5)).cell? ⟨gv, 0, none⟩ = some (.int .i64 y0) ∧ (w4.setCell ⟨A, 5, none⟩ (.slice (some ⟨g5, 0, none⟩) (a.steps.length + 1) cap5)).cell? ⟨gv, 1, none⟩ = some (.int .i64 y1) ∧ (w4.setCell ⟨A, 5, none⟩ (.slice (some ⟨g5, 0, none⟩) (a.steps.length + 1) cap5)).cell? ⟨gv, 2, none⟩ = some (.int .i64 y2)) := by
        have hne : ∀ j, (⟨A, 5, none⟩ : Addr) ≠ ⟨gv, j, none⟩ := fun j e => by
          have h4 := congrArg Addr.block e
          simp only at h4
          omega
        exact ⟨(World.cell?_setCell_other _ _ _ _ (hne 0)).trans SW4.1, (World.cell?_setCell_other _ _ _ _ (hne 1)).trans SW4.2.1, (World.cell?_setCell_other _ _ _ _ (hne 2)).trans SW4.2.2⟩
      clear hown' hgrow hlies hlt' HV4
      refine hK.out _ _ SW4 (fun hHeld => ?_)
      clear hK K
      simp only [Act.put, List.setIfInBounds_toArray]
      refine take_op 17 25 (.pointer (some ⟨A, 0, none⟩)) (fuel := 2) rfl rfl (by kernel_rfl) (by kernel_rfl) (by kernel_rfl) (fun _ _ _ h => h) (by rfl) (fun w hSw => by go_simp) hHeld ?_
      simp only [Act.put]
      refine take_op 18 26 (.pointer (some ⟨A, 5, none⟩)) (fuel := 1) rfl rfl (by kernel_rfl) (by kernel_rfl) (by kernel_rfl) (fun _ _ _ h => h) (by rfl) (fun w hSw => by go_simp) hHeld ?_
      simp only [Act.put]
      refine wpAnyH_ready (rs := [19]) (fuel := 0) (by kernel_rfl) (by simp) ?_
      refine AllReadyH.cons rfl (fun K hK => ?_) AllReadyH.nil
      go_simp
      refine hK.out _ _ HSE.out (fun hHeld => ?_)
      clear hK K
      refine wpAnyH_done (by kernel_rfl) ?_ _
      clear hHeld mc4 mf4 SW4 HSE HOS HSX SN S0 SN1
      go_wp2_with fail
      go_ret
      exact ⟨true, _, rfl, HRB.out, Or.inl ⟨rfl, HPN.out⟩⟩
  · have hm2 : (((n : Nat) : Int) != 3) = true := by simp; omega
    have HPN : Hid (putLine k xs a = none) := putLine_4no a hk (by omega)
    go_enter Tryz.func74, Tryz.ntmps74
    go_wp2_with fail
    go_ret
    exact ⟨false, _, rfl, HR.out, Or.inr ⟨rfl, HPN.out⟩⟩

theorem lineAt_bad {word line : List UInt8} (h : numsIn (parts 32 line).tail = none) : lineAt word line = none := by
  unfold lineAt
  split
  · exact h
  · rfl

set_option maxRecDepth 20000 in
set_option maxHeartbeats 3200000 in
theorem readLine_any (k : Nat) (line : List UInt8) (w1 w : World) (A : Nat) (a : IaD) (h : RB w1 w A a) (he : Env w) (hs : line.length ≤ 1048576) (hk : k ≤ 1048576) (hst : a.steps.length ≤ 1048576) :
    Calls Tryz.prog 58 #[.pointer (some ⟨A, 0, none⟩), .int .i64 ((k : Int) + 1), .string (bs line)] w (PutRes w1 A (readLineOf k line a)) := by
  obtain ⟨S, hS⟩ : ∃ S, S = bs line := ⟨_, rfl⟩
  rw [← hS]
  have CW : Hid (Calls Tryz.prog 71 #[.string S] w (WordsRes w line)) := by rw [hS]; exact readWords_any line w hs he
  have HR := Lib.hid h
  obtain ⟨P, hP⟩ : ∃ P, P = readLineOf k line a := ⟨_, rfl⟩
  rw [← hP]
  have HP := Lib.hid hP
  obtain ⟨WD, hWD⟩ : ∃ W, W = bs (wordOf k) := ⟨_, rfl⟩
  have CA : Hid (∀ W, Calls Tryz.prog 72 #[.int .i64 ((k : Int) + 1)] W fun e w' => e = .returned (.string WD) ∧ w' = W) := by rw [hWD]; exact fun W => word_at k W
  have HWD := Lib.hid hWD
  clear hS hP hWD h he
  go_enter Tryz.func58, Tryz.ntmps58
  go_wp2_with fail
  refine CW.out.mono ?_
  rintro e w2 ⟨wd, v, n, xs, ok, rfl, hO, hb2, hres⟩
  have HO := Lib.hid hO
  have HB2 := Lib.hid hb2
  have HR2 := Lib.hid (HR.out.below hb2)
  obtain ⟨bv, dv, rfl⟩ := hO.form
  clear hO hb2 CW
  cases ok with
  | false =>
    have HPN : Hid (P = none) := by
      rw [Hid, HP.out]
      refine readLine_none (lineAt_bad ?_)
      rcases hres with ⟨h, _⟩ | ⟨_, h⟩
      · cases h
      · exact h
    clear hres
    go_wp2_with fail
    go_ret
    exact ⟨false, _, rfl, HR2.out, Or.inr ⟨rfl, HPN.out⟩⟩
  | true =>
    have HRE : Hid (wd = bs ((parts 32 line).headD []) ∧ numsIn (parts 32 line).tail = some xs) := by
      rcases hres with ⟨_, h⟩ | ⟨h, _⟩
      · exact h
      · cases h
    clear hres
    by_cases hw : (parts 32 line).headD [] = wordOf k
    · have hq : (wd.toList == WD.toList) = true := by rw [HRE.out.1, HWD.out, hw]; simp
      have HPN : Hid (P = putLine k xs a) := by
        rw [Hid, HP.out]
        refine readLine_some ?_
        unfold lineAt
        rw [if_pos hw]
        exact HRE.out.2
      obtain ⟨x2, x3, x4, x5, hbox⟩ := HR.out.box.box
      have HBX := Lib.hid hbox
      have HBX2 := Lib.hid (hbox.below HB2.out)
      clear hw hbox
      rcases (show k = 0 ∨ k = 1 ∨ k = 2 ∨ k = 3 ∨ ¬ k < 4 by omega) with hk0 | hk0 | hk0 | hk0 | hk0
      · have e1 : (((k : Int) + 1) == 1) = true := by simp; omega
        have HK := Lib.hid hk0
        clear hk0
        go_wp2_with fail
        refine (CA.out _).mono ?_
        rintro e w3 ⟨rfl, rfl⟩
        go_wp2_with fail
        refine (readStates_any w1 w _ A a _ n xs HR.out HB2.out HO.out).mono ?_
        rintro e w4 ⟨b, a', rfl, hrb, hc⟩
        have HRB := Lib.hid hrb
        have HC := Lib.hid hc
        clear hrb hc
        go_wp2_with fail
        go_ret
        exact ⟨b, a', rfl, HRB.out, by rw [HPN.out, HK.out]; exact HC.out⟩
      · have e1 : (((k : Int) + 1) == 1) = false := by simp; omega
        have e2 : (((k : Int) + 1) == 2) = true := by simp; omega
        have HPS : Hid (P = some ⟨a.states, a.init, xs, a.outs, a.hids, a.steps⟩) := by rw [Hid, HPN.out, hk0]; exact putLine_1 xs a
        have HRB : Hid (RB w1 (w2.setCell ⟨A, 2, none⟩ (.slice bv n dv)) A ⟨a.states, a.init, xs, a.outs, a.hids, a.steps⟩) := ⟨HBX.out.ins HB2.out HO.out, HR2.out.far.set 2 _⟩
        have mc := HBX2.out.var.cell (j := 2) rfl
        have mf := HBX2.out.var.frozen 2
        clear hk0
        go_wp2_with fail
        refine (CA.out _).mono ?_
        rintro e w3 ⟨rfl, rfl⟩
        go_wp2_with fail
        go_ret
        exact ⟨true, _, rfl, HRB.out, Or.inl ⟨rfl, HPS.out⟩⟩
      · have e1 : (((k : Int) + 1) == 1) = false := by simp; omega
        have e2 : (((k : Int) + 1) == 2) = false := by simp; omega
        have e3 : (((k : Int) + 1) == 3) = true := by simp; omega
        have HPS : Hid (P = some ⟨a.states, a.init, a.ins, xs, a.hids, a.steps⟩) := by rw [Hid, HPN.out, hk0]; exact putLine_2 xs a
        have HRB : Hid (RB w1 (w2.setCell ⟨A, 3, none⟩ (.slice bv n dv)) A ⟨a.states, a.init, a.ins, xs, a.hids, a.steps⟩) := ⟨HBX.out.outs HB2.out HO.out, HR2.out.far.set 3 _⟩
        have mc := HBX2.out.var.cell (j := 3) rfl
        have mf := HBX2.out.var.frozen 3
        clear hk0
        go_wp2_with fail
        refine (CA.out _).mono ?_
        rintro e w3 ⟨rfl, rfl⟩
        go_wp2_with fail
        go_ret
        exact ⟨true, _, rfl, HRB.out, Or.inl ⟨rfl, HPS.out⟩⟩
      · have e1 : (((k : Int) + 1) == 1) = false := by simp; omega
        have e2 : (((k : Int) + 1) == 2) = false := by simp; omega
        have e3 : (((k : Int) + 1) == 3) = false := by simp; omega
        have e4 : (((k : Int) + 1) == 4) = true := by simp; omega
        have HPS : Hid (P = some ⟨a.states, a.init, a.ins, a.outs, xs, a.steps⟩) := by rw [Hid, HPN.out, hk0]; exact putLine_3 xs a
        have HRB : Hid (RB w1 (w2.setCell ⟨A, 4, none⟩ (.slice bv n dv)) A ⟨a.states, a.init, a.ins, a.outs, xs, a.steps⟩) := ⟨HBX.out.hids HB2.out HO.out, HR2.out.far.set 4 _⟩
        have mc := HBX2.out.var.cell (j := 4) rfl
        have mf := HBX2.out.var.frozen 4
        clear hk0
        go_wp2_with fail
        refine (CA.out _).mono ?_
        rintro e w3 ⟨rfl, rfl⟩
        go_wp2_with fail
        go_ret
        exact ⟨true, _, rfl, HRB.out, Or.inl ⟨rfl, HPS.out⟩⟩
      · have e1 : (((k : Int) + 1) == 1) = false := by simp; omega
        have e2 : (((k : Int) + 1) == 2) = false := by simp; omega
        have e3 : (((k : Int) + 1) == 3) = false := by simp; omega
        have e4 : (((k : Int) + 1) == 4) = false := by simp; omega
        go_wp2_with fail
        refine (CA.out _).mono ?_
        rintro e w3 ⟨rfl, rfl⟩
        go_wp2_with fail
        refine (readStep_any k w1 w _ A a _ n xs HR.out HB2.out HO.out hk0 hst).mono ?_
        rintro e w4 ⟨b, a', rfl, hrb, hc⟩
        have HRB := Lib.hid hrb
        have HC := Lib.hid hc
        clear hrb hc
        go_wp2_with fail
        go_ret
        exact ⟨b, a', rfl, HRB.out, by rw [HPN.out]; exact HC.out⟩
    · have hq : (wd.toList == WD.toList) = false := by
        rw [HRE.out.1, HWD.out, bs_toList, bs_toList, beq_eq_false_iff_ne]
        exact hw
      have HPN : Hid (P = none) := by
        rw [Hid, HP.out]
        refine readLine_none ?_
        unfold lineAt
        rw [if_neg hw]
      clear hw
      go_wp2_with fail
      refine (CA.out _).mono ?_
      rintro e w3 ⟨rfl, rfl⟩
      go_wp2_with fail
      go_ret
      exact ⟨false, _, rfl, HR2.out, Or.inr ⟨rfl, HPN.out⟩⟩

end Go.Proofs.YtfhjhfhfbgddeaaGreatDoor
