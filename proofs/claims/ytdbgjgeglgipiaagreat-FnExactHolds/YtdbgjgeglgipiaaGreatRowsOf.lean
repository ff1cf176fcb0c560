/-
  The contract of the program's rowsOf: forty rows, at each place the steps from it. Conditions: at most 400 steps, each from a state below 40.
-/
import Derived.Test.YtdbgjgeglgipiaaGreatStepRows
import Derived.Test.YtdbgjgeglgipiaaGreatIaLaw
namespace Go.Proofs.YtdbgjgeglgipiaaGreat
open Go.RowKit

theorem below_setCell {B g j : Nat} {a w : World} (h : Below B a w) (hg : B ≤ g) (u : Value) : Below B a (w.setCell ⟨g, j, none⟩ u) := h.setCell hg u

set_option maxRecDepth 20000 in
set_option maxHeartbeats 6400000 in
theorem rowsOf_any (st it : Int) (v2 v3 v4 : Value) (a5 : Option Addr) (n5 c5 : Nat) (steps : List St) (w : World) (r5 : RowS w a5 n5 steps) (hn : n5 ≤ 400) (hgood : ∀ x ∈ steps, 0 ≤ x.1 ∧ x.1 < 40) :
    Calls Tryz.prog 91 #[.agg #[.int .i64 st, .int .i64 it, v2, v3, v4, .slice a5 n5 c5]] w fun e w' => ∃ C, e = .returned (.agg C) ∧ RowsAt w' w.heap.size C steps ∧ Below w.heap.size w w' := by
  have HL5 := Lib.hid r5.1
  have HC5 := Lib.hid r5.2
  have HGD := Lib.hid hgood
  clear r5 hgood
  obtain ⟨i0, hi0, hz0, hz1, hz2⟩ := info_parts (show (Tryz.prog.info? 48).map (fun i => (i.zero, i.size, i.bytes)) = some (some (.agg #[.int .i64 0, .int .i64 0, .int .i64 0]), 3, 24) by kernel_rfl)
  have V0 : Hid (VarIs (((w.alloc (.cells #[.int .i64 st, .int .i64 it, v2, v3, v4, .slice a5 n5 c5] 31)).alloc (.cells #[.slice none 0 0, .slice none 0 0, .slice none 0 0, .slice none 0 0, .slice none 0 0, .slice none 0 0, .slice none 0 0, .slice none 0 0, .slice none 0 0, .slice none 0 0, .slice none 0 0, .slice none 0 0, .slice none 0 0, .slice none 0 0, .slice none 0 0, .slice none 0 0, .slice none 0 0, .slice none 0 0, .slice none 0 0, .slice none 0 0, .slice none 0 0, .slice none 0 0, .slice none 0 0, .slice none 0 0, .slice none 0 0, .slice none 0 0, .slice none 0 0, .slice none 0 0, .slice none 0 0, .slice none 0 0, .slice none 0 0, .slice none 0 0, .slice none 0 0, .slice none 0 0, .slice none 0 0, .slice none 0 0, .slice none 0 0, .slice none 0 0, .slice none 0 0, .slice none 0 0] 115)).alloc (.cells #[.slice none 0 0, .slice none 0 0, .slice none 0 0, .slice none 0 0, .slice none 0 0, .slice none 0 0, .slice none 0 0, .slice none 0 0, .slice none 0 0, .slice none 0 0, .slice none 0 0, .slice none 0 0, .slice none 0 0, .slice none 0 0, .slice none 0 0, .slice none 0 0, .slice none 0 0, .slice none 0 0, .slice none 0 0, .slice none 0 0, .slice none 0 0, .slice none 0 0, .slice none 0 0, .slice none 0 0, .slice none 0 0, .slice none 0 0, .slice none 0 0, .slice none 0 0, .slice none 0 0, .slice none 0 0, .slice none 0 0, .slice none 0 0, .slice none 0 0, .slice none 0 0, .slice none 0 0, .slice none 0 0, .slice none 0 0, .slice none 0 0, .slice none 0 0, .slice none 0 0] 115)) w.heap.size #[.int .i64 st, .int .i64 it, v2, v3, v4, .slice a5 n5 c5] 31) := ((VarIs.new w _ _ rfl).alloc _).alloc _
  have V1 : Hid (VarIs (((w.alloc (.cells #[.int .i64 st, .int .i64 it, v2, v3, v4, .slice a5 n5 c5] 31)).alloc (.cells #[.slice none 0 0, .slice none 0 0, .slice none 0 0, .slice none 0 0, .slice none 0 0, .slice none 0 0, .slice none 0 0, .slice none 0 0, .slice none 0 0, .slice none 0 0, .slice none 0 0, .slice none 0 0, .slice none 0 0, .slice none 0 0, .slice none 0 0, .slice none 0 0, .slice none 0 0, .slice none 0 0, .slice none 0 0, .slice none 0 0, .slice none 0 0, .slice none 0 0, .slice none 0 0, .slice none 0 0, .slice none 0 0, .slice none 0 0, .slice none 0 0, .slice none 0 0, .slice none 0 0, .slice none 0 0, .slice none 0 0, .slice none 0 0, .slice none 0 0, .slice none 0 0, .slice none 0 0, .slice none 0 0, .slice none 0 0, .slice none 0 0, .slice none 0 0, .slice none 0 0] 115)).alloc (.cells #[.slice none 0 0, .slice none 0 0, .slice none 0 0, .slice none 0 0, .slice none 0 0, .slice none 0 0, .slice none 0 0, .slice none 0 0, .slice none 0 0, .slice none 0 0, .slice none 0 0, .slice none 0 0, .slice none 0 0, .slice none 0 0, .slice none 0 0, .slice none 0 0, .slice none 0 0, .slice none 0 0, .slice none 0 0, .slice none 0 0, .slice none 0 0, .slice none 0 0, .slice none 0 0, .slice none 0 0, .slice none 0 0, .slice none 0 0, .slice none 0 0, .slice none 0 0, .slice none 0 0, .slice none 0 0, .slice none 0 0, .slice none 0 0, .slice none 0 0, .slice none 0 0, .slice none 0 0, .slice none 0 0, .slice none 0 0, .slice none 0 0, .slice none 0 0, .slice none 0 0] 115)) (w.heap.size + 1) #[.slice none 0 0, .slice none 0 0, .slice none 0 0, .slice none 0 0, .slice none 0 0, .slice none 0 0, .slice none 0 0, .slice none 0 0, .slice none 0 0, .slice none 0 0, .slice none 0 0, .slice none 0 0, .slice none 0 0, .slice none 0 0, .slice none 0 0, .slice none 0 0, .slice none 0 0, .slice none 0 0, .slice none 0 0, .slice none 0 0, .slice none 0 0, .slice none 0 0, .slice none 0 0, .slice none 0 0, .slice none 0 0, .slice none 0 0, .slice none 0 0, .slice none 0 0, .slice none 0 0, .slice none 0 0, .slice none 0 0, .slice none 0 0, .slice none 0 0, .slice none 0 0, .slice none 0 0, .slice none 0 0, .slice none 0 0, .slice none 0 0, .slice none 0 0, .slice none 0 0] 115) := (VarIs.new _ _ _ (by simp)).alloc _
  have V2 : Hid (VarIs (((w.alloc (.cells #[.int .i64 st, .int .i64 it, v2, v3, v4, .slice a5 n5 c5] 31)).alloc (.cells #[.slice none 0 0, .slice none 0 0, .slice none 0 0, .slice none 0 0, .slice none 0 0, .slice none 0 0, .slice none 0 0, .slice none 0 0, .slice none 0 0, .slice none 0 0, .slice none 0 0, .slice none 0 0, .slice none 0 0, .slice none 0 0, .slice none 0 0, .slice none 0 0, .slice none 0 0, .slice none 0 0, .slice none 0 0, .slice none 0 0, .slice none 0 0, .slice none 0 0, .slice none 0 0, .slice none 0 0, .slice none 0 0, .slice none 0 0, .slice none 0 0, .slice none 0 0, .slice none 0 0, .slice none 0 0, .slice none 0 0, .slice none 0 0, .slice none 0 0, .slice none 0 0, .slice none 0 0, .slice none 0 0, .slice none 0 0, .slice none 0 0, .slice none 0 0, .slice none 0 0] 115)).alloc (.cells #[.slice none 0 0, .slice none 0 0, .slice none 0 0, .slice none 0 0, .slice none 0 0, .slice none 0 0, .slice none 0 0, .slice none 0 0, .slice none 0 0, .slice none 0 0, .slice none 0 0, .slice none 0 0, .slice none 0 0, .slice none 0 0, .slice none 0 0, .slice none 0 0, .slice none 0 0, .slice none 0 0, .slice none 0 0, .slice none 0 0, .slice none 0 0, .slice none 0 0, .slice none 0 0, .slice none 0 0, .slice none 0 0, .slice none 0 0, .slice none 0 0, .slice none 0 0, .slice none 0 0, .slice none 0 0, .slice none 0 0, .slice none 0 0, .slice none 0 0, .slice none 0 0, .slice none 0 0, .slice none 0 0, .slice none 0 0, .slice none 0 0, .slice none 0 0, .slice none 0 0] 115)) (w.heap.size + 1 + 1) #[.slice none 0 0, .slice none 0 0, .slice none 0 0, .slice none 0 0, .slice none 0 0, .slice none 0 0, .slice none 0 0, .slice none 0 0, .slice none 0 0, .slice none 0 0, .slice none 0 0, .slice none 0 0, .slice none 0 0, .slice none 0 0, .slice none 0 0, .slice none 0 0, .slice none 0 0, .slice none 0 0, .slice none 0 0, .slice none 0 0, .slice none 0 0, .slice none 0 0, .slice none 0 0, .slice none 0 0, .slice none 0 0, .slice none 0 0, .slice none 0 0, .slice none 0 0, .slice none 0 0, .slice none 0 0, .slice none 0 0, .slice none 0 0, .slice none 0 0, .slice none 0 0, .slice none 0 0, .slice none 0 0, .slice none 0 0, .slice none 0 0, .slice none 0 0, .slice none 0 0] 115) := VarIs.new _ _ _ (by simp)
  have B0 : Hid (∀ o o' o'', Below w.heap.size w (((w.alloc o).alloc o').alloc o'')) := fun o o' o'' => (((Below.refl _ _).alloc (Nat.le_refl _) _).alloc (by simp) _).alloc (by simp; omega) _
  go_enter Tryz.func91, Tryz.ntmps91
  go_wp2_with fail
  go_loopw [9] (fun i wr => ∃ (k : Nat) (C : Array Value), k ≤ n5 ∧ i = .int .i64 k ∧ Hid (Below w.heap.size w wr) ∧ Hid (VarIs wr w.heap.size #[.int .i64 st, .int .i64 it, v2, v3, v4, .slice a5 n5 c5] 31) ∧ Hid (VarIs wr (w.heap.size + 1) #[.slice none 0 0, .slice none 0 0, .slice none 0 0, .slice none 0 0, .slice none 0 0, .slice none 0 0, .slice none 0 0, .slice none 0 0, .slice none 0 0, .slice none 0 0, .slice none 0 0, .slice none 0 0, .slice none 0 0, .slice none 0 0, .slice none 0 0, .slice none 0 0, .slice none 0 0, .slice none 0 0, .slice none 0 0, .slice none 0 0, .slice none 0 0, .slice none 0 0, .slice none 0 0, .slice none 0 0, .slice none 0 0, .slice none 0 0, .slice none 0 0, .slice none 0 0, .slice none 0 0, .slice none 0 0, .slice none 0 0, .slice none 0 0, .slice none 0 0, .slice none 0 0, .slice none 0 0, .slice none 0 0, .slice none 0 0, .slice none 0 0, .slice none 0 0, .slice none 0 0] 115) ∧ Hid (VarIs wr (w.heap.size + 1 + 1) C 115) ∧ Hid (RowsAt wr (w.heap.size + 3) C (steps.take k))) (fun i _ => n5 - (intOf i).toNat)
  case atStart => exact ⟨0, _, Nat.zero_le _, rfl, B0.out _ _ _, V0.out, V1.out, V2.out, by unfold Hid; rw [List.take_zero]; exact RowsAt.start _ _ _ rfl⟩
  case round =>
    obtain ⟨k, C, hk, rfl, HB, HVA, HVB, HVR, HRW⟩ := hrel
    clear V0 V1 V2 B0
    by_cases hlt : k < n5
    · obtain ⟨b, off, rfl, hb, hcell⟩ := HC5.out (by omega)
      have hkx : k < steps.length := by rw [HL5.out]; exact hlt
      obtain ⟨⟨f, y, z⟩, hs⟩ : ∃ t, t = steps[k] := ⟨_, rfl⟩
      have hf := HGD.out steps[k] (List.getElem_mem hkx)
      rw [← hs] at hf
      simp only at hf
      obtain ⟨s, rfl⟩ : ∃ s : Nat, f = (s : Int) := ⟨f.toNat, by omega⟩
      have hs40 : s < 40 := by omega
      have hs40' : (s : Int) < 40 := by omega
      obtain ⟨d0, d1, d2⟩ := hcell k steps[k] (List.getElem?_eq_getElem hkx)
      rw [← hs] at d0 d1 d2
      have g0 := (HB.out.cell (p := ⟨b, off + k * 3, none⟩) hb).trans d0
      have g1 := (HB.out.cell (p := ⟨b, off + k * 3 + 1, none⟩) hb).trans d1
      have g2 := (HB.out.cell (p := ⟨b, off + k * 3 + 2, none⟩) hb).trans d2
      simp only at g0 g1 g2
      have HS := Lib.hid hs
      have kb := HVA.out.cell (j := 5) rfl
      obtain ⟨ar, cr, hCs, hor⟩ := HRW.out.2.1 s hs40
      obtain ⟨row, hrow⟩ : ∃ r, r = rowL (steps.take k) (s : Int) := ⟨_, rfl⟩
      obtain ⟨m, hm⟩ : ∃ m, m = row.length := ⟨_, rfl⟩
      have hmk : m ≤ k := by
        rw [hm, hrow]
        exact Nat.le_trans (rowL_len _ _) (by simp; omega)
      rw [← hrow, ← hm] at hCs hor
      have CS := Lib.hid hCs
      have hrs : w.heap.size + 3 ≤ wr.heap.size := by
        have := HVR.out.lt
        omega
      have rc := HVR.out.cell (j := s) hCs
      have OR : Hid ((((wr.alloc (.cells #[.int .i64 (s : Int), .int .i64 y, .int .i64 z] 48)).alloc (.cells #[.int .i64 (s : Int), .int .i64 y, .int .i64 z] 48)).drew).ownsRow (w.heap.size + 3) 48 3 (.slice ar m cr) m (flat row)) := (((hor.alloc (.cells #[.int .i64 (s : Int), .int .i64 y, .int .i64 z] 48)).alloc (.cells #[.int .i64 (s : Int), .int .i64 y, .int .i64 z] 48)).below (Below.refl _ _).drew)
      have HH : Hid ((((wr.alloc (.cells #[.int .i64 (s : Int), .int .i64 y, .int .i64 z] 48)).alloc (.cells #[.int .i64 (s : Int), .int .i64 y, .int .i64 z] 48)).drew).heap.size = wr.heap.size + 1 + 1) := by
        unfold Hid
        simp
      have hbs : Hid (w.heap.size + 3 ≤ (((wr.alloc (.cells #[.int .i64 (s : Int), .int .i64 y, .int .i64 z] 48)).alloc (.cells #[.int .i64 (s : Int), .int .i64 y, .int .i64 z] 48)).drew).heap.size) := by
        rw [HH.out]
        unfold Hid
        omega
      have SN : Hid (∀ j u, (flat [((s : Int), y, z)])[j]? = some u → (((wr.alloc (.cells #[.int .i64 (s : Int), .int .i64 y, .int .i64 z] 48)).alloc (.cells #[.int .i64 (s : Int), .int .i64 y, .int .i64 z] 48)).drew).cell? ((⟨wr.heap.size + 1, 0, none⟩ : Addr).add j) = some u) := fun j u hu => by
        have hv : VarIs (((wr.alloc (.cells #[.int .i64 (s : Int), .int .i64 y, .int .i64 z] 48)).alloc (.cells #[.int .i64 (s : Int), .int .i64 y, .int .i64 z] 48)).drew) (wr.heap.size + 1) #[.int .i64 (s : Int), .int .i64 y, .int .i64 z] 48 := (VarIs.new (wr.alloc (.cells #[.int .i64 (s : Int), .int .i64 y, .int .i64 z] 48)) #[.int .i64 (s : Int), .int .i64 y, .int .i64 z] 48 (by simp)).drew
        rw [add_lit, Nat.zero_add]
        exact hv.cell (by simpa [flat, stCells] using hu)
      have XN : Hid (VarIs (((wr.alloc (.cells #[.int .i64 (s : Int), .int .i64 y, .int .i64 z] 48)).alloc (.cells #[.int .i64 (s : Int), .int .i64 y, .int .i64 z] 48)).drew) wr.heap.size #[.int .i64 (s : Int), .int .i64 y, .int .i64 z] 48) := ((VarIs.new wr #[.int .i64 (s : Int), .int .i64 y, .int .i64 z] 48 rfl).alloc _).drew
      have rlt : ∀ q, (Value.slice ar m cr).ownBlock = some q → w.heap.size + 3 ≤ q ∧ q < wr.heap.size := fun q hq => hor.lt q hq
      have XK : Hid (∀ w', World.grownBy (((wr.alloc (.cells #[.int .i64 (s : Int), .int .i64 y, .int .i64 z] 48)).alloc (.cells #[.int .i64 (s : Int), .int .i64 y, .int .i64 z] 48)).drew) w' (Value.slice ar m cr).ownBlock → VarIs w' wr.heap.size #[.int .i64 (s : Int), .int .i64 y, .int .i64 z] 48 ∧ w'.cell? ⟨wr.heap.size, 0, none⟩ = some (.int .i64 (s : Int)) ∧ w'.cell? ⟨wr.heap.size, 1, none⟩ = some (.int .i64 y) ∧ w'.cell? ⟨wr.heap.size, 2, none⟩ = some (.int .i64 z)) := fun w' hg => by
        have := XN.out.grown hg (fun e => by have := (rlt _ e.symm).2; omega)
        exact ⟨this, this.cell rfl, this.cell rfl, this.cell rfl⟩
      have VK : Hid (∀ w', World.grownBy (((wr.alloc (.cells #[.int .i64 (s : Int), .int .i64 y, .int .i64 z] 48)).alloc (.cells #[.int .i64 (s : Int), .int .i64 y, .int .i64 z] 48)).drew) w' (Value.slice ar m cr).ownBlock → VarIs w' (w.heap.size + 1 + 1) C 115) := fun w' hg => (((HVR.out.alloc _).alloc _).drew).grown hg (fun e => by have := (rlt _ e.symm).1; omega)
      have AK : Hid (∀ w', World.grownBy (((wr.alloc (.cells #[.int .i64 (s : Int), .int .i64 y, .int .i64 z] 48)).alloc (.cells #[.int .i64 (s : Int), .int .i64 y, .int .i64 z] 48)).drew) w' (Value.slice ar m cr).ownBlock → VarIs w' w.heap.size #[.int .i64 st, .int .i64 it, v2, v3, v4, .slice (some ⟨b, off, none⟩) n5 c5] 31) := fun w' hg => (((HVA.out.alloc _).alloc _).drew).grown hg (fun e => by have := (rlt _ e.symm).1; omega)
      have BK : Hid (∀ w', World.grownBy (((wr.alloc (.cells #[.int .i64 (s : Int), .int .i64 y, .int .i64 z] 48)).alloc (.cells #[.int .i64 (s : Int), .int .i64 y, .int .i64 z] 48)).drew) w' (Value.slice ar m cr).ownBlock → VarIs w' (w.heap.size + 1) #[.slice none 0 0, .slice none 0 0, .slice none 0 0, .slice none 0 0, .slice none 0 0, .slice none 0 0, .slice none 0 0, .slice none 0 0, .slice none 0 0, .slice none 0 0, .slice none 0 0, .slice none 0 0, .slice none 0 0, .slice none 0 0, .slice none 0 0, .slice none 0 0, .slice none 0 0, .slice none 0 0, .slice none 0 0, .slice none 0 0, .slice none 0 0, .slice none 0 0, .slice none 0 0, .slice none 0 0, .slice none 0 0, .slice none 0 0, .slice none 0 0, .slice none 0 0, .slice none 0 0, .slice none 0 0, .slice none 0 0, .slice none 0 0, .slice none 0 0, .slice none 0 0, .slice none 0 0, .slice none 0 0, .slice none 0 0, .slice none 0 0, .slice none 0 0, .slice none 0 0] 115) := fun w' hg => (((HVB.out.alloc _).alloc _).drew).grown hg (fun e => by have := (rlt _ e.symm).1; omega)
      have BELOW : Hid (∀ w', World.grownBy (((wr.alloc (.cells #[.int .i64 (s : Int), .int .i64 y, .int .i64 z] 48)).alloc (.cells #[.int .i64 (s : Int), .int .i64 y, .int .i64 z] 48)).drew) w' (Value.slice ar m cr).ownBlock → Below w.heap.size w w') := fun w' hg => Below.grown (((HB.out.alloc HB.out.size _).alloc (by simp; omega) _).drew) hg (by rw [HH.out]; omega) (fun q hq => by have := (rlt q hq).1; omega)
      have PUT : Hid (∀ g cap w', World.grownBy (((wr.alloc (.cells #[.int .i64 (s : Int), .int .i64 y, .int .i64 z] 48)).alloc (.cells #[.int .i64 (s : Int), .int .i64 y, .int .i64 z] 48)).drew) w' (Value.slice ar m cr).ownBlock → w'.ownsRow (w.heap.size + 3) 48 3 (.slice (some ⟨g, 0, none⟩) (m + 1) cap) (m + 1) (flat row ++ flat [((s : Int), y, z)]) → ((Value.slice ar m cr).ownBlock = some g ∨ g = wr.heap.size + 1 + 1) →
          RowsAt (w'.setCell ⟨(w.heap.size + 1 + 1), s, none⟩ (.slice (some ⟨g, 0, none⟩) (m + 1) cap)) (w.heap.size + 3) (C.setIfInBounds s (.slice (some ⟨g, 0, none⟩) (m + 1) cap)) (steps.take (k + 1))) := fun g cap w' hg ho hl => by
        have h0 := ((HRW.out.alloc (.cells #[.int .i64 (s : Int), .int .i64 y, .int .i64 z] 48)).alloc (.cells #[.int .i64 (s : Int), .int .i64 y, .int .i64 z] 48)).drew
        rw [List.take_succ_eq_append_getElem hkx, ← HS.out]
        rw [← flat_append] at ho
        rw [hm, hrow] at hg ho hl ⊢
        rw [hm, hrow] at hCs
        exact h0.put hs40 rfl hCs hg ho hl HH.out (by omega)
      have X0 := (VarIs.new wr #[.int .i64 (s : Int), .int .i64 y, .int .i64 z] 48 rfl).drew
      have S0 : VarIs (wr.alloc (.cells #[.int .i64 (s : Int), .int .i64 y, .int .i64 z] 48)).drew wr.heap.size #[.int .i64 (s : Int), .int .i64 y, .int .i64 z] 48 ∧ (wr.alloc (.cells #[.int .i64 (s : Int), .int .i64 y, .int .i64 z] 48)).drew.cell? ⟨wr.heap.size, 0, none⟩ = some (.int .i64 (s : Int)) ∧ (wr.alloc (.cells #[.int .i64 (s : Int), .int .i64 y, .int .i64 z] 48)).drew.cell? ⟨wr.heap.size, 1, none⟩ = some (.int .i64 y) ∧ (wr.alloc (.cells #[.int .i64 (s : Int), .int .i64 y, .int .i64 z] 48)).drew.cell? ⟨wr.heap.size, 2, none⟩ = some (.int .i64 z) := ⟨X0, X0.cell rfl, X0.cell rfl, X0.cell rfl⟩
      have SW : Hid (VarIs ((wr.alloc (.cells #[.int .i64 (s : Int), .int .i64 y, .int .i64 z] 48)).alloc (.cells #[.int .i64 (s : Int), .int .i64 y, .int .i64 z] 48)).drew wr.heap.size #[.int .i64 (s : Int), .int .i64 y, .int .i64 z] 48 ∧ ((wr.alloc (.cells #[.int .i64 (s : Int), .int .i64 y, .int .i64 z] 48)).alloc (.cells #[.int .i64 (s : Int), .int .i64 y, .int .i64 z] 48)).drew.cell? ⟨wr.heap.size, 0, none⟩ = some (.int .i64 (s : Int)) ∧ ((wr.alloc (.cells #[.int .i64 (s : Int), .int .i64 y, .int .i64 z] 48)).alloc (.cells #[.int .i64 (s : Int), .int .i64 y, .int .i64 z] 48)).drew.cell? ⟨wr.heap.size, 1, none⟩ = some (.int .i64 y) ∧ ((wr.alloc (.cells #[.int .i64 (s : Int), .int .i64 y, .int .i64 z] 48)).alloc (.cells #[.int .i64 (s : Int), .int .i64 y, .int .i64 z] 48)).drew.cell? ⟨wr.heap.size, 2, none⟩ = some (.int .i64 z)) := ⟨XN.out, XN.out.cell rfl, XN.out.cell rfl, XN.out.cell rfl⟩
      clear d0 d1 d2 hs hcell hCs hor hrow hm hf X0 XN HRW
      go_wp2_with fail
      clear g0 g1 g2 kb
      refine wp_region_held_drew (S := fun w' => VarIs w' wr.heap.size #[.int .i64 (s : Int), .int .i64 y, .int .i64 z] 48 ∧ w'.cell? ⟨wr.heap.size, 0, none⟩ = some (.int .i64 (s : Int)) ∧ w'.cell? ⟨wr.heap.size, 1, none⟩ = some (.int .i64 y) ∧ w'.cell? ⟨wr.heap.size, 2, none⟩ = some (.int .i64 z)) (by kernel_rfl) S0 (fun hHeld => ?_)
      change wpAnyH _ _ _ _ _ 11 (Array.replicate 11 false) _ _
      refine take_op 0 13 (.pointer (some ⟨wr.heap.size, 0, none⟩)) (fuel := 10) rfl rfl (by kernel_rfl) (by kernel_rfl) (by kernel_rfl) (fun _ _ _ h => h) (by rfl) (fun w hSw => by go_simp) hHeld ?_
      simp only [Act.put, List.setIfInBounds_toArray, List.set_cons_zero, List.set_cons_succ]
      refine take_op 1 14 (.int .i64 (s : Int)) (fuel := 9) rfl rfl (by kernel_rfl) (by kernel_rfl) (by kernel_rfl) (fun _ _ _ h => h) (by rfl) (fun w hSw => by go_simp) hHeld ?_
      simp only [Act.put, List.setIfInBounds_toArray, List.set_cons_zero, List.set_cons_succ]
      refine take_op 2 15 (.pointer (some ⟨wr.heap.size, 0, none⟩)) (fuel := 8) rfl rfl (by kernel_rfl) (by kernel_rfl) (by kernel_rfl) (fun _ _ _ h => h) (by rfl) (fun w hSw => by go_simp) hHeld ?_
      simp only [Act.put, List.setIfInBounds_toArray, List.set_cons_zero, List.set_cons_succ]
      refine take_op 3 16 (.int .i64 (s : Int)) (fuel := 7) rfl rfl (by kernel_rfl) (by kernel_rfl) (by kernel_rfl) (fun _ _ _ h => h) (by rfl) (fun w hSw => by go_simp) hHeld ?_
      simp only [Act.put, List.setIfInBounds_toArray, List.set_cons_zero, List.set_cons_succ]
      refine take_op 4 17 (.pointer (some ⟨(w.heap.size + 1 + 1), s, none⟩)) (fuel := 6) rfl rfl (by kernel_rfl) (by kernel_rfl) (by kernel_rfl) (fun _ _ _ h => h) (by rfl) (fun w hSw => by go_simp) hHeld ?_
      simp only [Act.put, List.setIfInBounds_toArray, List.set_cons_zero, List.set_cons_succ]
      refine take_op 6 19 (.agg #[.int .i64 (s : Int), .int .i64 y, .int .i64 z]) (fuel := 5) rfl rfl (by kernel_rfl) (by kernel_rfl) (by kernel_rfl) (fun _ _ _ h => h) (by rfl) (fun w hSw => by go_simp) hHeld ?_
      simp only [Act.put, List.setIfInBounds_toArray, List.set_cons_zero, List.set_cons_succ]

      refine wpAnyH_ready (rs := [5, 7]) (fuel := 4) (by kernel_rfl) (by simp) ?_
      refine AllReadyH.cons rfl (fun K hK => ?_) ?_
      · have rc2 : ((wr.alloc (.cells #[.int .i64 (s : Int), .int .i64 y, .int .i64 z] 48)).drew).cell? ⟨(w.heap.size + 1 + 1), s, none⟩ = some (.slice ar m cr) := (((HVR.out.alloc _).drew).cell CS.out)
        go_simp
        refine hK.out _ _ S0 (fun hHeld => ?_)
        clear hK K rc2
        refine wpAnyH_ready (rs := [7]) (fuel := 3) (by kernel_rfl) (by simp) ?_
        refine AllReadyH.cons rfl (fun K hK => ?_) AllReadyH.nil
        go_simp
        refine hK.out _ _ SW.out (fun hHeld => ?_)
        clear hK K S0
        refine wpAnyH_ready (rs := [8]) (fuel := 2) (by kernel_rfl) (by simp) ?_
        refine AllReadyH.cons rfl (fun K hK => ?_) AllReadyH.nil
        refine step_append_lies _ rfl (.tmp 18) (.tmp 20) 29 rfl (w.heap.size + 3) 48 i0 (.agg #[.int .i64 0, .int .i64 0, .int .i64 0]) 3 24 Tryz.underlying29 hi0 hz0 hz1 hz2 rfl (by decide) (.slice ar m cr) m (flat row) rfl OR.out ⟨wr.heap.size + 1, 0, none⟩ 1 1 (flat [((s : Int), y, z)]) rfl rfl SN.out (flat_one _) (by decide) (by unfold maxLen; omega) (by omega) hbs.out (wr.heap.size + 1 + 1) HH.out ?_
        intro g cap w' hown' hgrow hlies hlt'
        have HS1 : VarIs w' wr.heap.size #[.int .i64 (s : Int), .int .i64 y, .int .i64 z] 48 ∧ w'.cell? ⟨wr.heap.size, 0, none⟩ = some (.int .i64 (s : Int)) ∧ w'.cell? ⟨wr.heap.size, 1, none⟩ = some (.int .i64 y) ∧ w'.cell? ⟨wr.heap.size, 2, none⟩ = some (.int .i64 z) := XK.out w' hgrow
        have HO1 := Lib.hid hown'
        have HG1 := Lib.hid hgrow
        have HL1 := Lib.hid hlies
        clear hown' hgrow hlies hlt'
        refine hK.out _ _ HS1 (fun hHeld => ?_)
        clear hK K HS1
        simp only [Act.put, List.setIfInBounds_toArray]
        have VR1 := Lib.hid (VK.out w' HG1.out)
        have kcell := VR1.out.cell (j := s) CS.out
        have kfro := VR1.out.frozen s
        refine take_op 9 22 (.pointer (some ⟨(w.heap.size + 1 + 1), s, none⟩)) (fuel := 1) rfl rfl (by kernel_rfl) (by kernel_rfl) (by kernel_rfl) (fun _ _ _ h => h) (by rfl) (fun w hSw => by go_simp) hHeld ?_
        simp only [Act.put]
        refine wpAnyH_ready (rs := [10]) (fuel := 0) (by kernel_rfl) (by simp) ?_
        refine AllReadyH.cons rfl (fun K hK => ?_) AllReadyH.nil
        go_simp
        have HX2 : VarIs (w'.setCell ⟨(w.heap.size + 1 + 1), s, none⟩ (.slice (some ⟨g, 0, none⟩) (m + 1) cap)) wr.heap.size #[.int .i64 (s : Int), .int .i64 y, .int .i64 z] 48 := hHeld.1.other (by omega) _
        refine hK.out _ _ ⟨HX2, HX2.cell rfl, HX2.cell rfl, HX2.cell rfl⟩ (fun hHeld2 => ?_)
        clear hK K HX2
        refine wpAnyH_done (by kernel_rfl) ?_ _
        have HP := Lib.hid (PUT.out g cap w' HG1.out HO1.out HL1.out)
        have VR2 := Lib.hid (VR1.out.set s (.slice (some ⟨g, 0, none⟩) (m + 1) cap))
        have VA2 := Lib.hid ((AK.out w' HG1.out).other (g := (w.heap.size + 1 + 1)) (j := s) (by omega) (.slice (some ⟨g, 0, none⟩) (m + 1) cap))
        have VB2 := Lib.hid ((BK.out w' HG1.out).other (g := (w.heap.size + 1 + 1)) (j := s) (by omega) (.slice (some ⟨g, 0, none⟩) (m + 1) cap))
        have BB := Lib.hid (below_setCell (g := (w.heap.size + 1 + 1)) (j := s) (BELOW.out w' HG1.out) (by omega) (.slice (some ⟨g, 0, none⟩) (m + 1) cap))
        clear hHeld hHeld2 kcell kfro VR1 HO1 HG1 HL1
        go_wp2_with fail
        go_roundw
        case rel => exact ⟨k + 1, _, by omega, by go_num, BB.out, VA2.out, VB2.out, VR2.out, HP.out⟩
        case measure => simp [intOf]; omega
      · refine AllReadyH.cons rfl (fun K hK => ?_) AllReadyH.nil
        go_simp
        refine hK.out _ _ SW.out (fun hHeld => ?_)
        clear hK K S0
        have rc2 : (((wr.alloc (.cells #[.int .i64 (s : Int), .int .i64 y, .int .i64 z] 48)).alloc (.cells #[.int .i64 (s : Int), .int .i64 y, .int .i64 z] 48)).drew).cell? ⟨(w.heap.size + 1 + 1), s, none⟩ = some (.slice ar m cr) := ((((HVR.out.alloc _).alloc _).drew).cell CS.out)
        refine wpAnyH_ready (rs := [5]) (fuel := 3) (by kernel_rfl) (by simp) ?_
        refine AllReadyH.cons rfl (fun K hK => ?_) AllReadyH.nil
        go_simp
        refine hK.out _ _ SW.out (fun hHeld => ?_)
        clear hK K rc2
        refine wpAnyH_ready (rs := [8]) (fuel := 2) (by kernel_rfl) (by simp) ?_
        refine AllReadyH.cons rfl (fun K hK => ?_) AllReadyH.nil
        refine step_append_lies _ rfl (.tmp 18) (.tmp 20) 29 rfl (w.heap.size + 3) 48 i0 (.agg #[.int .i64 0, .int .i64 0, .int .i64 0]) 3 24 Tryz.underlying29 hi0 hz0 hz1 hz2 rfl (by decide) (.slice ar m cr) m (flat row) rfl OR.out ⟨wr.heap.size + 1, 0, none⟩ 1 1 (flat [((s : Int), y, z)]) rfl rfl SN.out (flat_one _) (by decide) (by unfold maxLen; omega) (by omega) hbs.out (wr.heap.size + 1 + 1) HH.out ?_
        intro g cap w' hown' hgrow hlies hlt'
        have HS1 : VarIs w' wr.heap.size #[.int .i64 (s : Int), .int .i64 y, .int .i64 z] 48 ∧ w'.cell? ⟨wr.heap.size, 0, none⟩ = some (.int .i64 (s : Int)) ∧ w'.cell? ⟨wr.heap.size, 1, none⟩ = some (.int .i64 y) ∧ w'.cell? ⟨wr.heap.size, 2, none⟩ = some (.int .i64 z) := XK.out w' hgrow
        have HO1 := Lib.hid hown'
        have HG1 := Lib.hid hgrow
        have HL1 := Lib.hid hlies
        clear hown' hgrow hlies hlt'
        refine hK.out _ _ HS1 (fun hHeld => ?_)
        clear hK K HS1
        simp only [Act.put, List.setIfInBounds_toArray]
        have VR1 := Lib.hid (VK.out w' HG1.out)
        have kcell := VR1.out.cell (j := s) CS.out
        have kfro := VR1.out.frozen s
        refine take_op 9 22 (.pointer (some ⟨(w.heap.size + 1 + 1), s, none⟩)) (fuel := 1) rfl rfl (by kernel_rfl) (by kernel_rfl) (by kernel_rfl) (fun _ _ _ h => h) (by rfl) (fun w hSw => by go_simp) hHeld ?_
        simp only [Act.put]
        refine wpAnyH_ready (rs := [10]) (fuel := 0) (by kernel_rfl) (by simp) ?_
        refine AllReadyH.cons rfl (fun K hK => ?_) AllReadyH.nil
        go_simp
        have HX2 : VarIs (w'.setCell ⟨(w.heap.size + 1 + 1), s, none⟩ (.slice (some ⟨g, 0, none⟩) (m + 1) cap)) wr.heap.size #[.int .i64 (s : Int), .int .i64 y, .int .i64 z] 48 := hHeld.1.other (by omega) _
        refine hK.out _ _ ⟨HX2, HX2.cell rfl, HX2.cell rfl, HX2.cell rfl⟩ (fun hHeld2 => ?_)
        clear hK K HX2
        refine wpAnyH_done (by kernel_rfl) ?_ _
        have HP := Lib.hid (PUT.out g cap w' HG1.out HO1.out HL1.out)
        have VR2 := Lib.hid (VR1.out.set s (.slice (some ⟨g, 0, none⟩) (m + 1) cap))
        have VA2 := Lib.hid ((AK.out w' HG1.out).other (g := (w.heap.size + 1 + 1)) (j := s) (by omega) (.slice (some ⟨g, 0, none⟩) (m + 1) cap))
        have VB2 := Lib.hid ((BK.out w' HG1.out).other (g := (w.heap.size + 1 + 1)) (j := s) (by omega) (.slice (some ⟨g, 0, none⟩) (m + 1) cap))
        have BB := Lib.hid (below_setCell (g := (w.heap.size + 1 + 1)) (j := s) (BELOW.out w' HG1.out) (by omega) (.slice (some ⟨g, 0, none⟩) (m + 1) cap))
        clear hHeld hHeld2 kcell kfro VR1 HO1 HG1 HL1
        go_wp2_with fail
        go_roundw
        case rel => exact ⟨k + 1, _, by omega, by go_num, BB.out, VA2.out, VB2.out, VR2.out, HP.out⟩
        case measure => simp [intOf]; omega
    · have HE : Hid (RowsAt wr (w.heap.size + 3) C steps) := by
        have := HRW.out
        rw [List.take_of_length_le (by rw [HL5.out]; omega)] at this
        exact this
      have hCl : C.toList.length = 40 := by simpa using HE.out.1
      have HCL := Lib.hid hCl
      have RG := Lib.hid HVR.out.range
      have TH : Hid (wr.there (w.heap.size + 1) 0 C.toList.toArray.size) := HVB.out.there (by simp [HE.out.1])
      have ON : Hid (C.toList.toArray.all (·.oneCell') = true) := all_oneCell_toArray (fun u hu => HE.out.one u (by simpa using hu))
      clear hCl HRW
      go_wp2_with (first | refine wpList_load_mid rfl _ _ rfl (w.heap.size + 1 + 1) 0 rfl C.toList _ RG.out Tryz.underlying115 rfl (by rw [HCL.out]; kernel_rfl) ?_ | refine wpList_store_mid rfl _ _ _ rfl (w.heap.size + 1) 0 C.toList.toArray rfl rfl TH.out (by rw [List.size_toArray, HCL.out]; kernel_rfl) ON.out ?_)
      have RG2 : Hid ((wr.setCells (w.heap.size + 1) 0 C.toList).rangeAt (w.heap.size + 1) 0 C.toList) := World.rangeAt_setCells_same wr (w.heap.size + 1) 0 C.toList (by simpa using TH.out)
      have HGS := Lib.hid (grown_setCells (w.heap.size + 1) C.toList 0 wr)
      refine bodyPost_ret (v := .agg C) ?_ rfl ⟨C, rfl, (HE.out.grown HGS.out (by omega)).mono (by omega), HB.out.grown HGS.out HB.out.size (fun q hq => by cases hq; omega)⟩
      have HLD := run_loadVar_mid (P := Tryz.prog) _ (w.heap.size + 1) 0 115 C.toList _ RG2.out Tryz.underlying115 rfl (by rw [HCL.out]; kernel_rfl)
      simp [results, Tryz.results91, asAddr, HLD]

end Go.Proofs.YtdbgjgeglgipiaaGreat
