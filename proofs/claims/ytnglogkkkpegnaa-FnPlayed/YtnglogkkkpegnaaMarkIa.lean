/-
  Contracts of the laws' markStepS and markIa. Conditions: rows of the call's own of at most 2^38 elements; numbers of at most 2^41.
-/
import Derived.Test.YtnglogkkkpegnaaToStep
import Derived.Test.YtnglogkkkpegnaaMark
namespace Go.Proofs.Ytnglogkkkpegnaa
open Go.RowKit

def marksS (k : Int) (n : Nat) : List St := (List.range n).map (fun i : Nat => (k + 3 * (i : Int), k + 3 * (i : Int) + 1, k + 3 * (i : Int) + 1 + 1))

theorem marksS_len (k : Int) (n : Nat) : (marksS k n).length = n := by simp [marksS]
theorem marksS_succ (k : Int) (n : Nat) : marksS k (n + 1) = marksS k n ++ [(k + 3 * (n : Int), k + 3 * (n : Int) + 1, k + 3 * (n : Int) + 1 + 1)] := by simp [marksS, List.range_succ]

theorem markedS_step {k0 : Int} {ss : List St} {j n : Nat} (hl : ss.length = n) (hj : j < n) :
    (marksS k0 j ++ ss.drop j).set j (k0 + 3 * (j : Int), k0 + 3 * (j : Int) + 1, k0 + 3 * (j : Int) + 1 + 1) = marksS k0 (j + 1) ++ ss.drop (j + 1) := by
  rw [List.drop_eq_getElem_cons (by omega : j < ss.length), List.set_append, if_neg (by simp [marksS_len])]
  have e : j - (marksS k0 j).length = 0 := by simp [marksS_len]
  rw [e, marksS_succ]
  simp only [List.set_cons_zero, List.append_assoc, List.cons_append, List.nil_append]

/-- What markStepS leaves. -/
def MarkResS (w : World) (base : Nat) (v : Value) (k0 : Int) (n : Nat) (e : Ending) (w' : World) : Prop :=
  e = .returned (.int .i64 (k0 + 3 * (n : Int))) ∧ OwnsS 34 w' base v n (marksS k0 n) ∧ w.grownBy w' v.ownBlock

set_option maxRecDepth 20000 in
set_option maxHeartbeats 1600000 in
theorem markS_any (v : Value) (n base : Nat) (k0 : Int) (ss : List St) (w : World) (h : OwnsS 34 w base v n ss) (hn : n ≤ 274877906944) (hk0 : 0 ≤ k0) (hk1 : k0 ≤ 4398046511104) :
    Calls Try.prog 25 #[v, .int .i64 k0] w (MarkResS w base v k0 n) := by
  have hl := h.length
  by_cases hv : v = .slice none 0 0
  · subst hv
    obtain rfl : n = 0 := h.row.1.symm
    have H := Lib.hid h
    have HL := Lib.hid hl
    clear h hl
    go_enter Try.func25, Try.ntmps25
    go_wp2
    go_loop [1, 5] (fun k i => k = .int .i64 k0 ∧ i = .int .i64 0) (fun _ _ => 0)
    case atStart => exact ⟨rfl, rfl⟩
    case round =>
      obtain ⟨rfl, rfl⟩ := hrel
      go_wp2
      go_ret
      have e := H.out
      obtain rfl : ss = [] := List.length_eq_zero_iff.1 HL.out
      exact ⟨ret_int (by simp), e, ⟨rfl, rfl, rfl, Nat.le_refl _, fun _ _ _ => rfl⟩⟩
  · obtain ⟨g, c, rfl⟩ := h.head hv
    have hnc := h.row.2.1
    have hcm := h.row.2.2.1
    unfold maxLen at hcm
    have H := Lib.hid h
    have HL := Lib.hid hl
    clear h hl hv
    go_enter Try.func25, Try.ntmps25
    go_wp2
    go_loopw [1, 5] (fun k i wr => ∃ j : Nat, j ≤ n ∧ i = .int .i64 j ∧ k = .int .i64 (k0 + 3 * (j : Int)) ∧ Hid (OwnsS 34 wr base (.slice (some ⟨g, 0, none⟩) n c) n (marksS k0 j ++ ss.drop j)) ∧ Hid (w.grownBy wr (some g))) (fun _ i _ => n - (intOf i).toNat)
    case atStart => exact ⟨0, Nat.zero_le _, rfl, by simp, by simpa [marksS, Hid] using H.out, ⟨rfl, rfl, rfl, Nat.le_refl _, fun _ _ _ => rfl⟩⟩
    case round =>
      obtain ⟨j, hj, rfl, rfl, HO, HG⟩ := hrel
      by_cases hlt : j < n
      · have o0 : wr.ownsRow base 34 3 (.slice (some ⟨g, 0, none⟩) n c) n (flat (marksS k0 j ++ ss.drop j)) := HO.out
        have hlen : (flat (marksS k0 j ++ ss.drop j)).length = n * 3 := o0.1
        have o1 := (o0.stored (j * 3) (.int .i64 (k0 + 3 * (j : Int)))).1
        have o2 := (o1.stored (j * 3 + 1) (.int .i64 (k0 + 3 * (j : Int) + 1))).1
        obtain ⟨u0, g0⟩ : ∃ u, wr.cell? ⟨g, j * 3, none⟩ = some u := ⟨_, (o0.cellAt (j * 3) (by omega)).trans (List.getElem?_eq_getElem (by omega))⟩
        have f0 := o0.frozenAt (j * 3)
        obtain ⟨u1, g1⟩ : ∃ u, (wr.setCell ⟨g, j * 3, none⟩ (.int .i64 (k0 + 3 * (j : Int)))).cell? ⟨g, j * 3 + 1, none⟩ = some u := ⟨_, (o1.cellAt (j * 3 + 1) (by omega)).trans (List.getElem?_eq_getElem (by simp; omega))⟩
        have f1 := o1.frozenAt (j * 3 + 1)
        obtain ⟨u2, g2⟩ : ∃ u, ((wr.setCell ⟨g, j * 3, none⟩ (.int .i64 (k0 + 3 * (j : Int)))).setCell ⟨g, j * 3 + 1, none⟩ (.int .i64 (k0 + 3 * (j : Int) + 1))).cell? ⟨g, j * 3 + 2, none⟩ = some u := ⟨_, (o2.cellAt (j * 3 + 2) (by omega)).trans (List.getElem?_eq_getElem (by simp; omega))⟩
        have f2 := o2.frozenAt (j * 3 + 2)
        have hst := HO.out.stored j (k0 + 3 * (j : Int), k0 + 3 * (j : Int) + 1, k0 + 3 * (j : Int) + 1 + 1)
        rw [markedS_step HL.out hlt] at hst
        have HT := Lib.hid hst
        clear hst o0 o1 o2 hlen HO
        go_wp2
        go_roundw
        case rel => exact ⟨j + 1, by omega, by go_num, by go_num, HT.out.1, grownBy_trans HG.out HT.out.2⟩
        case measure => simp [intOf]; omega
      · have HO2 : Hid (OwnsS 34 wr base (.slice (some ⟨g, 0, none⟩) n c) n (marksS k0 n)) := by
          obtain rfl : j = n := by omega
          have := HO.out
          rw [List.drop_eq_nil_of_le (by rw [HL.out]; exact Nat.le_refl _), List.append_nil] at this
          exact this
        have HJ : Hid (j = n) := by unfold Hid; omega
        go_wp2
        go_ret
        exact ⟨ret_int (by rw [HJ.out]), HO2.out, HG.out⟩

theorem VarIs.other2 {w w' : World} {b g : Nat} {C : Array Value} {t : TypeId} (h : VarIs w b C t) (hw : w.grownBy w' (some g)) (hg : b ≠ g) : VarIs w' b C t :=
  (hw.block b h.lt (fun e => hg (Option.some.inj e))).trans h

/-- What markIa leaves of a copy: all its lists hold numbers that go on from one another. -/
def MarkResIa (w : World) (base : Nat) (e : Ending) (w' : World) : Prop :=
  ∃ r : Int, 0 ≤ r ∧ e = .returned (.int .i64 r) ∧ Below base w w'

set_option maxRecDepth 20000 in
set_option maxHeartbeats 1600000 in
theorem markIa_any (a : IaD) (v : Value) (base : Nat) (w : World) (h : IaAt w base a v) (hbase : base ≤ w.heap.size) (f2 : a.ins.length ≤ 274877906944) (f3 : a.outs.length ≤ 274877906944) (f4 : a.hids.length ≤ 274877906944) (f5 : a.steps.length ≤ 274877906944) :
    Calls Try.prog 23 #[v, .int .i64 1] w (MarkResIa w base) := by
  obtain ⟨g2, g3, g4, g5, rfl, b2, l3, l4, l5, o2, o3, o4, o5⟩ := h
  obtain ⟨st, it, ins, outs, hids, steps⟩ := a
  simp only at f2 f3 f4 f5 o2 o3 o4 o5
  have lt5 := (o5.lt g5 rfl).2
  have O2 := Lib.hid (o2.alloc (.cells #[.int .i64 st, .int .i64 it, .slice (some ⟨g2, 0, none⟩) ins.length ins.length, .slice (some ⟨g3, 0, none⟩) outs.length outs.length, .slice (some ⟨g4, 0, none⟩) hids.length hids.length, .slice (some ⟨g5, 0, none⟩) steps.length steps.length] 27))
  have O3 := Lib.hid (o3.alloc (.cells #[.int .i64 st, .int .i64 it, .slice (some ⟨g2, 0, none⟩) ins.length ins.length, .slice (some ⟨g3, 0, none⟩) outs.length outs.length, .slice (some ⟨g4, 0, none⟩) hids.length hids.length, .slice (some ⟨g5, 0, none⟩) steps.length steps.length] 27))
  have O4 := Lib.hid (o4.alloc (.cells #[.int .i64 st, .int .i64 it, .slice (some ⟨g2, 0, none⟩) ins.length ins.length, .slice (some ⟨g3, 0, none⟩) outs.length outs.length, .slice (some ⟨g4, 0, none⟩) hids.length hids.length, .slice (some ⟨g5, 0, none⟩) steps.length steps.length] 27))
  have O5 := Lib.hid (o5.alloc (.cells #[.int .i64 st, .int .i64 it, .slice (some ⟨g2, 0, none⟩) ins.length ins.length, .slice (some ⟨g3, 0, none⟩) outs.length outs.length, .slice (some ⟨g4, 0, none⟩) hids.length hids.length, .slice (some ⟨g5, 0, none⟩) steps.length steps.length] 27))
  have V0 := Lib.hid (VarIs.new w #[.int .i64 st, .int .i64 it, .slice (some ⟨g2, 0, none⟩) ins.length ins.length, .slice (some ⟨g3, 0, none⟩) outs.length outs.length, .slice (some ⟨g4, 0, none⟩) hids.length hids.length, .slice (some ⟨g5, 0, none⟩) steps.length steps.length] 27 rfl)
  have B0 : Hid (∀ o, Below base w (w.alloc o)) := fun o => (Below.refl _ _).alloc hbase _
  clear o2 o3 o4 o5
  go_enter Try.func23, Try.ntmps23
  go_wp2_with fail
  refine (mark_any _ ins.length base 1 ins _ O2.out (by omega) (by omega) (by omega)).mono ?_
  rintro e w1 ⟨rfl, _, hg0⟩
  have hg : World.grownBy _ w1 (some g2) := hg0
  clear hg0
  have V1 := Lib.hid (V0.out.other2 hg (by omega))
  have O3a := Lib.hid (owns_other O3.out hg (by omega))
  have O4a := Lib.hid (owns_other O4.out hg (by omega))
  have O5a := Lib.hid (ownsS_other O5.out hg (by omega))
  have B1 : Hid (Below base w w1) := (B0.out _).grown hg (Nat.le_trans hbase (B0.out _).size) (fun k h => by cases h; exact b2)
  clear hg
  have k1 := V1.out.cell (j := 3) rfl
  go_wp2_with fail
  clear k1
  refine (mark_any _ outs.length base _ outs _ O3a.out (by omega) (by omega) (by omega)).mono ?_
  rintro e w2 ⟨rfl, _, hg0⟩
  have hg : World.grownBy _ w2 (some g3) := hg0
  clear hg0
  have V2 := Lib.hid (V1.out.other2 hg (by omega))
  have O4b := Lib.hid (owns_other O4a.out hg (by omega))
  have O5b := Lib.hid (ownsS_other O5a.out hg (by omega))
  have B2 : Hid (Below base w w2) := B1.out.grown hg (Nat.le_trans hbase B1.out.size) (fun k h => by cases h; show base ≤ g3; omega)
  clear hg
  have k1 := V2.out.cell (j := 4) rfl
  go_wp2_with fail
  clear k1
  refine (mark_any _ hids.length base _ hids _ O4b.out (by omega) (by omega) (by omega)).mono ?_
  rintro e w3 ⟨rfl, _, hg0⟩
  have hg : World.grownBy _ w3 (some g4) := hg0
  clear hg0
  have V3 := Lib.hid (V2.out.other2 hg (by omega))
  have O5c := Lib.hid (ownsS_other O5b.out hg (by omega))
  have B3 : Hid (Below base w w3) := B2.out.grown hg (Nat.le_trans hbase B2.out.size) (fun k h => by cases h; show base ≤ g4; omega)
  clear hg
  have k1 := V3.out.cell (j := 5) rfl
  go_wp2_with fail
  clear k1
  refine (markS_any _ steps.length base _ steps _ O5c.out (by omega) (by omega) (by omega)).mono ?_
  rintro e w4 ⟨rfl, _, hg0⟩
  have hg : World.grownBy _ w4 (some g5) := hg0
  clear hg0
  have B4 : Hid (Below base w w4) := B3.out.grown hg (Nat.le_trans hbase B3.out.size) (fun k h => by cases h; show base ≤ g5; omega)
  clear hg
  go_wp2_with fail
  go_ret
  exact ⟨_, by omega, rfl, B4.out⟩

end Go.Proofs.Ytnglogkkkpegnaa
