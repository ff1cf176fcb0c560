/-
  The contract of the laws' eqIa: whether two automata are the same, field by field. Conditions: the slices read as lists of at most 2^40 elements.
-/
import Derived.Test.YtalanlmhfggheaaEqStep
namespace Go.Proofs.Ytalanlmhfggheaa
open Go.RowKit

theorem IaD.same {a b : IaD} : a = b ↔ a.states = b.states ∧ a.init = b.init ∧ a.ins = b.ins ∧ a.outs = b.outs ∧ a.hids = b.hids ∧ a.steps = b.steps := by
  cases a; cases b; simp

open Classical in
/-- Whether two automata are the same. -/
noncomputable def sameB (a b : IaD) : Bool := decide (a = b)

theorem sameB_refl (a : IaD) : sameB a a = true := by simp [sameB]
theorem sameB_yes {a b : IaD} (h : a = b) : sameB a b = true := by subst h; exact sameB_refl a
theorem sameB_no {a b : IaD} (h : ¬ a = b) : sameB a b = false := by simp [sameB, h]

theorem IaRow.below {w w' : World} {a : IaD} {v : Value} (h : IaRow w a v) (hb : Below w.heap.size w w') : IaRow w' a v := by
  obtain ⟨a2, n2, c2, a3, n3, c3, a4, n4, c4, a5, n5, c5, rfl, r2, r3, r4, r5⟩ := h
  exact ⟨a2, n2, c2, a3, n3, c3, a4, n4, c4, a5, n5, c5, rfl, r2.below hb, r3.below hb, r4.below hb, r5.below hb⟩

theorem IaAt.row {w : World} {base : Nat} {a : IaD} {v : Value} (h : IaAt w base a v) : IaRow w a v := by
  obtain ⟨g2, g3, g4, g5, rfl, _, _, _, _, o2, o3, o4, o5⟩ := h
  exact ⟨_, _, _, _, _, _, _, _, _, _, _, _, rfl, o2.row.2.2.2, o3.row.2.2.2, o4.row.2.2.2, o5.row.2.2.2⟩

set_option maxRecDepth 20000 in
set_option maxHeartbeats 3200000 in
theorem eqIa_any (a b : IaD) (v v' : Value) (w : World) (h : IaRow w a v) (h' : IaRow w b v') (hf : IaFits a) (hf' : IaFits b) :
    Calls Try.prog 11 #[v, v'] w fun e w' => e = .returned (.bool (sameB a b)) ∧ Below w.heap.size w w' := by
  obtain ⟨a2, n2, c2, a3, n3, c3, a4, n4, c4, a5, n5, c5, rfl, r2, r3, r4, r5⟩ := h
  obtain ⟨b2, m2, d2, b3, m3, d3, b4, m4, d4, b5, m5, d5, rfl, q2, q3, q4, q5⟩ := h'
  obtain ⟨r, hr⟩ : ∃ r, r = sameB a b := ⟨_, rfl⟩
  rw [← hr]
  have HN : Hid (∀ p : a = b → False, r = false) := fun p => hr.trans (sameB_no p)
  have HY : Hid (∀ p : a = b, r = true) := fun p => hr.trans (sameB_yes p)
  clear hr
  have R2 := Lib.hid r2
  have Q2 := Lib.hid q2
  have R3 := Lib.hid r3
  have Q3 := Lib.hid q3
  have R4 := Lib.hid r4
  have Q4 := Lib.hid q4
  have R5 := Lib.hid r5
  have Q5 := Lib.hid q5
  clear r2 r3 r4 r5 q2 q3 q4 q5
  have F2 := Lib.hid (R2.out.1.symm ▸ hf.1)
  have F3 := Lib.hid (R3.out.1.symm ▸ hf.2.1)
  have F4 := Lib.hid (R4.out.1.symm ▸ hf.2.2.1)
  have F5 := Lib.hid (R5.out.1.symm ▸ hf.2.2.2)
  have G2 := Lib.hid (Q2.out.1.symm ▸ hf'.1)
  have G3 := Lib.hid (Q3.out.1.symm ▸ hf'.2.1)
  have G4 := Lib.hid (Q4.out.1.symm ▸ hf'.2.2.1)
  have G5 := Lib.hid (Q5.out.1.symm ▸ hf'.2.2.2)
  clear hf hf'
  obtain ⟨st, it, ins, outs, hids, steps⟩ := a
  obtain ⟨st', it', ins', outs', hids', steps'⟩ := b
  simp only at R2 R3 R4 R5 Q2 Q3 Q4 Q5 F2 F3 F4 F5 G2 G3 G4 G5
  have HB : Hid (∀ o o', Below w.heap.size w ((w.alloc o).alloc o')) := fun o o' => ((Below.refl _ _).alloc (Nat.le_refl _) _).alloc (by simp) _
  by_cases e0 : st = st'
  · by_cases e1 : it = it'
    · have E0 := Lib.hid e0
      have E1 := Lib.hid e1
      subst e0 e1
      go_enter Try.func11, Try.ntmps11
      go_wp2_with fail
      refine (eqIntS_any a2 b2 n2 c2 m2 d2 ins ins' _ (R2.out.below (HB.out _ _)) (Q2.out.below (HB.out _ _)) F2.out G2.out).mono ?_
      rintro e w1 ⟨rfl, hb⟩
      have B1 : Hid (Below w.heap.size w w1) := (HB.out _ _).trans (hb.mono (by simp; omega))
      have VA1 : Hid (VarIs w1 w.heap.size #[.int .i64 st, .int .i64 it, .slice a2 n2 c2, .slice a3 n3 c3, .slice a4 n4 c4, .slice a5 n5 c5] 30) := ((VarIs.new w _ _ rfl).alloc _).below hb
      have VB1 : Hid (VarIs w1 (w.heap.size + 1) #[.int .i64 st, .int .i64 it, .slice b2 m2 d2, .slice b3 m3 d3, .slice b4 m4 d4, .slice b5 m5 d5] 30) := (VarIs.new _ _ _ (by simp)).below hb
      clear hb
      by_cases e2 : ins = ins'
      · rw [decide_eq_true e2]
        have k1 := VA1.out.cell (j := 3) rfl
        have k2 := VB1.out.cell (j := 3) rfl
        go_wp2_with fail
        clear k1 k2
        refine (eqIntS_any a3 b3 n3 c3 m3 d3 outs outs' _ (R3.out.below B1.out) (Q3.out.below B1.out) F3.out G3.out).mono ?_
        rintro e w2 ⟨rfl, hb⟩
        have B2 : Hid (Below w.heap.size w w2) := B1.out.trans (hb.mono B1.out.size)
        have VA2 : Hid (VarIs w2 w.heap.size #[.int .i64 st, .int .i64 it, .slice a2 n2 c2, .slice a3 n3 c3, .slice a4 n4 c4, .slice a5 n5 c5] 30) := VA1.out.below hb
        have VB2 : Hid (VarIs w2 (w.heap.size + 1) #[.int .i64 st, .int .i64 it, .slice b2 m2 d2, .slice b3 m3 d3, .slice b4 m4 d4, .slice b5 m5 d5] 30) := VB1.out.below hb
        clear hb
        by_cases e3 : outs = outs'
        · rw [decide_eq_true e3]
          have k1 := VA2.out.cell (j := 4) rfl
          have k2 := VB2.out.cell (j := 4) rfl
          go_wp2_with fail
          clear k1 k2
          refine (eqIntS_any a4 b4 n4 c4 m4 d4 hids hids' _ (R4.out.below B2.out) (Q4.out.below B2.out) F4.out G4.out).mono ?_
          rintro e w3 ⟨rfl, hb⟩
          have B3 : Hid (Below w.heap.size w w3) := B2.out.trans (hb.mono B2.out.size)
          have VA3 : Hid (VarIs w3 w.heap.size #[.int .i64 st, .int .i64 it, .slice a2 n2 c2, .slice a3 n3 c3, .slice a4 n4 c4, .slice a5 n5 c5] 30) := VA2.out.below hb
          have VB3 : Hid (VarIs w3 (w.heap.size + 1) #[.int .i64 st, .int .i64 it, .slice b2 m2 d2, .slice b3 m3 d3, .slice b4 m4 d4, .slice b5 m5 d5] 30) := VB2.out.below hb
          clear hb
          by_cases e4 : hids = hids'
          · rw [decide_eq_true e4]
            have k1 := VA3.out.cell (j := 5) rfl
            have k2 := VB3.out.cell (j := 5) rfl
            go_wp2_with fail
            clear k1 k2
            refine (eqStepS_any a5 b5 n5 c5 m5 d5 steps steps' _ (R5.out.below B3.out) (Q5.out.below B3.out) F5.out G5.out).mono ?_
            rintro e w4 ⟨rfl, hb⟩
            have B4 : Hid (Below w.heap.size w w4) := B3.out.trans (hb.mono B3.out.size)
            have VA4 : Hid (VarIs w4 w.heap.size #[.int .i64 st, .int .i64 it, .slice a2 n2 c2, .slice a3 n3 c3, .slice a4 n4 c4, .slice a5 n5 c5] 30) := VA3.out.below hb
            have VB4 : Hid (VarIs w4 (w.heap.size + 1) #[.int .i64 st, .int .i64 it, .slice b2 m2 d2, .slice b3 m3 d3, .slice b4 m4 d4, .slice b5 m5 d5] 30) := VB3.out.below hb
            clear hb
            by_cases e5 : steps = steps'
            · rw [decide_eq_true e5]
              go_wp2_with fail
              go_ret
              exact ⟨ret_bool (Eq.symm (HY.out (by rw [e2, e3, e4, e5]))), B4.out⟩
            · rw [decide_eq_false e5]
              go_wp2_with fail
              go_ret
              exact ⟨ret_bool (Eq.symm (HN.out (fun p => e5 (IaD.mk.inj p).2.2.2.2.2))), B4.out⟩
          · rw [decide_eq_false e4]
            go_wp2_with fail
            go_ret
            exact ⟨ret_bool (Eq.symm (HN.out (fun p => e4 (IaD.mk.inj p).2.2.2.2.1))), B3.out⟩
        · rw [decide_eq_false e3]
          go_wp2_with fail
          go_ret
          exact ⟨ret_bool (Eq.symm (HN.out (fun p => e3 (IaD.mk.inj p).2.2.2.1))), B2.out⟩
      · rw [decide_eq_false e2]
        go_wp2_with fail
        go_ret
        exact ⟨ret_bool (Eq.symm (HN.out (fun p => e2 (IaD.mk.inj p).2.2.1))), B1.out⟩
    · go_enter Try.func11, Try.ntmps11
      go_wp2_with fail
      go_ret
      exact ⟨ret_bool (Eq.symm (HN.out (fun p => e1 (IaD.mk.inj p).2.1))), HB.out _ _⟩
  · go_enter Try.func11, Try.ntmps11
    go_wp2_with fail
    go_ret
    exact ⟨ret_bool (Eq.symm (HN.out (fun p => e0 (IaD.mk.inj p).1))), HB.out _ _⟩

end Go.Proofs.Ytalanlmhfggheaa
