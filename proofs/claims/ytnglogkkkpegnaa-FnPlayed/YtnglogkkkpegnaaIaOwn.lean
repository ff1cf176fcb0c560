/-
  An automaton whose lists are the call's own; the contracts of the laws' markIa, heldStepS and heldIa over one. Conditions: lists of at most 2^21 elements.
-/
import Derived.Test.YtnglogkkkpegnaaMarkIa2
import Derived.Test.YtnglogkkkpegnaaIaLaw
namespace Go.Proofs.Ytnglogkkkpegnaa
open Go.RowKit

/-- An automaton whose lists are the call's own, no two in one block. -/
def IaOwn (w : World) (base : Nat) (a : IaD) (v : Value) : Prop :=
  ∃ x2 x3 x4 x5 : Value, v = .agg #[.int .i64 a.states, .int .i64 a.init, x2, x3, x4, x5] ∧ Owns w base x2 a.ins.length a.ins ∧ Owns w base x3 a.outs.length a.outs ∧ Owns w base x4 a.hids.length a.hids ∧ OwnsS 34 w base x5 a.steps.length a.steps ∧
    (∀ b, x2.ownBlock = some b → x3.ownBlock ≠ some b ∧ x4.ownBlock ≠ some b ∧ x5.ownBlock ≠ some b) ∧ (∀ b, x3.ownBlock = some b → x4.ownBlock ≠ some b ∧ x5.ownBlock ≠ some b) ∧ ∀ b, x4.ownBlock = some b → x5.ownBlock ≠ some b

theorem ia_one (s i : Int) (a2 : Option Addr) (n2 c2 : Nat) (a3 : Option Addr) (n3 c3 : Nat) (a4 : Option Addr) (n4 c4 : Nat) (a5 : Option Addr) (n5 c5 : Nat) : (#[.int .i64 s, .int .i64 i, .slice a2 n2 c2, .slice a3 n3 c3, .slice a4 n4 c4, .slice a5 n5 c5] : Array Value).all (·.oneCell') = true :=
  all_oneCell_toArray (fun u hu => by
    simp only [List.mem_cons, List.not_mem_nil, or_false] at hu
    rcases hu with rfl | rfl | rfl | rfl | rfl | rfl <;> rfl)

/-- The automaton whose lists hold numbers that go on from one another. -/
def markedIa (a : IaD) : IaD :=
  ⟨a.states, a.init, marks 1 a.ins.length, marks (1 + (a.ins.length : Int)) a.outs.length, marks (1 + (a.ins.length : Int) + (a.outs.length : Int)) a.hids.length, marksS (1 + (a.ins.length : Int) + (a.outs.length : Int) + (a.hids.length : Int)) a.steps.length⟩

/-- What marking comes to. -/
def markSum (a : IaD) : Int := 1 + (a.ins.length : Int) + (a.outs.length : Int) + (a.hids.length : Int) + 3 * (a.steps.length : Int)

theorem IaOwn.below {w w' : World} {base : Nat} {a : IaD} {v : Value} (h : IaOwn w base a v) (hb : Below w.heap.size w w') : IaOwn w' base a v := by
  obtain ⟨x2, x3, x4, x5, e, o2, o3, o4, o5, p⟩ := h
  exact ⟨x2, x3, x4, x5, e, o2.below hb, o3.below hb, o4.below hb, o5.below hb, p⟩

theorem IaOwn.row {w : World} {base : Nat} {a : IaD} {v : Value} (h : IaOwn w base a v) : IaRow w a v := by
  obtain ⟨x2, x3, x4, x5, rfl, o2, o3, o4, o5, _⟩ := h
  obtain ⟨b2, d2, rfl⟩ := o2.form
  obtain ⟨b3, d3, rfl⟩ := o3.form
  obtain ⟨b4, d4, rfl⟩ := o4.form
  obtain ⟨b5, d5, rfl⟩ := o5.form
  exact ⟨_, _, _, _, _, _, _, _, _, _, _, _, rfl, o2.row.2.2.2, o3.row.2.2.2, o4.row.2.2.2, o5.row.2.2.2⟩

theorem OwnsS.grownAny {e : TypeId} {w w' : World} {base n : Nat} {v : Value} {ss : List St} {r : Option Nat} (h : OwnsS e w base v n ss) (hg : w.grownBy w' r) (hr : ∀ b, r = some b → v.ownBlock ≠ some b) : OwnsS e w' base v n ss :=
  h.keep hg (fun k hk he => hr k he.symm hk)

theorem Owns.grownAny {w w' : World} {base n : Nat} {v : Value} {xs : List Int} {r : Option Nat} (h : Owns w base v n xs) (hg : w.grownBy w' r) (hr : ∀ b, r = some b → v.ownBlock ≠ some b) : Owns w' base v n xs :=
  h.keep hg (fun k hk he => hr k he.symm hk)

set_option maxRecDepth 20000 in
set_option maxHeartbeats 3200000 in
theorem markIa_own (a : IaD) (v : Value) (base : Nat) (w : World) (h : IaOwn w base a v) (hbase : base ≤ w.heap.size) (f2 : a.ins.length ≤ 2097152) (f3 : a.outs.length ≤ 2097152) (f4 : a.hids.length ≤ 2097152) (f5 : a.steps.length ≤ 2097152) (bx : Nat) (C : Array Value) (ty : TypeId) (hv : VarIs w bx C ty) (hbx : ∀ y0 y1 y2 y3 y4 y5 : Value, v = .agg #[y0, y1, y2, y3, y4, y5] → y2.ownBlock ≠ some bx ∧ y3.ownBlock ≠ some bx ∧ y4.ownBlock ≠ some bx ∧ y5.ownBlock ≠ some bx) :
    Calls Try.prog 23 #[v, .int .i64 1] w fun e w' => e = .returned (.int .i64 (markSum a)) ∧ IaOwn w' base (markedIa a) v ∧ Below base w w' ∧ VarIs w' bx C ty := by
  obtain ⟨x2, x3, x4, x5, rfl, o2, o3, o4, o5, p2, p3, p4⟩ := h
  have HX := Lib.hid (hbx _ _ _ _ _ _ rfl)
  clear hbx
  obtain ⟨st, it, ins, outs, hids, steps⟩ := a
  simp only at f2 f3 f4 f5 o2 o3 o4 o5
  have O2 := Lib.hid (o2.alloc (.cells #[.int .i64 st, .int .i64 it, x2, x3, x4, x5] 27))
  have O3 := Lib.hid (o3.alloc (.cells #[.int .i64 st, .int .i64 it, x2, x3, x4, x5] 27))
  have O4 := Lib.hid (o4.alloc (.cells #[.int .i64 st, .int .i64 it, x2, x3, x4, x5] 27))
  have O5 := Lib.hid (o5.alloc (.cells #[.int .i64 st, .int .i64 it, x2, x3, x4, x5] 27))
  have V0 := Lib.hid (VarIs.new w #[.int .i64 st, .int .i64 it, x2, x3, x4, x5] 27 rfl)
  have Y0 := Lib.hid (hv.alloc (.cells #[.int .i64 st, .int .i64 it, x2, x3, x4, x5] 27))
  clear hv
  have B0 : Hid (∀ o, Below base w (w.alloc o)) := fun o => (Below.refl _ _).alloc hbase _
  have t2 := o2.lt
  have t3 := o3.lt
  have t4 := o4.lt
  have t5 := o5.lt
  have P2 := Lib.hid p2
  have P3 := Lib.hid p3
  have P4 := Lib.hid p4
  have T2 := Lib.hid t2
  have T3 := Lib.hid t3
  have T4 := Lib.hid t4
  have T5 := Lib.hid t5
  obtain ⟨b2, d2, e2⟩ := o2.form
  obtain ⟨b3, d3, e3⟩ := o3.form
  obtain ⟨b4, d4, e4⟩ := o4.form
  obtain ⟨b5, d5, e5⟩ := o5.form
  clear o2 o3 o4 o5 p2 p3 p4 t2 t3 t4 t5
  subst e2 e3 e4 e5
  go_enter Try.func23, Try.ntmps23
  go_wp2_with fail
  refine (mark_any _ ins.length base 1 ins _ O2.out (by omega) (by omega) (by omega)).mono ?_
  rintro e w1 ⟨rfl, ho, hg⟩
  have Y1 := Lib.hid (Y0.out.grown hg (fun e => HX.out.1 e.symm))
  clear Y0
  have V1 := Lib.hid (V0.out.grown hg (fun e => by have := (T2.out _ e.symm).2; omega))
  have O2a := Lib.hid ho
  have O3a := Lib.hid (O3.out.grownAny hg (fun b hb => (P2.out b hb).1))
  have O4a := Lib.hid (O4.out.grownAny hg (fun b hb => (P2.out b hb).2.1))
  have O5a := Lib.hid (O5.out.grownAny hg (fun b hb => (P2.out b hb).2.2))
  have B1 : Hid (Below base w w1) := (B0.out _).grown hg (Nat.le_trans hbase (B0.out _).size) (fun k hk => (T2.out k hk).1)
  clear hg ho O2 O3 O4 O5 V0 B0
  have k1 := V1.out.cell (j := 3) rfl
  go_wp2_with fail
  clear k1
  refine (mark_any _ outs.length base _ outs _ O3a.out (by omega) (by omega) (by omega)).mono ?_
  rintro e w2 ⟨rfl, ho, hg⟩
  have Y2 := Lib.hid (Y1.out.grown hg (fun e => HX.out.2.1 e.symm))
  clear Y1
  have V2 := Lib.hid (V1.out.grown hg (fun e => by have := (T3.out _ e.symm).2; omega))
  have O2b := Lib.hid (O2a.out.grownAny hg (fun b hb h => (P2.out b h).1 hb))
  have O3b := Lib.hid ho
  have O4b := Lib.hid (O4a.out.grownAny hg (fun b hb => (P3.out b hb).1))
  have O5b := Lib.hid (O5a.out.grownAny hg (fun b hb => (P3.out b hb).2))
  have B2 : Hid (Below base w w2) := B1.out.grown hg (Nat.le_trans hbase B1.out.size) (fun k hk => (T3.out k hk).1)
  clear hg ho O2a O3a O4a O5a V1 B1
  have k1 := V2.out.cell (j := 4) rfl
  go_wp2_with fail
  clear k1
  refine (mark_any _ hids.length base _ hids _ O4b.out (by omega) (by omega) (by omega)).mono ?_
  rintro e w3 ⟨rfl, ho, hg⟩
  have Y3 := Lib.hid (Y2.out.grown hg (fun e => HX.out.2.2.1 e.symm))
  clear Y2
  have V3 := Lib.hid (V2.out.grown hg (fun e => by have := (T4.out _ e.symm).2; omega))
  have O2c := Lib.hid (O2b.out.grownAny hg (fun b hb h => (P2.out b h).2.1 hb))
  have O3c := Lib.hid (O3b.out.grownAny hg (fun b hb h => (P3.out b h).1 hb))
  have O4c := Lib.hid ho
  have O5c := Lib.hid (O5b.out.grownAny hg (fun b hb => P4.out b hb))
  have B3 : Hid (Below base w w3) := B2.out.grown hg (Nat.le_trans hbase B2.out.size) (fun k hk => (T4.out k hk).1)
  clear hg ho O2b O3b O4b O5b V2 B2
  have k1 := V3.out.cell (j := 5) rfl
  go_wp2_with fail
  clear k1
  refine (markS_any _ steps.length base _ steps _ O5c.out (by omega) (by omega) (by omega)).mono ?_
  rintro e w4 ⟨rfl, ho, hg⟩
  have Y4 := Lib.hid (Y3.out.grown hg (fun e => HX.out.2.2.2 e.symm))
  clear Y3
  have O2d := Lib.hid (O2c.out.grownAny hg (fun b hb h => (P2.out b h).2.2 hb))
  have O3d := Lib.hid (O3c.out.grownAny hg (fun b hb h => (P3.out b h).2 hb))
  have O4d := Lib.hid (O4c.out.grownAny hg (fun b hb h => P4.out b h hb))
  have O5d := Lib.hid ho
  have B4 : Hid (Below base w w4) := B3.out.grown hg (Nat.le_trans hbase B3.out.size) (fun k hk => (T5.out k hk).1)
  clear hg ho O2c O3c O4c O5c V3 B3
  go_wp2_with fail
  go_ret
  refine ⟨ret_int rfl, ⟨_, _, _, _, rfl, ?_, ?_, ?_, ?_, P2.out, P3.out, P4.out⟩, B4.out, Y4.out⟩
  · simp only [markedIa, marks_len]
    exact O2d.out
  · simp only [markedIa, marks_len]
    exact O3d.out
  · simp only [markedIa, marks_len]
    exact O4d.out
  · simp only [markedIa, marksS_len]
    exact O5d.out

theorem marksS_at (k : Int) (n j : Nat) (h : j < n) : (marksS k n)[j]? = some (k + 3 * (j : Int), k + 3 * (j : Int) + 1, k + 3 * (j : Int) + 1 + 1) := by simp [marksS, h]

set_option maxRecDepth 20000 in
set_option maxHeartbeats 1600000 in
theorem heldS_any (a : Option Addr) (n c : Nat) (k0 : Int) (w : World) (h : RowS w a n (marksS k0 n)) (hn : n ≤ 274877906944) (hk0 : 0 ≤ k0) (hk1 : k0 ≤ 4398046511104) :
    Calls Try.prog 26 #[.slice a n c, .int .i64 k0] w fun e w' => e = .returned (.int .i64 (k0 + 3 * (n : Int))) ∧ w' = w := by
  obtain ⟨hl, hc⟩ := h
  have HC := Lib.hid hc
  clear hl hc
  go_enter Try.func26, Try.ntmps26
  go_wp2
  go_loop [1, 5] (fun k i => ∃ j : Nat, j ≤ n ∧ i = .int .i64 j ∧ k = .int .i64 (k0 + 3 * (j : Int))) (fun _ i => n - (intOf i).toNat)
  case atStart => exact ⟨0, Nat.zero_le _, rfl, by simp⟩
  case round =>
    obtain ⟨j, hj, rfl, rfl⟩ := hrel
    by_cases hlt : j < n
    · obtain ⟨b, off, rfl, hb, hcell⟩ := HC.out (by omega)
      obtain ⟨g0, g1, g2⟩ := hcell j _ (marksS_at k0 n j hlt)
      simp only at g0 g1 g2
      clear hcell
      go_wp2
      go_round
      case rel => exact ⟨j + 1, by omega, by go_num, by go_num⟩
      case measure => simp [intOf]; omega
    · have HJ : Hid (j = n) := by unfold Hid; omega
      go_wp2
      go_ret
      exact ⟨ret_int (by rw [HJ.out]), rfl⟩

end Go.Proofs.Ytnglogkkkpegnaa
