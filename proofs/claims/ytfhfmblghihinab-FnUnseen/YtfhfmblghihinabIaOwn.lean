import Derived.Test.YtfhfmblghihinabMarkIa2
import Derived.Test.YtfhfmblghihinabIaLaw
import Derived.Test.YtfhfmblghihinabDraw
import Derived.Deep.AppendLies
/-
  An automaton whose lists are the call's own; the contracts of the laws' markIa, heldStepS and heldIa over one. Conditions: lists of at most 2^21 elements.
-/
namespace Go.Proofs.Ytfhfmblghihinab
open Go.RowKit

/-- An automaton whose lists are the call's own, no two in one block. -/
def IaOwn (w : World) (base : Nat) (a : IaD) (v : Value) : Prop :=
  ∃ x2 x3 x4 x5 : Value, v = .agg #[.int .i64 a.states, .int .i64 a.init, x2, x3, x4, x5] ∧ Owns w base x2 a.ins.length a.ins ∧ Owns w base x3 a.outs.length a.outs ∧ Owns w base x4 a.hids.length a.hids ∧ OwnsS 70 w base x5 a.steps.length a.steps ∧
    (∀ b, x2.ownBlock = some b → x3.ownBlock ≠ some b ∧ x4.ownBlock ≠ some b ∧ x5.ownBlock ≠ some b) ∧ (∀ b, x3.ownBlock = some b → x4.ownBlock ≠ some b ∧ x5.ownBlock ≠ some b) ∧ ∀ b, x4.ownBlock = some b → x5.ownBlock ≠ some b

theorem ia_one (s i : Int) (a2 : Option Addr) (n2 c2 : Nat) (a3 : Option Addr) (n3 c3 : Nat) (a4 : Option Addr) (n4 c4 : Nat) (a5 : Option Addr) (n5 c5 : Nat) : (#[.int .i64 s, .int .i64 i, .slice a2 n2 c2, .slice a3 n3 c3, .slice a4 n4 c4, .slice a5 n5 c5] : Array Value).all (·.oneCell') = true :=
  all_oneCell_toArray (fun u hu => by
    simp only [List.mem_cons, List.not_mem_nil, or_false] at hu
    rcases hu with rfl | rfl | rfl | rfl | rfl | rfl <;> rfl)

/-- The automaton whose lists hold numbers that go on from one another. -/
def markedIa (a : IaD) : IaD :=
  ⟨a.states, a.init, marks 1 a.ins.length, marks (1 + (a.ins.length : Int)) a.outs.length, marks (1 + (a.ins.length : Int) + (a.outs.length : Int)) a.hids.length, marksS (1 + (a.ins.length : Int) + (a.outs.length : Int) + (a.hids.length : Int)) a.steps.length⟩

/-- What marking comes to. -/
def markSum (a : IaD) : Int := 1 + (a.ins.length : Int) + (a.outs.length : Int) + (a.hids.length : Int) + 3 * (a.steps.length : Int)

theorem IaOwn.below {w w' : World} {base : Nat} {a : IaD} {v : Value} (h : IaOwn w base a v) (hb : Below w.heap.size w w') : IaOwn w' base a v := by
  obtain ⟨x2, x3, x4, x5, e, o2, o3, o4, o5, p⟩ := h
  exact ⟨x2, x3, x4, x5, e, o2.below hb, o3.below hb, o4.below hb, o5.below hb, p⟩

theorem IaOwn.row {w : World} {base : Nat} {a : IaD} {v : Value} (h : IaOwn w base a v) : IaRow w a v := by
  obtain ⟨x2, x3, x4, x5, rfl, o2, o3, o4, o5, _⟩ := h
  obtain ⟨b2, d2, rfl⟩ := o2.form
  obtain ⟨b3, d3, rfl⟩ := o3.form
  obtain ⟨b4, d4, rfl⟩ := o4.form
  obtain ⟨b5, d5, rfl⟩ := o5.form
  exact ⟨_, _, _, _, _, _, _, _, _, _, _, _, rfl, o2.row.2.2.2, o3.row.2.2.2, o4.row.2.2.2, o5.row.2.2.2⟩

theorem OwnsS.grownAny {e : TypeId} {w w' : World} {base n : Nat} {v : Value} {ss : List St} {r : Option Nat} (h : OwnsS e w base v n ss) (hg : w.grownBy w' r) (hr : ∀ b, r = some b → v.ownBlock ≠ some b) : OwnsS e w' base v n ss :=
  h.keep hg (fun k hk he => hr k he.symm hk)

theorem Owns.grownAny {w w' : World} {base n : Nat} {v : Value} {xs : List Int} {r : Option Nat} (h : Owns w base v n xs) (hg : w.grownBy w' r) (hr : ∀ b, r = some b → v.ownBlock ≠ some b) : Owns w' base v n xs :=
  h.keep hg (fun k hk he => hr k he.symm hk)

set_option maxRecDepth 20000 in
set_option maxHeartbeats 3200000 in
theorem markIa_own (a : IaD) (v : Value) (base : Nat) (w : World) (h : IaOwn w base a v) (hbase : base ≤ w.heap.size) (f2 : a.ins.length ≤ 2097152) (f3 : a.outs.length ≤ 2097152) (f4 : a.hids.length ≤ 2097152) (f5 : a.steps.length ≤ 2097152) (bx : Nat) (C : Array Value) (ty : TypeId) (hv : VarIs w bx C ty) (hbx : ∀ y0 y1 y2 y3 y4 y5 : Value, v = .agg #[y0, y1, y2, y3, y4, y5] → y2.ownBlock ≠ some bx ∧ y3.ownBlock ≠ some bx ∧ y4.ownBlock ≠ some bx ∧ y5.ownBlock ≠ some bx) :
    Calls Try.prog 13 #[v, .int .i64 1] w fun e w' => e = .returned (.int .i64 (markSum a)) ∧ IaOwn w' base (markedIa a) v ∧ Below base w w' ∧ VarIs w' bx C ty := by
  obtain ⟨x2, x3, x4, x5, rfl, o2, o3, o4, o5, p2, p3, p4⟩ := h
  have HX := Lib.hid (hbx _ _ _ _ _ _ rfl)
  clear hbx
  obtain ⟨st, it, ins, outs, hids, steps⟩ := a
  simp only at f2 f3 f4 f5 o2 o3 o4 o5
  have O2 := Lib.hid (o2.alloc (.cells #[.int .i64 st, .int .i64 it, x2, x3, x4, x5] 30))
  have O3 := Lib.hid (o3.alloc (.cells #[.int .i64 st, .int .i64 it, x2, x3, x4, x5] 30))
  have O4 := Lib.hid (o4.alloc (.cells #[.int .i64 st, .int .i64 it, x2, x3, x4, x5] 30))
  have O5 := Lib.hid (o5.alloc (.cells #[.int .i64 st, .int .i64 it, x2, x3, x4, x5] 30))
  have V0 := Lib.hid (VarIs.new w #[.int .i64 st, .int .i64 it, x2, x3, x4, x5] 30 rfl)
  have Y0 := Lib.hid (hv.alloc (.cells #[.int .i64 st, .int .i64 it, x2, x3, x4, x5] 30))
  clear hv
  have B0 : Hid (∀ o, Below base w (w.alloc o)) := fun o => (Below.refl _ _).alloc hbase _
  have t2 := o2.lt
  have t3 := o3.lt
  have t4 := o4.lt
  have t5 := o5.lt
  have P2 := Lib.hid p2
  have P3 := Lib.hid p3
  have P4 := Lib.hid p4
  have T2 := Lib.hid t2
  have T3 := Lib.hid t3
  have T4 := Lib.hid t4
  have T5 := Lib.hid t5
  obtain ⟨b2, d2, e2⟩ := o2.form
  obtain ⟨b3, d3, e3⟩ := o3.form
  obtain ⟨b4, d4, e4⟩ := o4.form
  obtain ⟨b5, d5, e5⟩ := o5.form
  clear o2 o3 o4 o5 p2 p3 p4 t2 t3 t4 t5
  subst e2 e3 e4 e5
  go_enter Try.func13, Try.ntmps13
  go_wp2_with fail
  refine (mark_any _ ins.length base 1 ins _ O2.out (by omega) (by omega) (by omega)).mono ?_
  rintro e w1 ⟨rfl, ho, hg⟩
  have Y1 := Lib.hid (Y0.out.grown hg (fun e => HX.out.1 e.symm))
  clear Y0
  have V1 := Lib.hid (V0.out.grown hg (fun e => by have := (T2.out _ e.symm).2; omega))
  have O2a := Lib.hid ho
  have O3a := Lib.hid (O3.out.grownAny hg (fun b hb => (P2.out b hb).1))
  have O4a := Lib.hid (O4.out.grownAny hg (fun b hb => (P2.out b hb).2.1))
  have O5a := Lib.hid (O5.out.grownAny hg (fun b hb => (P2.out b hb).2.2))
  have B1 : Hid (Below base w w1) := (B0.out _).grown hg (Nat.le_trans hbase (B0.out _).size) (fun k hk => (T2.out k hk).1)
  clear hg ho O2 O3 O4 O5 V0 B0
  have k1 := V1.out.cell (j := 3) rfl
  go_wp2_with fail
  clear k1
  refine (mark_any _ outs.length base _ outs _ O3a.out (by omega) (by omega) (by omega)).mono ?_
  rintro e w2 ⟨rfl, ho, hg⟩
  have Y2 := Lib.hid (Y1.out.grown hg (fun e => HX.out.2.1 e.symm))
  clear Y1
  have V2 := Lib.hid (V1.out.grown hg (fun e => by have := (T3.out _ e.symm).2; omega))
  have O2b := Lib.hid (O2a.out.grownAny hg (fun b hb h => (P2.out b h).1 hb))
  have O3b := Lib.hid ho
  have O4b := Lib.hid (O4a.out.grownAny hg (fun b hb => (P3.out b hb).1))
  have O5b := Lib.hid (O5a.out.grownAny hg (fun b hb => (P3.out b hb).2))
  have B2 : Hid (Below base w w2) := B1.out.grown hg (Nat.le_trans hbase B1.out.size) (fun k hk => (T3.out k hk).1)
  clear hg ho O2a O3a O4a O5a V1 B1
  have k1 := V2.out.cell (j := 4) rfl
  go_wp2_with fail
  clear k1
  refine (mark_any _ hids.length base _ hids _ O4b.out (by omega) (by omega) (by omega)).mono ?_
  rintro e w3 ⟨rfl, ho, hg⟩
  have Y3 := Lib.hid (Y2.out.grown hg (fun e => HX.out.2.2.1 e.symm))
  clear Y2
  have V3 := Lib.hid (V2.out.grown hg (fun e => by have := (T4.out _ e.symm).2; omega))
  have O2c := Lib.hid (O2b.out.grownAny hg (fun b hb h => (P2.out b h).2.1 hb))
  have O3c := Lib.hid (O3b.out.grownAny hg (fun b hb h => (P3.out b h).1 hb))
  have O4c := Lib.hid ho
  have O5c := Lib.hid (O5b.out.grownAny hg (fun b hb => P4.out b hb))
  have B3 : Hid (Below base w w3) := B2.out.grown hg (Nat.le_trans hbase B2.out.size) (fun k hk => (T4.out k hk).1)
  clear hg ho O2b O3b O4b O5b V2 B2
  have k1 := V3.out.cell (j := 5) rfl
  go_wp2_with fail
  clear k1
  refine (markS_any _ steps.length base _ steps _ O5c.out (by omega) (by omega) (by omega)).mono ?_
  rintro e w4 ⟨rfl, ho, hg⟩
  have Y4 := Lib.hid (Y3.out.grown hg (fun e => HX.out.2.2.2 e.symm))
  clear Y3
  have O2d := Lib.hid (O2c.out.grownAny hg (fun b hb h => (P2.out b h).2.2 hb))
  have O3d := Lib.hid (O3c.out.grownAny hg (fun b hb h => (P3.out b h).2 hb))
  have O4d := Lib.hid (O4c.out.grownAny hg (fun b hb h => P4.out b h hb))
  have O5d := Lib.hid ho
  have B4 : Hid (Below base w w4) := B3.out.grown hg (Nat.le_trans hbase B3.out.size) (fun k hk => (T5.out k hk).1)
  clear hg ho O2c O3c O4c O5c V3 B3
  go_wp2_with fail
  go_ret
  refine ⟨ret_int rfl, ⟨_, _, _, _, rfl, ?_, ?_, ?_, ?_, P2.out, P3.out, P4.out⟩, B4.out, Y4.out⟩
  · simp only [markedIa, marks_len]
    exact O2d.out
  · simp only [markedIa, marks_len]
    exact O3d.out
  · simp only [markedIa, marks_len]
    exact O4d.out
  · simp only [markedIa, marksS_len]
    exact O5d.out

theorem marksS_at (k : Int) (n j : Nat) (h : j < n) : (marksS k n)[j]? = some (k + 3 * (j : Int), k + 3 * (j : Int) + 1, k + 3 * (j : Int) + 1 + 1) := by simp [marksS, h]

end Go.Proofs.Ytfhfmblghihinab

/-
  The contract of the model's draw of an automaton (ia): some automaton, its lists in new memory. Conditions: those of the cursor.
-/
namespace Go.Proofs.Ytfhfmblghihinab
open Go.RowKit

/-- Three rows of the call's own, no two in one block. -/
structure Three (W : World) (lo : Nat) (v2 v3 v4 : Value) (n2 n3 n4 : Nat) (I O H : List Int) : Prop where
  o2 : Owns W lo v2 n2 I
  o3 : Owns W lo v3 n3 O
  o4 : Owns W lo v4 n4 H
  p2 : ∀ b, v2.ownBlock = some b → v3.ownBlock ≠ some b ∧ v4.ownBlock ≠ some b
  p3 : ∀ b, v3.ownBlock = some b → v4.ownBlock ≠ some b
  l2 : NearL I
  l3 : NearL O
  l4 : NearL H

section
variable {W W' : World} {lo : Nat} {v2 v3 v4 : Value} {n2 n3 n4 : Nat} {I O H : List Int}

theorem Three.rot (h : Three W lo v2 v3 v4 n2 n3 n4 I O H) : Three W lo v3 v4 v2 n3 n4 n2 O H I :=
  ⟨h.o3, h.o4, h.o2, fun b hb => ⟨h.p3 b hb, fun e => (h.p2 b e).1 hb⟩, fun b hb e => (h.p2 b e).2 hb, h.l3, h.l4, h.l2⟩

theorem Three.below (h : Three W lo v2 v3 v4 n2 n3 n4 I O H) (hb : Below W.heap.size W W') : Three W' lo v2 v3 v4 n2 n3 n4 I O H :=
  ⟨h.o2.below hb, h.o3.below hb, h.o4.below hb, h.p2, h.p3, h.l2, h.l3, h.l4⟩

theorem Three.keep (h : Three W lo v2 v3 v4 n2 n3 n4 I O H) {q : Nat} (hg : W.grownBy W' (some q)) (hq : q < lo) : Three W' lo v2 v3 v4 n2 n3 n4 I O H :=
  ⟨h.o2.keep hg (fun k hk e => by have h1 := (h.o2.lt k hk).1; have h2 := Option.some.inj e; omega), h.o3.keep hg (fun k hk e => by have h1 := (h.o3.lt k hk).1; have h2 := Option.some.inj e; omega), h.o4.keep hg (fun k hk e => by have h1 := (h.o4.lt k hk).1; have h2 := Option.some.inj e; omega), h.p2, h.p3, h.l2, h.l3, h.l4⟩

/-- The first one is appended to: it lies where it lay, or in a new block. -/
theorem Three.app (h : Three W lo v2 v3 v4 n2 n3 n4 I O H) {g cap m : Nat} {X : List Int} (hg : W.grownBy W' v2.ownBlock) (ho : Owns W' lo (.slice (some ⟨g, 0, none⟩) m cap) m (I ++ X)) (hX : NearL X) (hl : v2.ownBlock = some g ∨ g = W.heap.size) :
    Three W' lo (.slice (some ⟨g, 0, none⟩) m cap) v3 v4 m n3 n4 (I ++ X) O H := by
  have e : (Value.slice (some ⟨g, 0, none⟩) m cap).ownBlock = some g := rfl
  refine ⟨ho, h.o3.keep hg (fun k hk e => (h.p2 k e.symm).1 hk), h.o4.keep hg (fun k hk e => (h.p2 k e.symm).2 hk), fun b hb => ?_, h.p3, ?_, h.l3, h.l4⟩
  · rw [e] at hb
    obtain rfl := Option.some.inj hb
    rcases hl with hl | hl
    · exact h.p2 g hl
    · refine ⟨fun e3 => ?_, fun e4 => ?_⟩
      · have := (h.o3.lt g e3).2; omega
      · have := (h.o4.lt g e4).2; omega
  · intro x hx
    rcases List.mem_append.1 hx with hx | hx
    · exact h.l2 x hx
    · exact hX x hx

end

/-- A number is appended to a row of the call's own; it is told where the row then lies. -/
theorem wpList_one {P : Program} {w : World} {ops : Array Oper} {rest : List Oper} {o : Oper} {a : Act} {Q : Exit → Act → World → Prop} (hgd : o.guard = none) (s x : Operand)
    (ho : o.op = .call { callee := .builtin .append, args := #[s, x], argTypes := #[ 22, 22 ] })
    (base : Nat) (i : TypeInfo) (ht : P.underlying 22 = some (.slice 3)) (hi : P.info? 3 = some i) (hz : i.zero = some (.int .i64 0)) (hsize : i.size = 1) (hby : i.bytes = 8)
    (v : Value) (n : Nat) (xs : List Int) (hs : a.eval s = v) (hown : Owns w base v n xs) (b : Nat) (y : Int) (hx : a.eval x = .slice (some ⟨b, 0, none⟩) 1 1) (hc : w.cell? ⟨b, 0, none⟩ = some (.int .i64 y))
    (hbig : n + 1 ≤ 8796093022208) (hbase : base ≤ w.heap.size)
    (h : ∀ g cap w', Owns w' base (.slice (some ⟨g, 0, none⟩) (n + 1) cap) (n + 1) (xs ++ [y]) → w.grownBy w' v.ownBlock → (v.ownBlock = some g ∨ g = w.heap.size) → wpList P ops Q rest (a.put o.dst (.slice (some ⟨g, 0, none⟩) (n + 1) cap)) w') : wpList P ops Q (o :: rest) a w := by
  refine wpList_append_lies w hgd s x 22 ho base 3 i (.int .i64 0) 1 8 ht hi hz hsize hby rfl (by decide) v n _ hs hown ⟨b, 0, none⟩ 1 1 [.int .i64 y] hx rfl (fun j u hu => ?_) (fun u hu => ?_) (by decide) (by unfold maxLen; omega) (by omega) hbase w.heap.size rfl ?_
  · rw [add_lit]
    obtain ⟨hj, rfl⟩ := List.getElem?_eq_some_iff.1 hu
    obtain rfl : j = 0 := by simpa using hj
    exact hc
  · obtain rfl := List.mem_singleton.1 hu
    rfl
  · intro g cap w' h1 h2 h3 _
    exact h g cap w' (by unfold Owns; rw [List.map_append]; exact h1) h2 h3

/-- Lists that are not too long, of numbers that are not too great. -/
def IaNear (a : IaD) : Prop := a.ins.length ≤ 400 ∧ a.outs.length ≤ 400 ∧ a.hids.length ≤ 400 ∧ a.steps.length ≤ 400

/-- What a draw of an automaton leaves. -/
def IaDrawn (w : World) (P t : Nat) (e : Ending) (w' : World) : Prop :=
  ∃ a v, e = .returned v ∧ IaOwn w' w.heap.size a v ∧ IaNear a ∧ NearL a.ins ∧ NearL a.outs ∧ NearL a.hids ∧ (∀ s ∈ a.steps, Near s) ∧ Cur w' P t ∧ w.grownBy w' (some P)

theorem near_one {x : Int} (h : -1099511627776 ≤ x ∧ x ≤ 1099511627776) : NearL [x] := fun y hy => by obtain rfl := List.mem_singleton.1 hy; exact h

theorem grownBy_own2 {w w1 w2 : World} {P : Nat} {r : Option Nat} (h : w.grownBy w1 (some P)) (k : w1.grownBy w2 r) (hr : ∀ i, r = some i → w.heap.size ≤ i) : w.grownBy w2 (some P) :=
  ⟨k.os.trans h.os, k.tape.trans h.tape, k.output.trans h.output, Nat.le_trans h.size k.size, fun i hi hne => (k.block i (Nat.lt_of_lt_of_le hi h.size) (fun e => by have := hr i e.symm; omega)).trans (h.block i hi hne)⟩

set_option maxRecDepth 20000 in
set_option maxHeartbeats 6400000 in
theorem ia_any (P t : Nat) (w : World) (h : Cur w P t) (ht : t ≤ 100000) :
    Calls Try.prog 71 #[.pointer (some ⟨P, 0, none⟩)] w (IaDrawn w P (t + 320)) := by
  obtain ⟨i0, hi, hz0, hz1, hz2⟩ := info_parts info_int
  have hP := h.lt
  have H0 := Lib.hid h
  clear h
  have BZ : Hid (Below w.heap.size w ((((w.alloc (.cells #[.int .i64 0, .int .i64 0, .slice none 0 0, .slice none 0 0, .slice none 0 0, .slice none 0 0] 30)).alloc (.cells #[] 3)).alloc (.cells #[] 3)).alloc (.cells #[] 3))) := ((((Below.refl _ _).alloc (Nat.le_refl _) _).alloc (by simp) _).alloc (by simp; omega) _).alloc (by simp; omega) _
  have HR0 : Hid (VarIs ((((w.alloc (.cells #[.int .i64 0, .int .i64 0, .slice none 0 0, .slice none 0 0, .slice none 0 0, .slice none 0 0] 30)).alloc (.cells #[] 3)).alloc (.cells #[] 3)).alloc (.cells #[] 3)) w.heap.size #[.int .i64 0, .int .i64 0, .slice none 0 0, .slice none 0 0, .slice none 0 0, .slice none 0 0] 30) := (((VarIs.new w #[.int .i64 0, .int .i64 0, .slice none 0 0, .slice none 0 0, .slice none 0 0, .slice none 0 0] 30 rfl).alloc _).alloc _).alloc _
  have HT0 : Hid (Three ((((w.alloc (.cells #[.int .i64 0, .int .i64 0, .slice none 0 0, .slice none 0 0, .slice none 0 0, .slice none 0 0] 30)).alloc (.cells #[] 3)).alloc (.cells #[] 3)).alloc (.cells #[] 3)) (w.heap.size + 1) (.slice (some ⟨w.heap.size + 1, 0, none⟩) 0 0) (.slice (some ⟨w.heap.size + 1 + 1, 0, none⟩) 0 0) (.slice (some ⟨w.heap.size + 1 + 1 + 1, 0, none⟩) 0 0) 0 0 0 [] [] []) := by
    have a1 : Owns ((w.alloc (.cells #[.int .i64 0, .int .i64 0, .slice none 0 0, .slice none 0 0, .slice none 0 0, .slice none 0 0] 30)).alloc (.cells #[] 3)) (w.heap.size + 1) (.slice (some ⟨w.heap.size + 1, 0, none⟩) 0 0) 0 [] := by
      have := owns_lit (w.alloc (.cells #[.int .i64 0, .int .i64 0, .slice none 0 0, .slice none 0 0, .slice none 0 0, .slice none 0 0] 30)) [] 0 rfl (by unfold maxLen; omega)
      simpa using this
    have a2 : Owns (((w.alloc (.cells #[.int .i64 0, .int .i64 0, .slice none 0 0, .slice none 0 0, .slice none 0 0, .slice none 0 0] 30)).alloc (.cells #[] 3)).alloc (.cells #[] 3)) (w.heap.size + 1 + 1) (.slice (some ⟨w.heap.size + 1 + 1, 0, none⟩) 0 0) 0 [] := by
      have := owns_lit ((w.alloc (.cells #[.int .i64 0, .int .i64 0, .slice none 0 0, .slice none 0 0, .slice none 0 0, .slice none 0 0] 30)).alloc (.cells #[] 3)) [] 0 rfl (by unfold maxLen; omega)
      simpa using this
    have a3 : Owns ((((w.alloc (.cells #[.int .i64 0, .int .i64 0, .slice none 0 0, .slice none 0 0, .slice none 0 0, .slice none 0 0] 30)).alloc (.cells #[] 3)).alloc (.cells #[] 3)).alloc (.cells #[] 3)) (w.heap.size + 1 + 1 + 1) (.slice (some ⟨w.heap.size + 1 + 1 + 1, 0, none⟩) 0 0) 0 [] := by
      have := owns_lit (((w.alloc (.cells #[.int .i64 0, .int .i64 0, .slice none 0 0, .slice none 0 0, .slice none 0 0, .slice none 0 0] 30)).alloc (.cells #[] 3)).alloc (.cells #[] 3)) [] 0 rfl (by unfold maxLen; omega)
      simpa using this
    refine ⟨((a1.alloc _).alloc _), (a2.alloc _).mono (by omega), a3.mono (by omega), fun b hb => ?_, fun b hb => ?_, fun x hx => by simp at hx, fun x hx => by simp at hx, fun x hx => by simp at hx⟩
    · have e1 : w.heap.size + 1 = b := by simpa [Value.ownBlock] using hb
      subst e1
      constructor
      · intro h; have h1 := Option.some.inj h; simp only at h1; omega
      · intro h; have h1 := Option.some.inj h; simp only at h1; omega
    · have e1 : w.heap.size + 1 + 1 = b := by simpa [Value.ownBlock] using hb
      subst e1
      intro h
      have h1 := Option.some.inj h
      simp only at h1
      omega
  go_enter Try.func71, Try.ntmps71
  go_wp2_with fail
  go_loopw [3, 4, 5, 6] (fun v3 v4 v5 xv wr => ∃ (x g2 c2 n2 g3 c3 n3 g4 c4 n4 : Nat) (I O H : List Int), x ≤ 6 ∧ v3 = .slice (some ⟨g2, 0, none⟩) n2 c2 ∧ v4 = .slice (some ⟨g3, 0, none⟩) n3 c3 ∧ v5 = .slice (some ⟨g4, 0, none⟩) n4 c4 ∧ xv = .int .i64 (x : Int) ∧ n2 + n3 + n4 ≤ x ∧ Hid (Three wr (w.heap.size + 1) (.slice (some ⟨g2, 0, none⟩) n2 c2) (.slice (some ⟨g3, 0, none⟩) n3 c3) (.slice (some ⟨g4, 0, none⟩) n4 c4) n2 n3 n4 I O H) ∧ Hid (VarIs wr w.heap.size #[.int .i64 0, .int .i64 0, .slice none 0 0, .slice none 0 0, .slice none 0 0, .slice none 0 0] 30) ∧ Hid (Cur wr P (t + x)) ∧ Hid (w.grownBy wr (some P))) (fun _ _ _ xv _ => 6 - (intOf xv).toNat)
  case atStart => exact ⟨0, _, 0, 0, _, 0, 0, _, 0, 0, [], [], [], by omega, rfl, rfl, rfl, rfl, by omega, HT0.out, HR0.out, H0.out.below BZ.out, grown_of_below BZ.out _⟩
  case round =>
    obtain ⟨x, g2, c2, n2, g3, c3, n3, g4, c4, n4, I, O, H, hx, rfl, rfl, rfl, rfl, hnn, HT, HR, HC, HG⟩ := hrel
    clear HT0 HR0 BZ H0
    have hgs := HG.out.size
    have hRl := HR.out.lt
    by_cases hlt : x < 6
    · go_wp2_with fail
      refine (pick_any P (t + x) 4 _ HC.out (by omega) (by omega) (by omega)).mono ?_
      rintro e w1 ⟨r, rfl, hr0, hr1, hcur1, hg1⟩
      have HG1 := Lib.hid (grownBy_trans HG.out hg1)
      have HT1 := Lib.hid (HT.out.keep hg1 (by omega))
      have HR1 := Lib.hid (HR.out.grown hg1 (fun e => by have := Option.some.inj e; omega))
      have HC1 := Lib.hid hcur1
      have hs1 := hg1.size
      clear hg1 hcur1 HT HR HC HG
      by_cases h0 : r = 0
      · subst h0
        have T1 := HT1.out.below ((Below.refl _ w1).alloc (Nat.le_refl _) (.cells #[.int .i64 (x : Int)] 3))
        have T2 := T1
        have hs9 : (w.heap.size + 1) ≤ (w1.alloc (.cells #[.int .i64 (x : Int)] 3)).heap.size := by simp; omega
        have cx : (w1.alloc (.cells #[.int .i64 (x : Int)] 3)).cell? ⟨w1.heap.size, 0, none⟩ = some (.int .i64 (x : Int)) := by simp
        have R1 := HR1.out.alloc (.cells #[.int .i64 (x : Int)] 3)
        go_wp2_with (at_builtin; refine wpList_one rfl (.tmp 18) (.tmp 20) rfl (w.heap.size + 1) i0 Try.underlying22 hi hz0 hz1 hz2 _ _ _ rfl T2.o2 w1.heap.size (x : Int) rfl cx (by omega) hs9 ?_)
        rintro g9 c9 w9 hown9 hgrow9 hlies
        have T3 := (T2.app hgrow9 hown9 (near_one (by omega)) (by simpa using hlies))
        have blk : ∀ q, (Value.slice (some ⟨g2, 0, none⟩) n2 c2).ownBlock = some q → (w.heap.size + 1) ≤ q := fun q hq => (T2.o2.lt q hq).1
        have HT9 := Lib.hid T3
        have HR9 := Lib.hid (R1.grown hgrow9 (fun e => by have := blk _ e.symm; omega))
        have HC9 := Lib.hid ((HC1.out.below ((Below.refl _ w1).alloc (Nat.le_refl _) (.cells #[.int .i64 (x : Int)] 3))).keep (B := (w.heap.size + 1)) hgrow9 (by omega) blk)
        have HG9 := Lib.hid (grownBy_own2 HG1.out (grownBy_trans (World.grownBy_alloc w1 (.cells #[.int .i64 (x : Int)] 3) _) hgrow9) (fun q hq => by have := blk q hq; omega))
        clear T1 T2 T3 blk hgrow9 hown9 hlies cx R1
        go_wp2_with fail
        go_roundw
        case rel => exact ⟨x + 1, g9, c9, n2 + 1, g3, c3, n3, g4, c4, n4, I ++ [(x : Int)], O, H, by omega, rfl, rfl, rfl, by go_num, by omega, HT9.out, HR9.out, HC9.out, HG9.out⟩
        case measure => simp [intOf]; omega

      · by_cases h1 : r = 1
        · subst h1
          have T1 := HT1.out.below ((Below.refl _ w1).alloc (Nat.le_refl _) (.cells #[.int .i64 (x : Int)] 3))
          have T2 := T1.rot
          have hs9 : (w.heap.size + 1) ≤ (w1.alloc (.cells #[.int .i64 (x : Int)] 3)).heap.size := by simp; omega
          have cx : (w1.alloc (.cells #[.int .i64 (x : Int)] 3)).cell? ⟨w1.heap.size, 0, none⟩ = some (.int .i64 (x : Int)) := by simp
          have R1 := HR1.out.alloc (.cells #[.int .i64 (x : Int)] 3)
          go_wp2_with (at_builtin; refine wpList_one rfl (.tmp 24) (.tmp 26) rfl (w.heap.size + 1) i0 Try.underlying22 hi hz0 hz1 hz2 _ _ _ rfl T2.o2 w1.heap.size (x : Int) rfl cx (by omega) hs9 ?_)
          rintro g9 c9 w9 hown9 hgrow9 hlies
          have T3 := (T2.app hgrow9 hown9 (near_one (by omega)) (by simpa using hlies)).rot.rot
          have blk : ∀ q, (Value.slice (some ⟨g3, 0, none⟩) n3 c3).ownBlock = some q → (w.heap.size + 1) ≤ q := fun q hq => (T2.o2.lt q hq).1
          have HT9 := Lib.hid T3
          have HR9 := Lib.hid (R1.grown hgrow9 (fun e => by have := blk _ e.symm; omega))
          have HC9 := Lib.hid ((HC1.out.below ((Below.refl _ w1).alloc (Nat.le_refl _) (.cells #[.int .i64 (x : Int)] 3))).keep (B := (w.heap.size + 1)) hgrow9 (by omega) blk)
          have HG9 := Lib.hid (grownBy_own2 HG1.out (grownBy_trans (World.grownBy_alloc w1 (.cells #[.int .i64 (x : Int)] 3) _) hgrow9) (fun q hq => by have := blk q hq; omega))
          clear T1 T2 T3 blk hgrow9 hown9 hlies cx R1
          go_wp2_with fail
          go_roundw
          case rel => exact ⟨x + 1, g2, c2, n2, g9, c9, n3 + 1, g4, c4, n4, I, O ++ [(x : Int)], H, by omega, rfl, rfl, rfl, by go_num, by omega, HT9.out, HR9.out, HC9.out, HG9.out⟩
          case measure => simp [intOf]; omega

        · by_cases h2 : r = 2
          · subst h2
            have T1 := HT1.out.below ((Below.refl _ w1).alloc (Nat.le_refl _) (.cells #[.int .i64 (x : Int)] 3))
            have T2 := T1.rot.rot
            have hs9 : (w.heap.size + 1) ≤ (w1.alloc (.cells #[.int .i64 (x : Int)] 3)).heap.size := by simp; omega
            have cx : (w1.alloc (.cells #[.int .i64 (x : Int)] 3)).cell? ⟨w1.heap.size, 0, none⟩ = some (.int .i64 (x : Int)) := by simp
            have R1 := HR1.out.alloc (.cells #[.int .i64 (x : Int)] 3)
            go_wp2_with (at_builtin; refine wpList_one rfl (.tmp 30) (.tmp 32) rfl (w.heap.size + 1) i0 Try.underlying22 hi hz0 hz1 hz2 _ _ _ rfl T2.o2 w1.heap.size (x : Int) rfl cx (by omega) hs9 ?_)
            rintro g9 c9 w9 hown9 hgrow9 hlies
            have T3 := (T2.app hgrow9 hown9 (near_one (by omega)) (by simpa using hlies)).rot
            have blk : ∀ q, (Value.slice (some ⟨g4, 0, none⟩) n4 c4).ownBlock = some q → (w.heap.size + 1) ≤ q := fun q hq => (T2.o2.lt q hq).1
            have HT9 := Lib.hid T3
            have HR9 := Lib.hid (R1.grown hgrow9 (fun e => by have := blk _ e.symm; omega))
            have HC9 := Lib.hid ((HC1.out.below ((Below.refl _ w1).alloc (Nat.le_refl _) (.cells #[.int .i64 (x : Int)] 3))).keep (B := (w.heap.size + 1)) hgrow9 (by omega) blk)
            have HG9 := Lib.hid (grownBy_own2 HG1.out (grownBy_trans (World.grownBy_alloc w1 (.cells #[.int .i64 (x : Int)] 3) _) hgrow9) (fun q hq => by have := blk q hq; omega))
            clear T1 T2 T3 blk hgrow9 hown9 hlies cx R1
            go_wp2_with fail
            go_roundw
            case rel => exact ⟨x + 1, g2, c2, n2, g3, c3, n3, g9, c9, n4 + 1, I, O, H ++ [(x : Int)], by omega, rfl, rfl, rfl, by go_num, by omega, HT9.out, HR9.out, HC9.out, HG9.out⟩
            case measure => simp [intOf]; omega

          · have e0 : (r == 0) = false := by simpa using h0
            have e1 : (r == 1) = false := by simpa using h1
            have e2 : (r == 2) = false := by simpa using h2
            clear h0 h1 h2
            go_wp2_with fail
            go_roundw
            case rel => exact ⟨x + 1, g2, c2, n2, g3, c3, n3, g4, c4, n4, I, O, H, by omega, rfl, rfl, rfl, by go_num, by omega, HT1.out, HR1.out, HC1.out, HG1.out⟩
            case measure => simp [intOf]; omega
    · go_wp2_with fail
      refine (over_any P (t + x) (w.heap.size + 1) _ n2 c2 I _ n3 c3 O _ n4 c4 H 5 _ HC.out (by omega) (by omega) (by omega) HT.out.o2 HT.out.o3 HT.out.o4 (by omega) (by omega) (by omega) HT.out.l2 HT.out.l3 HT.out.l4 (by omega) (by omega)).mono ?_
      rintro e w2 ⟨st, x5, n5, ss, rfl, ho5, hn5, hns, hst1, hst2, hcur, hg⟩
      obtain ⟨a5, c5, rfl⟩ := ho5.form
      have HT2 := Lib.hid (HT.out.keep hg (by omega))
      have HR2 := Lib.hid (HR.out.grown hg (fun e => by have := Option.some.inj e; omega))
      have HG2 := Lib.hid (grownBy_trans HG.out hg)
      have HC2 := Lib.hid hcur
      have HO5 := Lib.hid ho5
      have HNS := Lib.hid hns
      have LT2 : Hid (∀ b, w.heap.size + 1 ≤ b → b < wr.heap.size → (Value.slice a5 n5 c5).ownBlock ≠ some b) := fun b _ hb e => by have := (ho5.lt b e).1; omega
      have B2 : Hid (∀ b, (Value.slice (some ⟨g2, 0, none⟩) n2 c2).ownBlock = some b → b < wr.heap.size) := fun b hb => (HT.out.o2.lt b hb).2
      have B3 : Hid (∀ b, (Value.slice (some ⟨g3, 0, none⟩) n3 c3).ownBlock = some b → b < wr.heap.size) := fun b hb => (HT.out.o3.lt b hb).2
      have B4 : Hid (∀ b, (Value.slice (some ⟨g4, 0, none⟩) n4 c4).ownBlock = some b → b < wr.heap.size) := fun b hb => (HT.out.o4.lt b hb).2
      clear hg hcur ho5 hns HT HR HG HC
      have THR : Hid (w2.there w.heap.size 0 6) := HR2.out.there rfl
      go_wp2_with (refine wpList_store_mid rfl _ _ _ rfl w.heap.size 0 #[.int .i64 st, .int .i64 0, .slice (some ⟨g2, 0, none⟩) n2 c2, .slice (some ⟨g3, 0, none⟩) n3 c3, .slice (some ⟨g4, 0, none⟩) n4 c4, .slice a5 n5 c5] rfl rfl THR.out (by kernel_rfl) (six_one _ _ _ _ _ _ _ _ _ _ _ _ _ _) ?_)
      have HF := World.rangeAt_setCells_same w2 w.heap.size 0 [.int .i64 st, .int .i64 0, .slice (some ⟨g2, 0, none⟩) n2 c2, .slice (some ⟨g3, 0, none⟩) n3 c3, .slice (some ⟨g4, 0, none⟩) n4 c4, .slice a5 n5 c5] THR.out
      have HGS := grown_setCells w.heap.size [.int .i64 st, .int .i64 0, .slice (some ⟨g2, 0, none⟩) n2 c2, .slice (some ⟨g3, 0, none⟩) n3 c3, .slice (some ⟨g4, 0, none⟩) n4 c4, .slice a5 n5 c5] 0 w2
      have HT3 := HT2.out.keep HGS (by omega)
      have lI := HT3.o2.length
      have lO := HT3.o3.length
      have lH := HT3.o4.length
      have lS := HO5.out.length
      have O5' := HO5.out.keep HGS (fun q hq e => by have h1 := (HO5.out.lt q hq).1; have h2 := Option.some.inj e; omega)
      refine bodyPost_ret (v := .agg #[.int .i64 st, .int .i64 0, .slice (some ⟨g2, 0, none⟩) n2 c2, .slice (some ⟨g3, 0, none⟩) n3 c3, .slice (some ⟨g4, 0, none⟩) n4 c4, .slice a5 n5 c5]) ?_ rfl ⟨⟨st, 0, I, O, H, ss⟩, _, rfl, ⟨_, _, _, _, rfl, by simp only; rw [lI]; exact HT3.o2.mono (by omega), by simp only; rw [lO]; exact HT3.o3.mono (by omega), by simp only; rw [lH]; exact HT3.o4.mono (by omega), by simp only; rw [lS]; exact O5'.mono (by omega), fun b hb => ⟨(HT3.p2 b hb).1, (HT3.p2 b hb).2, LT2.out b (HT3.o2.lt b hb).1 (B2.out b hb)⟩, fun b hb => ⟨HT3.p3 b hb, LT2.out b (HT3.o3.lt b hb).1 (B3.out b hb)⟩, fun b hb => LT2.out b (HT3.o4.lt b hb).1 (B4.out b hb)⟩, ⟨by simp only; omega, by simp only; omega, by simp only; omega, by simp only; omega⟩, HT3.l2, HT3.l3, HT3.l4, HNS.out, (HC2.out.keep (B := P + 1) HGS (by omega) (fun q hq => by have h1 := Option.some.inj hq; omega)).mono (by omega), grown_past HG2.out HGS (Nat.le_refl _)⟩
      have HC0 := HF 0 _ rfl
      have HC1 := HF 1 _ rfl
      have HC2' := HF 2 _ rfl
      have HC3 := HF 3 _ rfl
      have HC4 := HF 4 _ rfl
      have HC5 := HF 5 _ rfl
      simp only [Nat.zero_add] at HC0 HC1 HC2' HC3 HC4 HC5
      clear HF HGS HT3 O5'
      simp [results, Try.results71, go_sem, HC0, HC1, HC2', HC3, HC4, HC5]

end Go.Proofs.Ytfhfmblghihinab

/-
  The contracts of the model's draws of an automaton, perhaps spoilt (anyIa), and of a state (state): some automaton, its lists in new memory; some number. Conditions: those of the cursor.
-/
namespace Go.Proofs.Ytfhfmblghihinab
open Go.RowKit

/-- A row of the call's own lies in no variable of another type. -/
theorem own_ne {W : World} {base size n A : Nat} {e t : TypeId} {v : Value} {xs : List Value} {C : Array Value} (h : W.ownsRow base e size v n xs) (hv : VarIs W A C t) (het : e ≠ t) : v.ownBlock ≠ some A := by
  intro e'
  rcases h.2 with ⟨rfl, _⟩ | ⟨g, cap, cur, rfl, _, hh, _⟩
  · cases e'
  · have e1 : g = A := by simpa [Value.ownBlock] using e'
    subst e1
    have h2 := hh.symm.trans hv
    simp only [Option.some.injEq, Obj.cells.injEq] at h2
    exact het h2.2.1

/-- An automaton in a variable, its lists rows of the call's own. -/
structure AnyB (W : World) (P R A : Nat) (st it : Int) (x2 x3 x4 x5 : Value) (n2 n3 n4 n5 : Nat) (ins outs hids : List Int) (steps : List St) : Prop where
  hP : P < R
  hRA : R < A
  var : VarIs W A #[.int .i64 st, .int .i64 it, x2, x3, x4, x5] 30
  res : VarIs W R #[.int .i64 0, .int .i64 0, .slice none 0 0, .slice none 0 0, .slice none 0 0, .slice none 0 0] 30
  o2 : Owns W (R + 1) x2 n2 ins
  o3 : Owns W (R + 1) x3 n3 outs
  o4 : Owns W (R + 1) x4 n4 hids
  o5 : OwnsS 70 W (R + 1) x5 n5 steps

section
variable {W W' : World} {P R A : Nat} {st it : Int} {x2 x3 x4 x5 : Value} {n2 n3 n4 n5 : Nat} {ins outs hids : List Int} {steps : List St}

theorem AnyB.below (h : AnyB W P R A st it x2 x3 x4 x5 n2 n3 n4 n5 ins outs hids steps) (hb : Below W.heap.size W W') : AnyB W' P R A st it x2 x3 x4 x5 n2 n3 n4 n5 ins outs hids steps :=
  ⟨h.hP, h.hRA, h.var.below hb, h.res.below hb, h.o2.below hb, h.o3.below hb, h.o4.below hb, h.o5.below hb⟩

theorem AnyB.pick (h : AnyB W P R A st it x2 x3 x4 x5 n2 n3 n4 n5 ins outs hids steps) (hg : W.grownBy W' (some P)) : AnyB W' P R A st it x2 x3 x4 x5 n2 n3 n4 n5 ins outs hids steps := by
  have h1 := h.hP
  have h2 := h.hRA
  exact ⟨h.hP, h.hRA, h.var.grown hg (fun e => by have := Option.some.inj e; omega), h.res.grown hg (fun e => by have := Option.some.inj e; omega),
    h.o2.keep hg (fun k hk e => by have a := (h.o2.lt k hk).1; have b := Option.some.inj e; omega), h.o3.keep hg (fun k hk e => by have a := (h.o3.lt k hk).1; have b := Option.some.inj e; omega),
    h.o4.keep hg (fun k hk e => by have a := (h.o4.lt k hk).1; have b := Option.some.inj e; omega), h.o5.keep hg (fun k hk e => by have a := (h.o5.lt k hk).1; have b := Option.some.inj e; omega)⟩

/-- A cell of the variable is stored into. -/
theorem anyB_store {C : Array Value} {j : Nat} {u : Value} (hP : P < R) (hRA : R < A) (var : VarIs W A C 30) (res : VarIs W R #[.int .i64 0, .int .i64 0, .slice none 0 0, .slice none 0 0, .slice none 0 0, .slice none 0 0] 30)
    (o2 : Owns W (R + 1) x2 n2 ins) (o3 : Owns W (R + 1) x3 n3 outs) (o4 : Owns W (R + 1) x4 n4 hids) (o5 : OwnsS 70 W (R + 1) x5 n5 steps) (hC : C.setIfInBounds j u = #[.int .i64 st, .int .i64 it, x2, x3, x4, x5]) :
    AnyB (W.setCell ⟨A, j, none⟩ u) P R A st it x2 x3 x4 x5 n2 n3 n4 n5 ins outs hids steps := by
  have hg : W.grownBy (W.setCell ⟨A, j, none⟩ u) (some A) := grownBy_set W A j u
  have v := var.set j u
  rw [hC] at v
  exact ⟨hP, hRA, v, res.other (by omega) _, o2.keep hg (fun k hk e => own_ne o2 var (by decide) (hk.trans e)), o3.keep hg (fun k hk e => own_ne o3 var (by decide) (hk.trans e)), o4.keep hg (fun k hk e => own_ne o4 var (by decide) (hk.trans e)), o5.keep hg (fun k hk e => own_ne o5 var (by decide) (hk.trans e))⟩

end

/-- An automaton whose lists are rows of the call's own. -/
def IaMine (w : World) (base : Nat) (a : IaD) (v : Value) : Prop :=
  ∃ x2 x3 x4 x5 : Value, v = .agg #[.int .i64 a.states, .int .i64 a.init, x2, x3, x4, x5] ∧ Owns w base x2 a.ins.length a.ins ∧ Owns w base x3 a.outs.length a.outs ∧ Owns w base x4 a.hids.length a.hids ∧ OwnsS 70 w base x5 a.steps.length a.steps

theorem IaMine.row {w : World} {base : Nat} {a : IaD} {v : Value} (h : IaMine w base a v) : IaRow w a v := by
  obtain ⟨x2, x3, x4, x5, rfl, o2, o3, o4, o5⟩ := h
  obtain ⟨b2, d2, rfl⟩ := o2.form
  obtain ⟨b3, d3, rfl⟩ := o3.form
  obtain ⟨b4, d4, rfl⟩ := o4.form
  obtain ⟨b5, d5, rfl⟩ := o5.form
  exact ⟨_, _, _, _, _, _, _, _, _, _, _, _, rfl, o2.row.2.2.2, o3.row.2.2.2, o4.row.2.2.2, o5.row.2.2.2⟩

theorem IaMine.below {w w' : World} {base : Nat} {a : IaD} {v : Value} (h : IaMine w base a v) (hb : Below w.heap.size w w') : IaMine w' base a v := by
  obtain ⟨x2, x3, x4, x5, e, o2, o3, o4, o5⟩ := h
  exact ⟨x2, x3, x4, x5, e, o2.below hb, o3.below hb, o4.below hb, o5.below hb⟩

theorem IaMine.mono {w : World} {base base' : Nat} {a : IaD} {v : Value} (h : IaMine w base' a v) (hb : base ≤ base') : IaMine w base a v := by
  obtain ⟨x2, x3, x4, x5, e, o2, o3, o4, o5⟩ := h
  exact ⟨x2, x3, x4, x5, e, o2.mono hb, o3.mono hb, o4.mono hb, o5.mono hb⟩

theorem IaMine.keep {w w' : World} {base q : Nat} {a : IaD} {v : Value} (h : IaMine w base a v) (hg : w.grownBy w' (some q)) (hq : q < base) : IaMine w' base a v := by
  obtain ⟨x2, x3, x4, x5, e, o2, o3, o4, o5⟩ := h
  exact ⟨x2, x3, x4, x5, e, o2.keep hg (fun k hk e => by have a := (o2.lt k hk).1; have b := Option.some.inj e; omega), o3.keep hg (fun k hk e => by have a := (o3.lt k hk).1; have b := Option.some.inj e; omega), o4.keep hg (fun k hk e => by have a := (o4.lt k hk).1; have b := Option.some.inj e; omega), o5.keep hg (fun k hk e => by have a := (o5.lt k hk).1; have b := Option.some.inj e; omega)⟩

theorem AnyB.ret {W W' : World} {P R A : Nat} {st it : Int} {x2 x3 x4 x5 : Value} {n2 n3 n4 n5 : Nat} {ins outs hids : List Int} {steps : List St} (h : AnyB W P R A st it x2 x3 x4 x5 n2 n3 n4 n5 ins outs hids steps) (hg : W.grownBy W' (some R)) : IaMine W' R ⟨st, it, ins, outs, hids, steps⟩ (.agg #[.int .i64 st, .int .i64 it, x2, x3, x4, x5]) := by
  have e2 := h.o2.length
  have e3 := h.o3.length
  have e4 := h.o4.length
  have e5 := h.o5.length
  subst e2 e3 e4 e5
  exact ⟨x2, x3, x4, x5, rfl, (h.o2.keep hg (fun k hk e => by have a := (h.o2.lt k hk).1; have b := Option.some.inj e; omega)).mono (by omega), (h.o3.keep hg (fun k hk e => by have a := (h.o3.lt k hk).1; have b := Option.some.inj e; omega)).mono (by omega), (h.o4.keep hg (fun k hk e => by have a := (h.o4.lt k hk).1; have b := Option.some.inj e; omega)).mono (by omega), (h.o5.keep hg (fun k hk e => by have a := (h.o5.lt k hk).1; have b := Option.some.inj e; omega)).mono (by omega)⟩

/-- What anyIa leaves. -/
def IaAny (w : World) (P t : Nat) (e : Ending) (w' : World) : Prop :=
  ∃ a v, e = .returned v ∧ IaMine w' w.heap.size a v ∧ (a.ins.length ≤ 1000 ∧ a.outs.length ≤ 1000 ∧ a.hids.length ≤ 1000 ∧ a.steps.length ≤ 1000) ∧ Cur w' P t ∧ w.grownBy w' (some P)

theorem three_cell {w1 w2 : World} {P j : Nat} {x y z : Int} (hg : (w1.alloc (.cells #[.int .i64 x, .int .i64 y, .int .i64 z] 3)).grownBy w2 (some P)) (hP : P < w1.heap.size) (hj : j < 3) : ∃ u, w2.cell? ⟨w1.heap.size, j, none⟩ = some (.int .i64 u) := by
  have hv : VarIs (w1.alloc (.cells #[.int .i64 x, .int .i64 y, .int .i64 z] 3)) w1.heap.size #[.int .i64 x, .int .i64 y, .int .i64 z] 3 := VarIs.new w1 _ _ rfl
  have hv2 := hv.grown hg (fun e => by have := Option.some.inj e; omega)
  match j, hj with
  | 0, _ => exact ⟨x, hv2.cell rfl⟩
  | 1, _ => exact ⟨y, hv2.cell rfl⟩
  | 2, _ => exact ⟨z, hv2.cell rfl⟩

set_option maxRecDepth 20000 in
set_option maxHeartbeats 12800000 in
theorem anyIa_any (P t : Nat) (w : World) (h : Cur w P t) (ht : t ≤ 10000) :
    Calls Try.prog 46 #[.pointer (some ⟨P, 0, none⟩)] w (IaAny w P (t + 340)) := by
  obtain ⟨i0, hi, hz0, hz1, hz2⟩ := info_parts info_int
  obtain ⟨i1, hi1, hy0, hy1, hy2⟩ := info_parts (show (Try.prog.info? 70).map (fun i => (i.zero, i.size, i.bytes)) = some (some (.agg #[.int .i64 0, .int .i64 0, .int .i64 0]), 3, 24) by kernel_rfl)
  have hP := h.lt
  have H0 := Lib.hid h
  clear h
  have BZ : Hid (Below w.heap.size w (w.alloc (.cells #[.int .i64 0, .int .i64 0, .slice none 0 0, .slice none 0 0, .slice none 0 0, .slice none 0 0] 30))) := (Below.refl _ _).alloc (Nat.le_refl _) _
  have VZ := Lib.hid (VarIs.new w #[.int .i64 0, .int .i64 0, .slice none 0 0, .slice none 0 0, .slice none 0 0, .slice none 0 0] 30 rfl)
  have hsz : (w.alloc (.cells #[.int .i64 0, .int .i64 0, .slice none 0 0, .slice none 0 0, .slice none 0 0, .slice none 0 0] 30)).heap.size = w.heap.size + 1 := by simp
  go_enter Try.func46, Try.ntmps46
  go_wp2_with fail
  refine (ia_any P t _ (H0.out.below BZ.out) (by omega)).mono ?_
  rintro e w1 ⟨a, v, rfl, how, hnear, _, _, _, _, hcur, hg⟩
  rw [hsz] at how
  obtain ⟨st, it, ins, outs, hids, steps⟩ := a
  obtain ⟨x2, x3, x4, x5, rfl, o2, o3, o4, o5, p2, p3, p4⟩ := how
  simp only at o2 o3 o4 o5
  obtain ⟨k2, k3, k4, k5⟩ := hnear
  simp only at k2 k3 k4 k5
  obtain ⟨n2, hn2⟩ : ∃ n, n = ins.length := ⟨_, rfl⟩
  obtain ⟨n3, hn3⟩ : ∃ n, n = outs.length := ⟨_, rfl⟩
  obtain ⟨n4, hn4⟩ : ∃ n, n = hids.length := ⟨_, rfl⟩
  obtain ⟨n5, hn5⟩ : ∃ n, n = steps.length := ⟨_, rfl⟩
  rw [← hn2] at o2 k2
  rw [← hn3] at o3 k3
  rw [← hn4] at o4 k4
  rw [← hn5] at o5 k5
  obtain ⟨b2, d2, rfl⟩ := o2.form
  obtain ⟨b3, d3, rfl⟩ := o3.form
  obtain ⟨b4, d4, rfl⟩ := o4.form
  obtain ⟨b5, d5, rfl⟩ := o5.form
  have V1 := VZ.out.grown hg (fun e => by have := Option.some.inj e; omega)
  have hA1 := V1.lt
  have AB2 : Hid (AnyB (w1.alloc (.cells #[.int .i64 st, .int .i64 it, .slice b2 n2 d2, .slice b3 n3 d3, .slice b4 n4 d4, .slice b5 n5 d5] 30)) P w.heap.size w1.heap.size st it (.slice b2 n2 d2) (.slice b3 n3 d3) (.slice b4 n4 d4) (.slice b5 n5 d5) (n2) (n3) (n4) (n5) (ins) (outs) (hids) (steps)) := ⟨hP, hA1, VarIs.new w1 _ _ rfl, V1.alloc _, o2.alloc _, o3.alloc _, o4.alloc _, o5.alloc _⟩
  have CU2 : Hid (Cur (w1.alloc (.cells #[.int .i64 st, .int .i64 it, .slice b2 n2 d2, .slice b3 n3 d3, .slice b4 n4 d4, .slice b5 n5 d5] 30)) P (t + 320)) := hcur.below ((Below.refl _ w1).alloc (Nat.le_refl _) _)
  have GR2 : Hid (w.grownBy (w1.alloc (.cells #[.int .i64 st, .int .i64 it, .slice b2 n2 d2, .slice b3 n3 d3, .slice b4 n4 d4, .slice b5 n5 d5] 30)) (some P)) := grownBy_trans (grownBy_trans (World.grownBy_alloc w _ _) hg) (World.grownBy_alloc w1 _ _)
  have D2 := Lib.hid p2
  have D3 := Lib.hid p3
  have D4 := Lib.hid p4
  clear hcur hg V1 o2 o3 o4 o5 p2 p3 p4 hn2 hn3 hn4 hn5 BZ VZ H0 hsz
  go_wp2_with fail
  refine (once_any P (t + 320) 10 _ CU2.out (by omega) (by omega) (by omega)).mono ?_
  rintro e w2 ⟨q, rfl, hcur, hg⟩
  have AB2' := Lib.hid (AB2.out.pick hg)
  have CU2' := Lib.hid hcur
  have GR2' := Lib.hid (grownBy_trans GR2.out hg)
  clear hcur hg AB2 CU2 GR2
  cases q with
  | false =>
    have lE2 := AB2'.out.o2.length
    have lE3 := AB2'.out.o3.length
    have lE4 := AB2'.out.o4.length
    have lE5 := AB2'.out.o5.length
    obtain ⟨C, hC⟩ : ∃ C : Array Value, C = #[.int .i64 st, .int .i64 it, .slice b2 n2 d2, .slice b3 n3 d3, .slice b4 n4 d4, .slice b5 n5 d5] := ⟨_, rfl⟩
    have HC := Lib.hid hC
    have VC : Hid (VarIs w2 w1.heap.size C 30) := by rw [hC]; exact AB2'.out.var
    have hCl : C.toList.length = 6 := by rw [hC]; rfl
    have HCL := Lib.hid hCl
    have RG := Lib.hid VC.out.range
    have TH : Hid (w2.there w.heap.size 0 C.toList.toArray.size) := AB2'.out.res.there (by rw [List.size_toArray, hCl]; rfl)
    have ON : Hid (C.toList.toArray.all (·.oneCell') = true) := by rw [hC]; exact six_one _ _ _ _ _ _ _ _ _ _ _ _ _ _
    clear hC hCl VC
    go_wp2_with (first | refine wpList_load_mid rfl _ _ rfl w1.heap.size 0 rfl C.toList _ RG.out Try.underlying30 rfl (by rw [HCL.out]; kernel_rfl) ?_ | refine wpList_store_mid rfl _ _ _ rfl w.heap.size 0 C.toList.toArray rfl rfl TH.out (by rw [List.size_toArray, HCL.out]; kernel_rfl) ON.out ?_)
    have RG2 : Hid ((w2.setCells w.heap.size 0 C.toList).rangeAt w.heap.size 0 C.toList) := World.rangeAt_setCells_same w2 w.heap.size 0 C.toList (by simpa using TH.out)
    have HGS := Lib.hid (grown_setCells w.heap.size C.toList 0 w2)
    refine bodyPost_ret (v := .agg C) ?_ rfl ⟨⟨st, it, ins, outs, hids, steps⟩, .agg C, rfl, by have h9 := AB2'.out.ret HGS.out; rw [← HC.out] at h9; exact h9, ⟨by simp only; omega, by simp only; omega, by simp only; omega, by simp only; omega⟩, (CU2'.out.keep (B := P + 1) HGS.out (by omega) (fun q hq => by have h1 := Option.some.inj hq; omega)).mono (by omega), grown_past GR2'.out HGS.out (Nat.le_refl _)⟩
    have hCx := HC.out
    subst hCx
    have HF := RG2.out
    have HC0 := HF 0 _ rfl
    have HC1 := HF 1 _ rfl
    have HC2' := HF 2 _ rfl
    have HC3 := HF 3 _ rfl
    have HC4 := HF 4 _ rfl
    have HC5 := HF 5 _ rfl
    simp only [Nat.zero_add] at HC0 HC1 HC2' HC3 HC4 HC5
    clear HF RG2 HGS HC
    simp [results, Try.results46, go_sem, HC0, HC1, HC2', HC3, HC4, HC5]

  | true =>
    go_wp2_with fail
    refine (pick_any P (t + 320 + 1) 6 _ CU2'.out (by omega) (by omega) (by omega)).mono ?_
    rintro e w3 ⟨r, rfl, hr0, hr1, hcur, hg⟩
    have AB3 := Lib.hid (AB2'.out.pick hg)
    have CU3 : Hid (Cur w3 P (t + 322)) := hcur
    have GR3 := Lib.hid (grownBy_trans GR2'.out hg)
    have hA3' := AB3.out.var.lt
    clear hcur hg AB2' CU2' GR2'
    by_cases h0 : r = 0
    · subst h0
      go_wp2_with fail
      refine (raw_any P (t + 322) _ CU3.out (by omega)).mono ?_
      rintro e w4 ⟨x, rfl, _, hcur4, hg4⟩
      have AB4 := Lib.hid (AB3.out.pick hg4)
      have CU4 := Lib.hid hcur4
      have GR4 := Lib.hid (grownBy_trans GR3.out hg4)
      have hA4 := AB4.out.var.lt
      clear hcur4 hg4 AB3 CU3 GR3
      have AB5 := Lib.hid (AB4.out.below ((Below.refl _ w4).alloc (Nat.le_refl _) (.cells #[.int .i64 x, .int .i64 40, .int .i64 41] 3)))
      have CU5 := Lib.hid (CU4.out.below ((Below.refl _ w4).alloc (Nat.le_refl _) (.cells #[.int .i64 x, .int .i64 40, .int .i64 41] 3)))
      have GR5 : Hid (w.grownBy (w4.alloc (.cells #[.int .i64 x, .int .i64 40, .int .i64 41] 3)) (some P)) := grownBy_trans GR4.out (World.grownBy_alloc w4 _ _)
      go_wp2_with fail
      refine (pick_any P (t + 322 + 2) 3 _ CU5.out (by omega) (by omega) (by omega)).mono ?_
      rintro e w5 ⟨r5, rfl, hr50, hr51, hcur5, hg5⟩
      obtain ⟨j, rfl⟩ : ∃ j : Nat, r5 = (j : Int) := ⟨r5.toNat, by omega⟩
      have hj3 : j < 3 := by omega
      obtain ⟨u, hu⟩ := three_cell hg5 (by omega) hj3
      have AB6 := Lib.hid (AB5.out.pick hg5)
      have CU6 := Lib.hid hcur5
      have GR6 := Lib.hid (grownBy_trans GR5.out hg5)
      have m0 := AB6.out.var.cell (j := 0) rfl
      have f0 := AB6.out.var.frozen 0
      have AB7 : Hid (AnyB (w5.setCell ⟨w1.heap.size, 0, none⟩ (.int .i64 u)) P w.heap.size w1.heap.size u it (.slice b2 n2 d2) (.slice b3 n3 d3) (.slice b4 n4 d4) (.slice b5 n5 d5) (n2) (n3) (n4) (n5) (ins) (outs) (hids) (steps)) := anyB_store AB6.out.hP AB6.out.hRA AB6.out.var AB6.out.res AB6.out.o2 AB6.out.o3 AB6.out.o4 AB6.out.o5 rfl
      have CU7 := Lib.hid (CU6.out.keep (B := P + 1) (grownBy_set w5 w1.heap.size 0 (.int .i64 u)) (by omega) (fun q hq => by have h1 := Option.some.inj hq; omega))
      have GR7 := Lib.hid (grown_past GR6.out (grownBy_set w5 w1.heap.size 0 (.int .i64 u)) (by omega))
      clear hcur5 hg5 AB4 AB5 CU4 CU5 GR4 GR5 AB6 CU6 GR6
      have lE2 := AB7.out.o2.length
      have lE3 := AB7.out.o3.length
      have lE4 := AB7.out.o4.length
      have lE5 := AB7.out.o5.length
      obtain ⟨C, hC⟩ : ∃ C : Array Value, C = #[.int .i64 u, .int .i64 it, .slice b2 n2 d2, .slice b3 n3 d3, .slice b4 n4 d4, .slice b5 n5 d5] := ⟨_, rfl⟩
      have HC := Lib.hid hC
      have VC : Hid (VarIs (w5.setCell ⟨w1.heap.size, 0, none⟩ (.int .i64 u)) w1.heap.size C 30) := by rw [hC]; exact AB7.out.var
      have hCl : C.toList.length = 6 := by rw [hC]; rfl
      have HCL := Lib.hid hCl
      have RG := Lib.hid VC.out.range
      have TH : Hid ((w5.setCell ⟨w1.heap.size, 0, none⟩ (.int .i64 u)).there w.heap.size 0 C.toList.toArray.size) := AB7.out.res.there (by rw [List.size_toArray, hCl]; rfl)
      have ON : Hid (C.toList.toArray.all (·.oneCell') = true) := by rw [hC]; exact six_one _ _ _ _ _ _ _ _ _ _ _ _ _ _
      clear hC hCl VC
      go_wp2_with (first | refine wpList_load_mid rfl _ _ rfl w1.heap.size 0 rfl C.toList _ RG.out Try.underlying30 rfl (by rw [HCL.out]; kernel_rfl) ?_ | refine wpList_store_mid rfl _ _ _ rfl w.heap.size 0 C.toList.toArray rfl rfl TH.out (by rw [List.size_toArray, HCL.out]; kernel_rfl) ON.out ?_)
      have RG2 : Hid (((w5.setCell ⟨w1.heap.size, 0, none⟩ (.int .i64 u)).setCells w.heap.size 0 C.toList).rangeAt w.heap.size 0 C.toList) := World.rangeAt_setCells_same (w5.setCell ⟨w1.heap.size, 0, none⟩ (.int .i64 u)) w.heap.size 0 C.toList (by simpa using TH.out)
      have HGS := Lib.hid (grown_setCells w.heap.size C.toList 0 (w5.setCell ⟨w1.heap.size, 0, none⟩ (.int .i64 u)))
      refine bodyPost_ret (v := .agg C) ?_ rfl ⟨⟨u, it, ins, outs, hids, steps⟩, .agg C, rfl, by have h9 := AB7.out.ret HGS.out; rw [← HC.out] at h9; exact h9, ⟨by simp only; omega, by simp only; omega, by simp only; omega, by simp only; omega⟩, (CU7.out.keep (B := P + 1) HGS.out (by omega) (fun q hq => by have h1 := Option.some.inj hq; omega)).mono (by omega), grown_past GR7.out HGS.out (Nat.le_refl _)⟩
      have hCx := HC.out
      subst hCx
      have HF := RG2.out
      have HC0 := HF 0 _ rfl
      have HC1 := HF 1 _ rfl
      have HC2' := HF 2 _ rfl
      have HC3 := HF 3 _ rfl
      have HC4 := HF 4 _ rfl
      have HC5 := HF 5 _ rfl
      simp only [Nat.zero_add] at HC0 HC1 HC2' HC3 HC4 HC5
      clear HF RG2 HGS HC
      simp [results, Try.results46, go_sem, HC0, HC1, HC2', HC3, HC4, HC5]
    · have e0 : (r == 0) = false := by simpa using h0
      by_cases h1 : r = 1
      · subst h1
        go_wp2_with fail
        refine (raw_any P (t + 322) _ CU3.out (by omega)).mono ?_
        rintro e w4 ⟨x, rfl, _, hcur4, hg4⟩
        have AB4 := Lib.hid (AB3.out.pick hg4)
        have CU4 := Lib.hid hcur4
        have GR4 := Lib.hid (grownBy_trans GR3.out hg4)
        have m0 := AB4.out.var.cell (j := 1) rfl
        have f0 := AB4.out.var.frozen 1
        have AB7 : Hid (AnyB (w4.setCell ⟨w1.heap.size, 1, none⟩ (.int .i64 x)) P w.heap.size w1.heap.size st x (.slice b2 n2 d2) (.slice b3 n3 d3) (.slice b4 n4 d4) (.slice b5 n5 d5) (n2) (n3) (n4) (n5) (ins) (outs) (hids) (steps)) := anyB_store AB4.out.hP AB4.out.hRA AB4.out.var AB4.out.res AB4.out.o2 AB4.out.o3 AB4.out.o4 AB4.out.o5 rfl
        have CU7 := Lib.hid (CU4.out.keep (B := P + 1) (grownBy_set w4 w1.heap.size 1 (.int .i64 x)) (by omega) (fun q hq => by have h1 := Option.some.inj hq; omega))
        have GR7 := Lib.hid (grown_past GR4.out (grownBy_set w4 w1.heap.size 1 (.int .i64 x)) (by omega))
        clear hcur4 hg4 AB3 CU3 GR3 AB4 CU4 GR4
        have lE2 := AB7.out.o2.length
        have lE3 := AB7.out.o3.length
        have lE4 := AB7.out.o4.length
        have lE5 := AB7.out.o5.length
        obtain ⟨C, hC⟩ : ∃ C : Array Value, C = #[.int .i64 st, .int .i64 x, .slice b2 n2 d2, .slice b3 n3 d3, .slice b4 n4 d4, .slice b5 n5 d5] := ⟨_, rfl⟩
        have HC := Lib.hid hC
        have VC : Hid (VarIs (w4.setCell ⟨w1.heap.size, 1, none⟩ (.int .i64 x)) w1.heap.size C 30) := by rw [hC]; exact AB7.out.var
        have hCl : C.toList.length = 6 := by rw [hC]; rfl
        have HCL := Lib.hid hCl
        have RG := Lib.hid VC.out.range
        have TH : Hid ((w4.setCell ⟨w1.heap.size, 1, none⟩ (.int .i64 x)).there w.heap.size 0 C.toList.toArray.size) := AB7.out.res.there (by rw [List.size_toArray, hCl]; rfl)
        have ON : Hid (C.toList.toArray.all (·.oneCell') = true) := by rw [hC]; exact six_one _ _ _ _ _ _ _ _ _ _ _ _ _ _
        clear hC hCl VC
        go_wp2_with (first | refine wpList_load_mid rfl _ _ rfl w1.heap.size 0 rfl C.toList _ RG.out Try.underlying30 rfl (by rw [HCL.out]; kernel_rfl) ?_ | refine wpList_store_mid rfl _ _ _ rfl w.heap.size 0 C.toList.toArray rfl rfl TH.out (by rw [List.size_toArray, HCL.out]; kernel_rfl) ON.out ?_)
        have RG2 : Hid (((w4.setCell ⟨w1.heap.size, 1, none⟩ (.int .i64 x)).setCells w.heap.size 0 C.toList).rangeAt w.heap.size 0 C.toList) := World.rangeAt_setCells_same (w4.setCell ⟨w1.heap.size, 1, none⟩ (.int .i64 x)) w.heap.size 0 C.toList (by simpa using TH.out)
        have HGS := Lib.hid (grown_setCells w.heap.size C.toList 0 (w4.setCell ⟨w1.heap.size, 1, none⟩ (.int .i64 x)))
        refine bodyPost_ret (v := .agg C) ?_ rfl ⟨⟨st, x, ins, outs, hids, steps⟩, .agg C, rfl, by have h9 := AB7.out.ret HGS.out; rw [← HC.out] at h9; exact h9, ⟨by simp only; omega, by simp only; omega, by simp only; omega, by simp only; omega⟩, (CU7.out.keep (B := P + 1) HGS.out (by omega) (fun q hq => by have h1 := Option.some.inj hq; omega)).mono (by omega), grown_past GR7.out HGS.out (Nat.le_refl _)⟩
        have hCx := HC.out
        subst hCx
        have HF := RG2.out
        have HC0 := HF 0 _ rfl
        have HC1 := HF 1 _ rfl
        have HC2' := HF 2 _ rfl
        have HC3 := HF 3 _ rfl
        have HC4 := HF 4 _ rfl
        have HC5 := HF 5 _ rfl
        simp only [Nat.zero_add] at HC0 HC1 HC2' HC3 HC4 HC5
        clear HF RG2 HGS HC
        simp [results, Try.results46, go_sem, HC0, HC1, HC2', HC3, HC4, HC5]
      · have e1 : (r == 1) = false := by simpa using h1
        by_cases h2 : r = 2
        · subst h2
          have AB4 : Hid (AnyB w3.drew P w.heap.size w1.heap.size st it (.slice b2 n2 d2) (.slice b3 n3 d3) (.slice b4 n4 d4) (.slice b5 n5 d5) (n2) (n3) (n4) (n5) (ins) (outs) (hids) (steps)) := AB3.out.below (Below.refl _ _).drew
          have CU4 : Hid (Cur w3.drew P (t + 322 + 0)) := CU3.out.below (Below.refl _ _).drew
          have GR4 : Hid (w.grownBy w3.drew (some P)) := grownBy_trans GR3.out (grownBy_drewN w3 1 _)
          go_wp2_with fail
          refine wp_region_held_drew (S := fun _ => True) (by kernel_rfl) trivial (fun hHeld => ?_)
          change wpAnyH _ _ _ _ _ 8 (Array.replicate 8 false) _ _
          refine take_op 0 33 (.pointer (some ⟨w1.heap.size, 2, none⟩)) (fuel := 7) rfl rfl (by kernel_rfl) (by kernel_rfl) (by kernel_rfl) (fun _ _ _ h => h) (by rfl) (fun w hSw => by go_simp) hHeld ?_
          simp only [Act.put, List.setIfInBounds_toArray, List.set_cons_zero, List.set_cons_succ]
          refine take_op 2 35 (.pointer (some ⟨P, 0, none⟩)) (fuel := 6) rfl rfl (by kernel_rfl) (by kernel_rfl) (by kernel_rfl) (fun _ _ _ h => h) (by rfl) (fun w hSw => by go_simp) hHeld ?_
          simp only [Act.put, List.setIfInBounds_toArray, List.set_cons_zero, List.set_cons_succ]
          refine wpAnyH_ready (rs := [1, 3]) (fuel := 5) (by kernel_rfl) (by simp) ?_
          refine AllReadyH.cons rfl (fun K hK => ?_) ?_
          · have m1 := AB4.out.var.cell (j := 2) rfl
            go_simp
            refine hK.out _ _ trivial (fun hHeld => ?_)
            clear hK K m1
            try simp only [Act.put, List.setIfInBounds_toArray, List.set_cons_zero, List.set_cons_succ]
            refine wpAnyH_ready (rs := [3]) (fuel := 4) (by kernel_rfl) (by simp) ?_
            refine AllReadyH.cons rfl (fun K hK => ?_) AllReadyH.nil
            go_simp
            refine (raw_any P (t + 322 + 0) _ CU4.out (by omega)).mono ?_
            rintro e wp2 ⟨r2, rfl, _, hcur, hg⟩
            have ab2 := Lib.hid (AB4.out.pick hg)
            have cu2 := Lib.hid hcur
            have gr2 := Lib.hid (grownBy_trans GR4.out hg)
            clear hcur hg
            go_wp2_with fail
            refine hK.out _ _ trivial (fun hHeld => ?_)
            clear hK K
            refine wpAnyH_ready (rs := [4]) (fuel := 3) (by kernel_rfl) (by simp) ?_
            refine AllReadyH.cons rfl (fun K hK => ?_) AllReadyH.nil
            have ab3 : Hid (AnyB (wp2.alloc (.cells #[.int .i64 r2] 3)) P w.heap.size w1.heap.size st it (.slice b2 n2 d2) (.slice b3 n3 d3) (.slice b4 n4 d4) (.slice b5 n5 d5) (n2) (n3) (n4) (n5) (ins) (outs) (hids) (steps)) := ab2.out.below ((Below.refl _ wp2).alloc (Nat.le_refl _) (.cells #[.int .i64 r2] 3))
            have cu3 := Lib.hid (cu2.out.below ((Below.refl _ wp2).alloc (Nat.le_refl _) (.cells #[.int .i64 r2] 3)))
            have gr3 := Lib.hid (grownBy_trans gr2.out (grown_of_below ((Below.refl _ wp2).alloc (Nat.le_refl _) (.cells #[.int .i64 r2] 3)) _))
            have HB9 : Hid (w.heap.size + 1 ≤ (wp2.alloc (.cells #[.int .i64 r2] 3)).heap.size) := by have h1 := ab2.out.var.lt; have h2 := ab2.out.hRA; simp [Hid]; omega
            have SN : Hid (∀ j u, ([r2].map (Value.int .i64))[j]? = some u → (wp2.alloc (.cells #[.int .i64 r2] 3)).cell? ((⟨wp2.heap.size, 0, none⟩ : Addr).add j) = some u) := fun j u hu => by
              have hv : VarIs (wp2.alloc (.cells #[.int .i64 r2] 3)) wp2.heap.size #[.int .i64 r2] 3 := VarIs.new wp2 #[.int .i64 r2] 3 rfl
              rw [add_lit, Nat.zero_add]
              exact hv.cell (by simpa using hu)
            go_simp
            refine hK.out _ _ trivial (fun hHeld => ?_)
            clear hK K
            try simp only [Act.put, List.setIfInBounds_toArray, List.set_cons_zero, List.set_cons_succ]
            refine wpAnyH_ready (rs := [5]) (fuel := 2) (by kernel_rfl) (by simp) ?_
            refine AllReadyH.cons rfl (fun K hK => ?_) AllReadyH.nil
            refine step_append_lies _ rfl (.tmp 34) (.tmp 37) 22 rfl (w.heap.size + 1) 3 i0 (.int .i64 0) 1 8 Try.underlying22 hi hz0 hz1 hz2 rfl (by decide) (.slice b2 n2 d2) n2 (ins.map (Value.int .i64)) rfl ab3.out.o2 ⟨wp2.heap.size, 0, none⟩ 1 1 ([r2].map (Value.int .i64)) rfl rfl SN.out (ints_oneCell _ _) (by decide) (by unfold maxLen; omega) (by omega) HB9.out _ rfl ?_
            intro g cap w9 hown hgrow hlies hlt
            refine hK.out _ _ trivial (fun hHeld => ?_)
            clear hK K
            simp only [Act.put, List.setIfInBounds_toArray]
            have bl : ∀ q, (.slice b2 n2 d2 : Value).ownBlock = some q → w.heap.size + 1 ≤ q := fun q hq => (ab3.out.o2.lt q hq).1
            have va9 := ab3.out.var.grown hgrow (fun e => own_ne ab3.out.o2 ab3.out.var (by decide) e.symm)
            have re9 := ab3.out.res.grown hgrow (fun e => by have := bl _ e.symm; omega)
            have q3 := ab3.out.o3.keep hgrow (fun k hk e => by have := (D2.out k e.symm).1; exact this hk)
            have q4 := ab3.out.o4.keep hgrow (fun k hk e => by have := (D2.out k e.symm).2.1; exact this hk)
            have q5 := ab3.out.o5.keep hgrow (fun k hk e => by have := (D2.out k e.symm).2.2; exact this hk)
            have CU8 := Lib.hid (cu3.out.keep (B := P + 1) hgrow (by omega) (fun q hq => by have := bl q hq; omega))
            have GR8 := Lib.hid (grownBy_own2 gr3.out hgrow (fun q hq => by have := bl q hq; omega))
            have AB9 : Hid (AnyB (w9.setCell ⟨w1.heap.size, 2, none⟩ (.slice (some ⟨g, 0, none⟩) (n2 + 1) cap)) P w.heap.size w1.heap.size st it (.slice (some ⟨g, 0, none⟩) (n2 + 1) cap) (.slice b3 n3 d3) (.slice b4 n4 d4) (.slice b5 n5 d5) (n2 + 1) (n3) (n4) (n5) (ins ++ [r2]) (outs) (hids) (steps)) := anyB_store ab3.out.hP ab3.out.hRA va9 re9 (by unfold Owns; rw [List.map_append]; exact hown) q3 q4 q5 rfl
            have CU9 := Lib.hid (CU8.out.keep (B := P + 1) (grownBy_set w9 w1.heap.size 2 (.slice (some ⟨g, 0, none⟩) (n2 + 1) cap)) (by omega) (fun q hq => by have h1 := Option.some.inj hq; omega))
            have GR9 := Lib.hid (grown_past GR8.out (grownBy_set w9 w1.heap.size 2 (.slice (some ⟨g, 0, none⟩) (n2 + 1) cap)) (by omega))
            have m9 := va9.cell (j := 2) rfl
            have f9 := va9.frozen 2
            clear hown hgrow hlies hlt
            refine take_op 6 39 (.pointer (some ⟨w1.heap.size, 2, none⟩)) (fuel := 1) rfl rfl (by kernel_rfl) (by kernel_rfl) (by kernel_rfl) (fun _ _ _ h => h) (by rfl) (fun w hSw => by go_simp) hHeld ?_
            simp only [Act.put]
            refine wpAnyH_ready (rs := [7]) (fuel := 0) (by kernel_rfl) (by simp) ?_
            refine AllReadyH.cons rfl (fun K hK => ?_) AllReadyH.nil
            go_simp
            refine hK.out _ _ trivial (fun hHeld => ?_)
            clear hK K
            refine wpAnyH_done (by kernel_rfl) ?_ _
            clear m9 f9 va9 re9 hHeld CU8 GR8
            have lE2 := AB9.out.o2.length
            have lE3 := AB9.out.o3.length
            have lE4 := AB9.out.o4.length
            have lE5 := AB9.out.o5.length
            obtain ⟨C, hC⟩ : ∃ C : Array Value, C = #[.int .i64 st, .int .i64 it, .slice (some ⟨g, 0, none⟩) (n2 + 1) cap, .slice b3 n3 d3, .slice b4 n4 d4, .slice b5 n5 d5] := ⟨_, rfl⟩
            have HC := Lib.hid hC
            have VC : Hid (VarIs (w9.setCell ⟨w1.heap.size, 2, none⟩ (.slice (some ⟨g, 0, none⟩) (n2 + 1) cap)) w1.heap.size C 30) := by rw [hC]; exact AB9.out.var
            have hCl : C.toList.length = 6 := by rw [hC]; rfl
            have HCL := Lib.hid hCl
            have RG := Lib.hid VC.out.range
            have TH : Hid ((w9.setCell ⟨w1.heap.size, 2, none⟩ (.slice (some ⟨g, 0, none⟩) (n2 + 1) cap)).there w.heap.size 0 C.toList.toArray.size) := AB9.out.res.there (by rw [List.size_toArray, hCl]; rfl)
            have ON : Hid (C.toList.toArray.all (·.oneCell') = true) := by rw [hC]; exact six_one _ _ _ _ _ _ _ _ _ _ _ _ _ _
            clear hC hCl VC
            go_wp2_with (first | refine wpList_load_mid rfl _ _ rfl w1.heap.size 0 rfl C.toList _ RG.out Try.underlying30 rfl (by rw [HCL.out]; kernel_rfl) ?_ | refine wpList_store_mid rfl _ _ _ rfl w.heap.size 0 C.toList.toArray rfl rfl TH.out (by rw [List.size_toArray, HCL.out]; kernel_rfl) ON.out ?_)
            have RG2 : Hid (((w9.setCell ⟨w1.heap.size, 2, none⟩ (.slice (some ⟨g, 0, none⟩) (n2 + 1) cap)).setCells w.heap.size 0 C.toList).rangeAt w.heap.size 0 C.toList) := World.rangeAt_setCells_same (w9.setCell ⟨w1.heap.size, 2, none⟩ (.slice (some ⟨g, 0, none⟩) (n2 + 1) cap)) w.heap.size 0 C.toList (by simpa using TH.out)
            have HGS := Lib.hid (grown_setCells w.heap.size C.toList 0 (w9.setCell ⟨w1.heap.size, 2, none⟩ (.slice (some ⟨g, 0, none⟩) (n2 + 1) cap)))
            refine bodyPost_ret (v := .agg C) ?_ rfl ⟨⟨st, it, ins ++ [r2], outs, hids, steps⟩, .agg C, rfl, by have h9 := AB9.out.ret HGS.out; rw [← HC.out] at h9; exact h9, ⟨by simp only; omega, by simp only; omega, by simp only; omega, by simp only; omega⟩, (CU9.out.keep (B := P + 1) HGS.out (by omega) (fun q hq => by have h1 := Option.some.inj hq; omega)).mono (by omega), grown_past GR9.out HGS.out (Nat.le_refl _)⟩
            have hCx := HC.out
            subst hCx
            have HF := RG2.out
            have HC0 := HF 0 _ rfl
            have HC1 := HF 1 _ rfl
            have HC2' := HF 2 _ rfl
            have HC3 := HF 3 _ rfl
            have HC4 := HF 4 _ rfl
            have HC5 := HF 5 _ rfl
            simp only [Nat.zero_add] at HC0 HC1 HC2' HC3 HC4 HC5
            clear HF RG2 HGS HC
            simp [results, Try.results46, go_sem, HC0, HC1, HC2', HC3, HC4, HC5]
          refine AllReadyH.cons rfl (fun K hK => ?_) AllReadyH.nil
          go_simp
          refine (raw_any P (t + 322 + 0) _ CU4.out (by omega)).mono ?_
          rintro e wp4 ⟨r4, rfl, _, hcur, hg⟩
          have ab4 := Lib.hid (AB4.out.pick hg)
          have cu4 := Lib.hid hcur
          have gr4 := Lib.hid (grownBy_trans GR4.out hg)
          clear hcur hg
          go_wp2_with fail
          refine hK.out _ _ trivial (fun hHeld => ?_)
          clear hK K
          refine wpAnyH_ready (rs := [1, 4]) (fuel := 4) (by kernel_rfl) (by simp) ?_
          refine AllReadyH.cons rfl (fun K hK => ?_) ?_
          · have m5 := ab4.out.var.cell (j := 2) rfl
            go_simp
            refine hK.out _ _ trivial (fun hHeld => ?_)
            clear hK K m5
            try simp only [Act.put, List.setIfInBounds_toArray, List.set_cons_zero, List.set_cons_succ]
            refine wpAnyH_ready (rs := [4]) (fuel := 3) (by kernel_rfl) (by simp) ?_
            refine AllReadyH.cons rfl (fun K hK => ?_) AllReadyH.nil
            have ab6 : Hid (AnyB (wp4.alloc (.cells #[.int .i64 r4] 3)) P w.heap.size w1.heap.size st it (.slice b2 n2 d2) (.slice b3 n3 d3) (.slice b4 n4 d4) (.slice b5 n5 d5) (n2) (n3) (n4) (n5) (ins) (outs) (hids) (steps)) := ab4.out.below ((Below.refl _ wp4).alloc (Nat.le_refl _) (.cells #[.int .i64 r4] 3))
            have cu6 := Lib.hid (cu4.out.below ((Below.refl _ wp4).alloc (Nat.le_refl _) (.cells #[.int .i64 r4] 3)))
            have gr6 := Lib.hid (grownBy_trans gr4.out (grown_of_below ((Below.refl _ wp4).alloc (Nat.le_refl _) (.cells #[.int .i64 r4] 3)) _))
            have HB9 : Hid (w.heap.size + 1 ≤ (wp4.alloc (.cells #[.int .i64 r4] 3)).heap.size) := by have h1 := ab4.out.var.lt; have h2 := ab4.out.hRA; simp [Hid]; omega
            have SN : Hid (∀ j u, ([r4].map (Value.int .i64))[j]? = some u → (wp4.alloc (.cells #[.int .i64 r4] 3)).cell? ((⟨wp4.heap.size, 0, none⟩ : Addr).add j) = some u) := fun j u hu => by
              have hv : VarIs (wp4.alloc (.cells #[.int .i64 r4] 3)) wp4.heap.size #[.int .i64 r4] 3 := VarIs.new wp4 #[.int .i64 r4] 3 rfl
              rw [add_lit, Nat.zero_add]
              exact hv.cell (by simpa using hu)
            go_simp
            refine hK.out _ _ trivial (fun hHeld => ?_)
            clear hK K
            try simp only [Act.put, List.setIfInBounds_toArray, List.set_cons_zero, List.set_cons_succ]
            refine wpAnyH_ready (rs := [5]) (fuel := 2) (by kernel_rfl) (by simp) ?_
            refine AllReadyH.cons rfl (fun K hK => ?_) AllReadyH.nil
            refine step_append_lies _ rfl (.tmp 34) (.tmp 37) 22 rfl (w.heap.size + 1) 3 i0 (.int .i64 0) 1 8 Try.underlying22 hi hz0 hz1 hz2 rfl (by decide) (.slice b2 n2 d2) n2 (ins.map (Value.int .i64)) rfl ab6.out.o2 ⟨wp4.heap.size, 0, none⟩ 1 1 ([r4].map (Value.int .i64)) rfl rfl SN.out (ints_oneCell _ _) (by decide) (by unfold maxLen; omega) (by omega) HB9.out _ rfl ?_
            intro g cap w9 hown hgrow hlies hlt
            refine hK.out _ _ trivial (fun hHeld => ?_)
            clear hK K
            simp only [Act.put, List.setIfInBounds_toArray]
            have bl : ∀ q, (.slice b2 n2 d2 : Value).ownBlock = some q → w.heap.size + 1 ≤ q := fun q hq => (ab6.out.o2.lt q hq).1
            have va9 := ab6.out.var.grown hgrow (fun e => own_ne ab6.out.o2 ab6.out.var (by decide) e.symm)
            have re9 := ab6.out.res.grown hgrow (fun e => by have := bl _ e.symm; omega)
            have q3 := ab6.out.o3.keep hgrow (fun k hk e => by have := (D2.out k e.symm).1; exact this hk)
            have q4 := ab6.out.o4.keep hgrow (fun k hk e => by have := (D2.out k e.symm).2.1; exact this hk)
            have q5 := ab6.out.o5.keep hgrow (fun k hk e => by have := (D2.out k e.symm).2.2; exact this hk)
            have CU8 := Lib.hid (cu6.out.keep (B := P + 1) hgrow (by omega) (fun q hq => by have := bl q hq; omega))
            have GR8 := Lib.hid (grownBy_own2 gr6.out hgrow (fun q hq => by have := bl q hq; omega))
            have AB9 : Hid (AnyB (w9.setCell ⟨w1.heap.size, 2, none⟩ (.slice (some ⟨g, 0, none⟩) (n2 + 1) cap)) P w.heap.size w1.heap.size st it (.slice (some ⟨g, 0, none⟩) (n2 + 1) cap) (.slice b3 n3 d3) (.slice b4 n4 d4) (.slice b5 n5 d5) (n2 + 1) (n3) (n4) (n5) (ins ++ [r4]) (outs) (hids) (steps)) := anyB_store ab6.out.hP ab6.out.hRA va9 re9 (by unfold Owns; rw [List.map_append]; exact hown) q3 q4 q5 rfl
            have CU9 := Lib.hid (CU8.out.keep (B := P + 1) (grownBy_set w9 w1.heap.size 2 (.slice (some ⟨g, 0, none⟩) (n2 + 1) cap)) (by omega) (fun q hq => by have h1 := Option.some.inj hq; omega))
            have GR9 := Lib.hid (grown_past GR8.out (grownBy_set w9 w1.heap.size 2 (.slice (some ⟨g, 0, none⟩) (n2 + 1) cap)) (by omega))
            have m9 := va9.cell (j := 2) rfl
            have f9 := va9.frozen 2
            clear hown hgrow hlies hlt
            refine take_op 6 39 (.pointer (some ⟨w1.heap.size, 2, none⟩)) (fuel := 1) rfl rfl (by kernel_rfl) (by kernel_rfl) (by kernel_rfl) (fun _ _ _ h => h) (by rfl) (fun w hSw => by go_simp) hHeld ?_
            simp only [Act.put]
            refine wpAnyH_ready (rs := [7]) (fuel := 0) (by kernel_rfl) (by simp) ?_
            refine AllReadyH.cons rfl (fun K hK => ?_) AllReadyH.nil
            go_simp
            refine hK.out _ _ trivial (fun hHeld => ?_)
            clear hK K
            refine wpAnyH_done (by kernel_rfl) ?_ _
            clear m9 f9 va9 re9 hHeld CU8 GR8
            have lE2 := AB9.out.o2.length
            have lE3 := AB9.out.o3.length
            have lE4 := AB9.out.o4.length
            have lE5 := AB9.out.o5.length
            obtain ⟨C, hC⟩ : ∃ C : Array Value, C = #[.int .i64 st, .int .i64 it, .slice (some ⟨g, 0, none⟩) (n2 + 1) cap, .slice b3 n3 d3, .slice b4 n4 d4, .slice b5 n5 d5] := ⟨_, rfl⟩
            have HC := Lib.hid hC
            have VC : Hid (VarIs (w9.setCell ⟨w1.heap.size, 2, none⟩ (.slice (some ⟨g, 0, none⟩) (n2 + 1) cap)) w1.heap.size C 30) := by rw [hC]; exact AB9.out.var
            have hCl : C.toList.length = 6 := by rw [hC]; rfl
            have HCL := Lib.hid hCl
            have RG := Lib.hid VC.out.range
            have TH : Hid ((w9.setCell ⟨w1.heap.size, 2, none⟩ (.slice (some ⟨g, 0, none⟩) (n2 + 1) cap)).there w.heap.size 0 C.toList.toArray.size) := AB9.out.res.there (by rw [List.size_toArray, hCl]; rfl)
            have ON : Hid (C.toList.toArray.all (·.oneCell') = true) := by rw [hC]; exact six_one _ _ _ _ _ _ _ _ _ _ _ _ _ _
            clear hC hCl VC
            go_wp2_with (first | refine wpList_load_mid rfl _ _ rfl w1.heap.size 0 rfl C.toList _ RG.out Try.underlying30 rfl (by rw [HCL.out]; kernel_rfl) ?_ | refine wpList_store_mid rfl _ _ _ rfl w.heap.size 0 C.toList.toArray rfl rfl TH.out (by rw [List.size_toArray, HCL.out]; kernel_rfl) ON.out ?_)
            have RG2 : Hid (((w9.setCell ⟨w1.heap.size, 2, none⟩ (.slice (some ⟨g, 0, none⟩) (n2 + 1) cap)).setCells w.heap.size 0 C.toList).rangeAt w.heap.size 0 C.toList) := World.rangeAt_setCells_same (w9.setCell ⟨w1.heap.size, 2, none⟩ (.slice (some ⟨g, 0, none⟩) (n2 + 1) cap)) w.heap.size 0 C.toList (by simpa using TH.out)
            have HGS := Lib.hid (grown_setCells w.heap.size C.toList 0 (w9.setCell ⟨w1.heap.size, 2, none⟩ (.slice (some ⟨g, 0, none⟩) (n2 + 1) cap)))
            refine bodyPost_ret (v := .agg C) ?_ rfl ⟨⟨st, it, ins ++ [r4], outs, hids, steps⟩, .agg C, rfl, by have h9 := AB9.out.ret HGS.out; rw [← HC.out] at h9; exact h9, ⟨by simp only; omega, by simp only; omega, by simp only; omega, by simp only; omega⟩, (CU9.out.keep (B := P + 1) HGS.out (by omega) (fun q hq => by have h1 := Option.some.inj hq; omega)).mono (by omega), grown_past GR9.out HGS.out (Nat.le_refl _)⟩
            have hCx := HC.out
            subst hCx
            have HF := RG2.out
            have HC0 := HF 0 _ rfl
            have HC1 := HF 1 _ rfl
            have HC2' := HF 2 _ rfl
            have HC3 := HF 3 _ rfl
            have HC4 := HF 4 _ rfl
            have HC5 := HF 5 _ rfl
            simp only [Nat.zero_add] at HC0 HC1 HC2' HC3 HC4 HC5
            clear HF RG2 HGS HC
            simp [results, Try.results46, go_sem, HC0, HC1, HC2', HC3, HC4, HC5]
          refine AllReadyH.cons rfl (fun K hK => ?_) AllReadyH.nil
          have ab7 : Hid (AnyB (wp4.alloc (.cells #[.int .i64 r4] 3)) P w.heap.size w1.heap.size st it (.slice b2 n2 d2) (.slice b3 n3 d3) (.slice b4 n4 d4) (.slice b5 n5 d5) (n2) (n3) (n4) (n5) (ins) (outs) (hids) (steps)) := ab4.out.below ((Below.refl _ wp4).alloc (Nat.le_refl _) (.cells #[.int .i64 r4] 3))
          have cu7 := Lib.hid (cu4.out.below ((Below.refl _ wp4).alloc (Nat.le_refl _) (.cells #[.int .i64 r4] 3)))
          have gr7 := Lib.hid (grownBy_trans gr4.out (grown_of_below ((Below.refl _ wp4).alloc (Nat.le_refl _) (.cells #[.int .i64 r4] 3)) _))
          have HB9 : Hid (w.heap.size + 1 ≤ (wp4.alloc (.cells #[.int .i64 r4] 3)).heap.size) := by have h1 := ab4.out.var.lt; have h2 := ab4.out.hRA; simp [Hid]; omega
          have SN : Hid (∀ j u, ([r4].map (Value.int .i64))[j]? = some u → (wp4.alloc (.cells #[.int .i64 r4] 3)).cell? ((⟨wp4.heap.size, 0, none⟩ : Addr).add j) = some u) := fun j u hu => by
            have hv : VarIs (wp4.alloc (.cells #[.int .i64 r4] 3)) wp4.heap.size #[.int .i64 r4] 3 := VarIs.new wp4 #[.int .i64 r4] 3 rfl
            rw [add_lit, Nat.zero_add]
            exact hv.cell (by simpa using hu)
          go_simp
          refine hK.out _ _ trivial (fun hHeld => ?_)
          clear hK K
          try simp only [Act.put, List.setIfInBounds_toArray, List.set_cons_zero, List.set_cons_succ]
          refine wpAnyH_ready (rs := [1]) (fuel := 3) (by kernel_rfl) (by simp) ?_
          refine AllReadyH.cons rfl (fun K hK => ?_) AllReadyH.nil
          have m8 := ab7.out.var.cell (j := 2) rfl
          go_simp
          refine hK.out _ _ trivial (fun hHeld => ?_)
          clear hK K m8
          try simp only [Act.put, List.setIfInBounds_toArray, List.set_cons_zero, List.set_cons_succ]
          refine wpAnyH_ready (rs := [5]) (fuel := 2) (by kernel_rfl) (by simp) ?_
          refine AllReadyH.cons rfl (fun K hK => ?_) AllReadyH.nil
          refine step_append_lies _ rfl (.tmp 34) (.tmp 37) 22 rfl (w.heap.size + 1) 3 i0 (.int .i64 0) 1 8 Try.underlying22 hi hz0 hz1 hz2 rfl (by decide) (.slice b2 n2 d2) n2 (ins.map (Value.int .i64)) rfl ab7.out.o2 ⟨wp4.heap.size, 0, none⟩ 1 1 ([r4].map (Value.int .i64)) rfl rfl SN.out (ints_oneCell _ _) (by decide) (by unfold maxLen; omega) (by omega) HB9.out _ rfl ?_
          intro g cap w9 hown hgrow hlies hlt
          refine hK.out _ _ trivial (fun hHeld => ?_)
          clear hK K
          simp only [Act.put, List.setIfInBounds_toArray]
          have bl : ∀ q, (.slice b2 n2 d2 : Value).ownBlock = some q → w.heap.size + 1 ≤ q := fun q hq => (ab7.out.o2.lt q hq).1
          have va9 := ab7.out.var.grown hgrow (fun e => own_ne ab7.out.o2 ab7.out.var (by decide) e.symm)
          have re9 := ab7.out.res.grown hgrow (fun e => by have := bl _ e.symm; omega)
          have q3 := ab7.out.o3.keep hgrow (fun k hk e => by have := (D2.out k e.symm).1; exact this hk)
          have q4 := ab7.out.o4.keep hgrow (fun k hk e => by have := (D2.out k e.symm).2.1; exact this hk)
          have q5 := ab7.out.o5.keep hgrow (fun k hk e => by have := (D2.out k e.symm).2.2; exact this hk)
          have CU8 := Lib.hid (cu7.out.keep (B := P + 1) hgrow (by omega) (fun q hq => by have := bl q hq; omega))
          have GR8 := Lib.hid (grownBy_own2 gr7.out hgrow (fun q hq => by have := bl q hq; omega))
          have AB9 : Hid (AnyB (w9.setCell ⟨w1.heap.size, 2, none⟩ (.slice (some ⟨g, 0, none⟩) (n2 + 1) cap)) P w.heap.size w1.heap.size st it (.slice (some ⟨g, 0, none⟩) (n2 + 1) cap) (.slice b3 n3 d3) (.slice b4 n4 d4) (.slice b5 n5 d5) (n2 + 1) (n3) (n4) (n5) (ins ++ [r4]) (outs) (hids) (steps)) := anyB_store ab7.out.hP ab7.out.hRA va9 re9 (by unfold Owns; rw [List.map_append]; exact hown) q3 q4 q5 rfl
          have CU9 := Lib.hid (CU8.out.keep (B := P + 1) (grownBy_set w9 w1.heap.size 2 (.slice (some ⟨g, 0, none⟩) (n2 + 1) cap)) (by omega) (fun q hq => by have h1 := Option.some.inj hq; omega))
          have GR9 := Lib.hid (grown_past GR8.out (grownBy_set w9 w1.heap.size 2 (.slice (some ⟨g, 0, none⟩) (n2 + 1) cap)) (by omega))
          have m9 := va9.cell (j := 2) rfl
          have f9 := va9.frozen 2
          clear hown hgrow hlies hlt
          refine take_op 6 39 (.pointer (some ⟨w1.heap.size, 2, none⟩)) (fuel := 1) rfl rfl (by kernel_rfl) (by kernel_rfl) (by kernel_rfl) (fun _ _ _ h => h) (by rfl) (fun w hSw => by go_simp) hHeld ?_
          simp only [Act.put]
          refine wpAnyH_ready (rs := [7]) (fuel := 0) (by kernel_rfl) (by simp) ?_
          refine AllReadyH.cons rfl (fun K hK => ?_) AllReadyH.nil
          go_simp
          refine hK.out _ _ trivial (fun hHeld => ?_)
          clear hK K
          refine wpAnyH_done (by kernel_rfl) ?_ _
          clear m9 f9 va9 re9 hHeld CU8 GR8
          have lE2 := AB9.out.o2.length
          have lE3 := AB9.out.o3.length
          have lE4 := AB9.out.o4.length
          have lE5 := AB9.out.o5.length
          obtain ⟨C, hC⟩ : ∃ C : Array Value, C = #[.int .i64 st, .int .i64 it, .slice (some ⟨g, 0, none⟩) (n2 + 1) cap, .slice b3 n3 d3, .slice b4 n4 d4, .slice b5 n5 d5] := ⟨_, rfl⟩
          have HC := Lib.hid hC
          have VC : Hid (VarIs (w9.setCell ⟨w1.heap.size, 2, none⟩ (.slice (some ⟨g, 0, none⟩) (n2 + 1) cap)) w1.heap.size C 30) := by rw [hC]; exact AB9.out.var
          have hCl : C.toList.length = 6 := by rw [hC]; rfl
          have HCL := Lib.hid hCl
          have RG := Lib.hid VC.out.range
          have TH : Hid ((w9.setCell ⟨w1.heap.size, 2, none⟩ (.slice (some ⟨g, 0, none⟩) (n2 + 1) cap)).there w.heap.size 0 C.toList.toArray.size) := AB9.out.res.there (by rw [List.size_toArray, hCl]; rfl)
          have ON : Hid (C.toList.toArray.all (·.oneCell') = true) := by rw [hC]; exact six_one _ _ _ _ _ _ _ _ _ _ _ _ _ _
          clear hC hCl VC
          go_wp2_with (first | refine wpList_load_mid rfl _ _ rfl w1.heap.size 0 rfl C.toList _ RG.out Try.underlying30 rfl (by rw [HCL.out]; kernel_rfl) ?_ | refine wpList_store_mid rfl _ _ _ rfl w.heap.size 0 C.toList.toArray rfl rfl TH.out (by rw [List.size_toArray, HCL.out]; kernel_rfl) ON.out ?_)
          have RG2 : Hid (((w9.setCell ⟨w1.heap.size, 2, none⟩ (.slice (some ⟨g, 0, none⟩) (n2 + 1) cap)).setCells w.heap.size 0 C.toList).rangeAt w.heap.size 0 C.toList) := World.rangeAt_setCells_same (w9.setCell ⟨w1.heap.size, 2, none⟩ (.slice (some ⟨g, 0, none⟩) (n2 + 1) cap)) w.heap.size 0 C.toList (by simpa using TH.out)
          have HGS := Lib.hid (grown_setCells w.heap.size C.toList 0 (w9.setCell ⟨w1.heap.size, 2, none⟩ (.slice (some ⟨g, 0, none⟩) (n2 + 1) cap)))
          refine bodyPost_ret (v := .agg C) ?_ rfl ⟨⟨st, it, ins ++ [r4], outs, hids, steps⟩, .agg C, rfl, by have h9 := AB9.out.ret HGS.out; rw [← HC.out] at h9; exact h9, ⟨by simp only; omega, by simp only; omega, by simp only; omega, by simp only; omega⟩, (CU9.out.keep (B := P + 1) HGS.out (by omega) (fun q hq => by have h1 := Option.some.inj hq; omega)).mono (by omega), grown_past GR9.out HGS.out (Nat.le_refl _)⟩
          have hCx := HC.out
          subst hCx
          have HF := RG2.out
          have HC0 := HF 0 _ rfl
          have HC1 := HF 1 _ rfl
          have HC2' := HF 2 _ rfl
          have HC3 := HF 3 _ rfl
          have HC4 := HF 4 _ rfl
          have HC5 := HF 5 _ rfl
          simp only [Nat.zero_add] at HC0 HC1 HC2' HC3 HC4 HC5
          clear HF RG2 HGS HC
          simp [results, Try.results46, go_sem, HC0, HC1, HC2', HC3, HC4, HC5]
        · have e2 : (r == 2) = false := by simpa using h2
          by_cases h3 : r = 3
          · subst h3
            have AB4 : Hid (AnyB w3.drew P w.heap.size w1.heap.size st it (.slice b2 n2 d2) (.slice b3 n3 d3) (.slice b4 n4 d4) (.slice b5 n5 d5) (n2) (n3) (n4) (n5) (ins) (outs) (hids) (steps)) := AB3.out.below (Below.refl _ _).drew
            have CU4 : Hid (Cur w3.drew P (t + 322 + 0)) := CU3.out.below (Below.refl _ _).drew
            have GR4 : Hid (w.grownBy w3.drew (some P)) := grownBy_trans GR3.out (grownBy_drewN w3 1 _)
            go_wp2_with fail
            refine wp_region_held_drew (S := fun _ => True) (by kernel_rfl) trivial (fun hHeld => ?_)
            change wpAnyH _ _ _ _ _ 13 (Array.replicate 13 false) _ _
            refine take_op 0 42 (.pointer (some ⟨w1.heap.size, 5, none⟩)) (fuel := 12) rfl rfl (by kernel_rfl) (by kernel_rfl) (by kernel_rfl) (fun _ _ _ h => h) (by rfl) (fun w hSw => by go_simp) hHeld ?_
            simp only [Act.put, List.setIfInBounds_toArray, List.set_cons_zero, List.set_cons_succ]
            refine take_op 2 44 (.pointer (some ⟨P, 0, none⟩)) (fuel := 11) rfl rfl (by kernel_rfl) (by kernel_rfl) (by kernel_rfl) (fun _ _ _ h => h) (by rfl) (fun w hSw => by go_simp) hHeld ?_
            simp only [Act.put, List.setIfInBounds_toArray, List.set_cons_zero, List.set_cons_succ]
            refine take_op 4 46 (.pointer (some ⟨P, 0, none⟩)) (fuel := 10) rfl rfl (by kernel_rfl) (by kernel_rfl) (by kernel_rfl) (fun _ _ _ h => h) (by rfl) (fun w hSw => by go_simp) hHeld ?_
            simp only [Act.put, List.setIfInBounds_toArray, List.set_cons_zero, List.set_cons_succ]
            refine take_op 6 48 (.pointer (some ⟨P, 0, none⟩)) (fuel := 9) rfl rfl (by kernel_rfl) (by kernel_rfl) (by kernel_rfl) (fun _ _ _ h => h) (by rfl) (fun w hSw => by go_simp) hHeld ?_
            simp only [Act.put, List.setIfInBounds_toArray, List.set_cons_zero, List.set_cons_succ]
            refine wpAnyH_ready (rs := [1, 3]) (fuel := 8) (by kernel_rfl) (by simp) ?_
            refine AllReadyH.cons rfl (fun K hK => ?_) ?_
            · have m9 := AB4.out.var.cell (j := 5) rfl
              go_simp
              refine hK.out _ _ trivial (fun hHeld => ?_)
              clear hK K m9
              try simp only [Act.put, List.setIfInBounds_toArray, List.set_cons_zero, List.set_cons_succ]
              refine wpAnyH_ready (rs := [3]) (fuel := 7) (by kernel_rfl) (by simp) ?_
              refine AllReadyH.cons rfl (fun K hK => ?_) AllReadyH.nil
              go_simp
              refine (pick_any P (t + 322 + 0) 3 _ CU4.out (by omega) (by omega) (by omega)).mono ?_
              rintro e wp10 ⟨r10, rfl, _, _, hcur, hg⟩
              have ab10 := Lib.hid (AB4.out.pick hg)
              have cu10 := Lib.hid hcur
              have gr10 := Lib.hid (grownBy_trans GR4.out hg)
              clear hcur hg
              go_wp2_with fail
              refine hK.out _ _ trivial (fun hHeld => ?_)
              clear hK K
              refine wpAnyH_ready (rs := [5]) (fuel := 6) (by kernel_rfl) (by simp) ?_
              refine AllReadyH.cons rfl (fun K hK => ?_) AllReadyH.nil
              go_simp
              refine (pick_any P (t + 322 + 1) 6 _ cu10.out (by omega) (by omega) (by omega)).mono ?_
              rintro e wp11 ⟨r11, rfl, _, _, hcur, hg⟩
              have ab11 := Lib.hid (ab10.out.pick hg)
              have cu11 := Lib.hid hcur
              have gr11 := Lib.hid (grownBy_trans gr10.out hg)
              clear hcur hg
              go_wp2_with fail
              refine hK.out _ _ trivial (fun hHeld => ?_)
              clear hK K
              refine wpAnyH_ready (rs := [7]) (fuel := 5) (by kernel_rfl) (by simp) ?_
              refine AllReadyH.cons rfl (fun K hK => ?_) AllReadyH.nil
              go_simp
              refine (raw_any P (t + 322 + 2) _ cu11.out (by omega)).mono ?_
              rintro e wp12 ⟨r12, rfl, _, hcur, hg⟩
              have ab12 := Lib.hid (ab11.out.pick hg)
              have cu12 := Lib.hid hcur
              have gr12 := Lib.hid (grownBy_trans gr11.out hg)
              clear hcur hg
              go_wp2_with fail
              refine hK.out _ _ trivial (fun hHeld => ?_)
              clear hK K
              refine take_op 8 50 (.agg #[.int .i64 r10, .int .i64 r11, .int .i64 r12]) (fuel := 4) rfl rfl (by kernel_rfl) (by kernel_rfl) (by kernel_rfl) (fun _ _ _ h => h) (by rfl) (fun w hSw => by go_simp) hHeld ?_
              simp only [Act.put, List.setIfInBounds_toArray, List.set_cons_zero, List.set_cons_succ]
              refine wpAnyH_ready (rs := [9]) (fuel := 3) (by kernel_rfl) (by simp) ?_
              refine AllReadyH.cons rfl (fun K hK => ?_) AllReadyH.nil
              have ab13 : Hid (AnyB (wp12.alloc (.cells #[.int .i64 r10, .int .i64 r11, .int .i64 r12] 70)) P w.heap.size w1.heap.size st it (.slice b2 n2 d2) (.slice b3 n3 d3) (.slice b4 n4 d4) (.slice b5 n5 d5) (n2) (n3) (n4) (n5) (ins) (outs) (hids) (steps)) := ab12.out.below ((Below.refl _ wp12).alloc (Nat.le_refl _) (.cells #[.int .i64 r10, .int .i64 r11, .int .i64 r12] 70))
              have cu13 := Lib.hid (cu12.out.below ((Below.refl _ wp12).alloc (Nat.le_refl _) (.cells #[.int .i64 r10, .int .i64 r11, .int .i64 r12] 70)))
              have gr13 := Lib.hid (grownBy_trans gr12.out (grown_of_below ((Below.refl _ wp12).alloc (Nat.le_refl _) (.cells #[.int .i64 r10, .int .i64 r11, .int .i64 r12] 70)) _))
              have HB9 : Hid (w.heap.size + 1 ≤ (wp12.alloc (.cells #[.int .i64 r10, .int .i64 r11, .int .i64 r12] 70)).heap.size) := by have h1 := ab12.out.var.lt; have h2 := ab12.out.hRA; simp [Hid]; omega
              have SN : Hid (∀ j u, (flat [(r10, r11, r12)])[j]? = some u → (wp12.alloc (.cells #[.int .i64 r10, .int .i64 r11, .int .i64 r12] 70)).cell? ((⟨wp12.heap.size, 0, none⟩ : Addr).add j) = some u) := fun j u hu => by
                have hv : VarIs (wp12.alloc (.cells #[.int .i64 r10, .int .i64 r11, .int .i64 r12] 70)) wp12.heap.size #[.int .i64 r10, .int .i64 r11, .int .i64 r12] 70 := VarIs.new wp12 #[.int .i64 r10, .int .i64 r11, .int .i64 r12] 70 rfl
                rw [add_lit, Nat.zero_add]
                exact hv.cell (by simpa [flat, stCells] using hu)
              go_simp
              refine hK.out _ _ trivial (fun hHeld => ?_)
              clear hK K
              try simp only [Act.put, List.setIfInBounds_toArray, List.set_cons_zero, List.set_cons_succ]
              refine wpAnyH_ready (rs := [10]) (fuel := 2) (by kernel_rfl) (by simp) ?_
              refine AllReadyH.cons rfl (fun K hK => ?_) AllReadyH.nil
              refine step_append_lies _ rfl (.tmp 43) (.tmp 51) 28 rfl (w.heap.size + 1) 70 i1 (.agg #[.int .i64 0, .int .i64 0, .int .i64 0]) 3 24 Try.underlying28 hi1 hy0 hy1 hy2 rfl (by decide) (.slice b5 n5 d5) n5 (flat steps) rfl ab13.out.o5 ⟨wp12.heap.size, 0, none⟩ 1 1 (flat [(r10, r11, r12)]) rfl rfl SN.out (flat_one _) (by decide) (by unfold maxLen; omega) (by omega) HB9.out _ rfl ?_
              intro g cap w9 hown hgrow hlies hlt
              refine hK.out _ _ trivial (fun hHeld => ?_)
              clear hK K
              simp only [Act.put, List.setIfInBounds_toArray]
              have bl : ∀ q, (.slice b5 n5 d5 : Value).ownBlock = some q → w.heap.size + 1 ≤ q := fun q hq => (ab13.out.o5.lt q hq).1
              have va9 := ab13.out.var.grown hgrow (fun e => own_ne ab13.out.o5 ab13.out.var (by decide) e.symm)
              have re9 := ab13.out.res.grown hgrow (fun e => by have := bl _ e.symm; omega)
              have q2 := ab13.out.o2.keep hgrow (fun k hk e => (D2.out k hk).2.2 e.symm)
              have q3 := ab13.out.o3.keep hgrow (fun k hk e => (D3.out k hk).2 e.symm)
              have q4 := ab13.out.o4.keep hgrow (fun k hk e => D4.out k hk e.symm)
              have CU8 := Lib.hid (cu13.out.keep (B := P + 1) hgrow (by omega) (fun q hq => by have := bl q hq; omega))
              have GR8 := Lib.hid (grownBy_own2 gr13.out hgrow (fun q hq => by have := bl q hq; omega))
              have AB9 : Hid (AnyB (w9.setCell ⟨w1.heap.size, 5, none⟩ (.slice (some ⟨g, 0, none⟩) (n5 + 1) cap)) P w.heap.size w1.heap.size st it (.slice b2 n2 d2) (.slice b3 n3 d3) (.slice b4 n4 d4) (.slice (some ⟨g, 0, none⟩) (n5 + 1) cap) (n2) (n3) (n4) (n5 + 1) (ins) (outs) (hids) (steps ++ [(r10, r11, r12)])) := anyB_store ab13.out.hP ab13.out.hRA va9 re9 q2 q3 q4 (by unfold OwnsS; rw [flat_append]; exact hown) rfl
              have CU9 := Lib.hid (CU8.out.keep (B := P + 1) (grownBy_set w9 w1.heap.size 5 (.slice (some ⟨g, 0, none⟩) (n5 + 1) cap)) (by omega) (fun q hq => by have h1 := Option.some.inj hq; omega))
              have GR9 := Lib.hid (grown_past GR8.out (grownBy_set w9 w1.heap.size 5 (.slice (some ⟨g, 0, none⟩) (n5 + 1) cap)) (by omega))
              have m9 := va9.cell (j := 5) rfl
              have f9 := va9.frozen 5
              clear hown hgrow hlies hlt
              refine take_op 11 53 (.pointer (some ⟨w1.heap.size, 5, none⟩)) (fuel := 1) rfl rfl (by kernel_rfl) (by kernel_rfl) (by kernel_rfl) (fun _ _ _ h => h) (by rfl) (fun w hSw => by go_simp) hHeld ?_
              simp only [Act.put]
              refine wpAnyH_ready (rs := [12]) (fuel := 0) (by kernel_rfl) (by simp) ?_
              refine AllReadyH.cons rfl (fun K hK => ?_) AllReadyH.nil
              go_simp
              refine hK.out _ _ trivial (fun hHeld => ?_)
              clear hK K
              refine wpAnyH_done (by kernel_rfl) ?_ _
              clear m9 f9 va9 re9 hHeld CU8 GR8
              have lE2 := AB9.out.o2.length
              have lE3 := AB9.out.o3.length
              have lE4 := AB9.out.o4.length
              have lE5 := AB9.out.o5.length
              obtain ⟨C, hC⟩ : ∃ C : Array Value, C = #[.int .i64 st, .int .i64 it, .slice b2 n2 d2, .slice b3 n3 d3, .slice b4 n4 d4, .slice (some ⟨g, 0, none⟩) (n5 + 1) cap] := ⟨_, rfl⟩
              have HC := Lib.hid hC
              have VC : Hid (VarIs (w9.setCell ⟨w1.heap.size, 5, none⟩ (.slice (some ⟨g, 0, none⟩) (n5 + 1) cap)) w1.heap.size C 30) := by rw [hC]; exact AB9.out.var
              have hCl : C.toList.length = 6 := by rw [hC]; rfl
              have HCL := Lib.hid hCl
              have RG := Lib.hid VC.out.range
              have TH : Hid ((w9.setCell ⟨w1.heap.size, 5, none⟩ (.slice (some ⟨g, 0, none⟩) (n5 + 1) cap)).there w.heap.size 0 C.toList.toArray.size) := AB9.out.res.there (by rw [List.size_toArray, hCl]; rfl)
              have ON : Hid (C.toList.toArray.all (·.oneCell') = true) := by rw [hC]; exact six_one _ _ _ _ _ _ _ _ _ _ _ _ _ _
              clear hC hCl VC
              go_wp2_with (first | refine wpList_load_mid rfl _ _ rfl w1.heap.size 0 rfl C.toList _ RG.out Try.underlying30 rfl (by rw [HCL.out]; kernel_rfl) ?_ | refine wpList_store_mid rfl _ _ _ rfl w.heap.size 0 C.toList.toArray rfl rfl TH.out (by rw [List.size_toArray, HCL.out]; kernel_rfl) ON.out ?_)
              have RG2 : Hid (((w9.setCell ⟨w1.heap.size, 5, none⟩ (.slice (some ⟨g, 0, none⟩) (n5 + 1) cap)).setCells w.heap.size 0 C.toList).rangeAt w.heap.size 0 C.toList) := World.rangeAt_setCells_same (w9.setCell ⟨w1.heap.size, 5, none⟩ (.slice (some ⟨g, 0, none⟩) (n5 + 1) cap)) w.heap.size 0 C.toList (by simpa using TH.out)
              have HGS := Lib.hid (grown_setCells w.heap.size C.toList 0 (w9.setCell ⟨w1.heap.size, 5, none⟩ (.slice (some ⟨g, 0, none⟩) (n5 + 1) cap)))
              refine bodyPost_ret (v := .agg C) ?_ rfl ⟨⟨st, it, ins, outs, hids, steps ++ [(r10, r11, r12)]⟩, .agg C, rfl, by have h9 := AB9.out.ret HGS.out; rw [← HC.out] at h9; exact h9, ⟨by simp only; omega, by simp only; omega, by simp only; omega, by simp only; omega⟩, (CU9.out.keep (B := P + 1) HGS.out (by omega) (fun q hq => by have h1 := Option.some.inj hq; omega)).mono (by omega), grown_past GR9.out HGS.out (Nat.le_refl _)⟩
              have hCx := HC.out
              subst hCx
              have HF := RG2.out
              have HC0 := HF 0 _ rfl
              have HC1 := HF 1 _ rfl
              have HC2' := HF 2 _ rfl
              have HC3 := HF 3 _ rfl
              have HC4 := HF 4 _ rfl
              have HC5 := HF 5 _ rfl
              simp only [Nat.zero_add] at HC0 HC1 HC2' HC3 HC4 HC5
              clear HF RG2 HGS HC
              simp [results, Try.results46, go_sem, HC0, HC1, HC2', HC3, HC4, HC5]
            refine AllReadyH.cons rfl (fun K hK => ?_) AllReadyH.nil
            go_simp
            refine (pick_any P (t + 322 + 0) 3 _ CU4.out (by omega) (by omega) (by omega)).mono ?_
            rintro e wp14 ⟨r14, rfl, _, _, hcur, hg⟩
            have ab14 := Lib.hid (AB4.out.pick hg)
            have cu14 := Lib.hid hcur
            have gr14 := Lib.hid (grownBy_trans GR4.out hg)
            clear hcur hg
            go_wp2_with fail
            refine hK.out _ _ trivial (fun hHeld => ?_)
            clear hK K
            refine wpAnyH_ready (rs := [1, 5]) (fuel := 7) (by kernel_rfl) (by simp) ?_
            refine AllReadyH.cons rfl (fun K hK => ?_) ?_
            · have m15 := ab14.out.var.cell (j := 5) rfl
              go_simp
              refine hK.out _ _ trivial (fun hHeld => ?_)
              clear hK K m15
              try simp only [Act.put, List.setIfInBounds_toArray, List.set_cons_zero, List.set_cons_succ]
              refine wpAnyH_ready (rs := [5]) (fuel := 6) (by kernel_rfl) (by simp) ?_
              refine AllReadyH.cons rfl (fun K hK => ?_) AllReadyH.nil
              go_simp
              refine (pick_any P (t + 322 + 1) 6 _ cu14.out (by omega) (by omega) (by omega)).mono ?_
              rintro e wp16 ⟨r16, rfl, _, _, hcur, hg⟩
              have ab16 := Lib.hid (ab14.out.pick hg)
              have cu16 := Lib.hid hcur
              have gr16 := Lib.hid (grownBy_trans gr14.out hg)
              clear hcur hg
              go_wp2_with fail
              refine hK.out _ _ trivial (fun hHeld => ?_)
              clear hK K
              refine wpAnyH_ready (rs := [7]) (fuel := 5) (by kernel_rfl) (by simp) ?_
              refine AllReadyH.cons rfl (fun K hK => ?_) AllReadyH.nil
              go_simp
              refine (raw_any P (t + 322 + 2) _ cu16.out (by omega)).mono ?_
              rintro e wp17 ⟨r17, rfl, _, hcur, hg⟩
              have ab17 := Lib.hid (ab16.out.pick hg)
              have cu17 := Lib.hid hcur
              have gr17 := Lib.hid (grownBy_trans gr16.out hg)
              clear hcur hg
              go_wp2_with fail
              refine hK.out _ _ trivial (fun hHeld => ?_)
              clear hK K
              refine take_op 8 50 (.agg #[.int .i64 r14, .int .i64 r16, .int .i64 r17]) (fuel := 4) rfl rfl (by kernel_rfl) (by kernel_rfl) (by kernel_rfl) (fun _ _ _ h => h) (by rfl) (fun w hSw => by go_simp) hHeld ?_
              simp only [Act.put, List.setIfInBounds_toArray, List.set_cons_zero, List.set_cons_succ]
              refine wpAnyH_ready (rs := [9]) (fuel := 3) (by kernel_rfl) (by simp) ?_
              refine AllReadyH.cons rfl (fun K hK => ?_) AllReadyH.nil
              have ab18 : Hid (AnyB (wp17.alloc (.cells #[.int .i64 r14, .int .i64 r16, .int .i64 r17] 70)) P w.heap.size w1.heap.size st it (.slice b2 n2 d2) (.slice b3 n3 d3) (.slice b4 n4 d4) (.slice b5 n5 d5) (n2) (n3) (n4) (n5) (ins) (outs) (hids) (steps)) := ab17.out.below ((Below.refl _ wp17).alloc (Nat.le_refl _) (.cells #[.int .i64 r14, .int .i64 r16, .int .i64 r17] 70))
              have cu18 := Lib.hid (cu17.out.below ((Below.refl _ wp17).alloc (Nat.le_refl _) (.cells #[.int .i64 r14, .int .i64 r16, .int .i64 r17] 70)))
              have gr18 := Lib.hid (grownBy_trans gr17.out (grown_of_below ((Below.refl _ wp17).alloc (Nat.le_refl _) (.cells #[.int .i64 r14, .int .i64 r16, .int .i64 r17] 70)) _))
              have HB9 : Hid (w.heap.size + 1 ≤ (wp17.alloc (.cells #[.int .i64 r14, .int .i64 r16, .int .i64 r17] 70)).heap.size) := by have h1 := ab17.out.var.lt; have h2 := ab17.out.hRA; simp [Hid]; omega
              have SN : Hid (∀ j u, (flat [(r14, r16, r17)])[j]? = some u → (wp17.alloc (.cells #[.int .i64 r14, .int .i64 r16, .int .i64 r17] 70)).cell? ((⟨wp17.heap.size, 0, none⟩ : Addr).add j) = some u) := fun j u hu => by
                have hv : VarIs (wp17.alloc (.cells #[.int .i64 r14, .int .i64 r16, .int .i64 r17] 70)) wp17.heap.size #[.int .i64 r14, .int .i64 r16, .int .i64 r17] 70 := VarIs.new wp17 #[.int .i64 r14, .int .i64 r16, .int .i64 r17] 70 rfl
                rw [add_lit, Nat.zero_add]
                exact hv.cell (by simpa [flat, stCells] using hu)
              go_simp
              refine hK.out _ _ trivial (fun hHeld => ?_)
              clear hK K
              try simp only [Act.put, List.setIfInBounds_toArray, List.set_cons_zero, List.set_cons_succ]
              refine wpAnyH_ready (rs := [10]) (fuel := 2) (by kernel_rfl) (by simp) ?_
              refine AllReadyH.cons rfl (fun K hK => ?_) AllReadyH.nil
              refine step_append_lies _ rfl (.tmp 43) (.tmp 51) 28 rfl (w.heap.size + 1) 70 i1 (.agg #[.int .i64 0, .int .i64 0, .int .i64 0]) 3 24 Try.underlying28 hi1 hy0 hy1 hy2 rfl (by decide) (.slice b5 n5 d5) n5 (flat steps) rfl ab18.out.o5 ⟨wp17.heap.size, 0, none⟩ 1 1 (flat [(r14, r16, r17)]) rfl rfl SN.out (flat_one _) (by decide) (by unfold maxLen; omega) (by omega) HB9.out _ rfl ?_
              intro g cap w9 hown hgrow hlies hlt
              refine hK.out _ _ trivial (fun hHeld => ?_)
              clear hK K
              simp only [Act.put, List.setIfInBounds_toArray]
              have bl : ∀ q, (.slice b5 n5 d5 : Value).ownBlock = some q → w.heap.size + 1 ≤ q := fun q hq => (ab18.out.o5.lt q hq).1
              have va9 := ab18.out.var.grown hgrow (fun e => own_ne ab18.out.o5 ab18.out.var (by decide) e.symm)
              have re9 := ab18.out.res.grown hgrow (fun e => by have := bl _ e.symm; omega)
              have q2 := ab18.out.o2.keep hgrow (fun k hk e => (D2.out k hk).2.2 e.symm)
              have q3 := ab18.out.o3.keep hgrow (fun k hk e => (D3.out k hk).2 e.symm)
              have q4 := ab18.out.o4.keep hgrow (fun k hk e => D4.out k hk e.symm)
              have CU8 := Lib.hid (cu18.out.keep (B := P + 1) hgrow (by omega) (fun q hq => by have := bl q hq; omega))
              have GR8 := Lib.hid (grownBy_own2 gr18.out hgrow (fun q hq => by have := bl q hq; omega))
              have AB9 : Hid (AnyB (w9.setCell ⟨w1.heap.size, 5, none⟩ (.slice (some ⟨g, 0, none⟩) (n5 + 1) cap)) P w.heap.size w1.heap.size st it (.slice b2 n2 d2) (.slice b3 n3 d3) (.slice b4 n4 d4) (.slice (some ⟨g, 0, none⟩) (n5 + 1) cap) (n2) (n3) (n4) (n5 + 1) (ins) (outs) (hids) (steps ++ [(r14, r16, r17)])) := anyB_store ab18.out.hP ab18.out.hRA va9 re9 q2 q3 q4 (by unfold OwnsS; rw [flat_append]; exact hown) rfl
              have CU9 := Lib.hid (CU8.out.keep (B := P + 1) (grownBy_set w9 w1.heap.size 5 (.slice (some ⟨g, 0, none⟩) (n5 + 1) cap)) (by omega) (fun q hq => by have h1 := Option.some.inj hq; omega))
              have GR9 := Lib.hid (grown_past GR8.out (grownBy_set w9 w1.heap.size 5 (.slice (some ⟨g, 0, none⟩) (n5 + 1) cap)) (by omega))
              have m9 := va9.cell (j := 5) rfl
              have f9 := va9.frozen 5
              clear hown hgrow hlies hlt
              refine take_op 11 53 (.pointer (some ⟨w1.heap.size, 5, none⟩)) (fuel := 1) rfl rfl (by kernel_rfl) (by kernel_rfl) (by kernel_rfl) (fun _ _ _ h => h) (by rfl) (fun w hSw => by go_simp) hHeld ?_
              simp only [Act.put]
              refine wpAnyH_ready (rs := [12]) (fuel := 0) (by kernel_rfl) (by simp) ?_
              refine AllReadyH.cons rfl (fun K hK => ?_) AllReadyH.nil
              go_simp
              refine hK.out _ _ trivial (fun hHeld => ?_)
              clear hK K
              refine wpAnyH_done (by kernel_rfl) ?_ _
              clear m9 f9 va9 re9 hHeld CU8 GR8
              have lE2 := AB9.out.o2.length
              have lE3 := AB9.out.o3.length
              have lE4 := AB9.out.o4.length
              have lE5 := AB9.out.o5.length
              obtain ⟨C, hC⟩ : ∃ C : Array Value, C = #[.int .i64 st, .int .i64 it, .slice b2 n2 d2, .slice b3 n3 d3, .slice b4 n4 d4, .slice (some ⟨g, 0, none⟩) (n5 + 1) cap] := ⟨_, rfl⟩
              have HC := Lib.hid hC
              have VC : Hid (VarIs (w9.setCell ⟨w1.heap.size, 5, none⟩ (.slice (some ⟨g, 0, none⟩) (n5 + 1) cap)) w1.heap.size C 30) := by rw [hC]; exact AB9.out.var
              have hCl : C.toList.length = 6 := by rw [hC]; rfl
              have HCL := Lib.hid hCl
              have RG := Lib.hid VC.out.range
              have TH : Hid ((w9.setCell ⟨w1.heap.size, 5, none⟩ (.slice (some ⟨g, 0, none⟩) (n5 + 1) cap)).there w.heap.size 0 C.toList.toArray.size) := AB9.out.res.there (by rw [List.size_toArray, hCl]; rfl)
              have ON : Hid (C.toList.toArray.all (·.oneCell') = true) := by rw [hC]; exact six_one _ _ _ _ _ _ _ _ _ _ _ _ _ _
              clear hC hCl VC
              go_wp2_with (first | refine wpList_load_mid rfl _ _ rfl w1.heap.size 0 rfl C.toList _ RG.out Try.underlying30 rfl (by rw [HCL.out]; kernel_rfl) ?_ | refine wpList_store_mid rfl _ _ _ rfl w.heap.size 0 C.toList.toArray rfl rfl TH.out (by rw [List.size_toArray, HCL.out]; kernel_rfl) ON.out ?_)
              have RG2 : Hid (((w9.setCell ⟨w1.heap.size, 5, none⟩ (.slice (some ⟨g, 0, none⟩) (n5 + 1) cap)).setCells w.heap.size 0 C.toList).rangeAt w.heap.size 0 C.toList) := World.rangeAt_setCells_same (w9.setCell ⟨w1.heap.size, 5, none⟩ (.slice (some ⟨g, 0, none⟩) (n5 + 1) cap)) w.heap.size 0 C.toList (by simpa using TH.out)
              have HGS := Lib.hid (grown_setCells w.heap.size C.toList 0 (w9.setCell ⟨w1.heap.size, 5, none⟩ (.slice (some ⟨g, 0, none⟩) (n5 + 1) cap)))
              refine bodyPost_ret (v := .agg C) ?_ rfl ⟨⟨st, it, ins, outs, hids, steps ++ [(r14, r16, r17)]⟩, .agg C, rfl, by have h9 := AB9.out.ret HGS.out; rw [← HC.out] at h9; exact h9, ⟨by simp only; omega, by simp only; omega, by simp only; omega, by simp only; omega⟩, (CU9.out.keep (B := P + 1) HGS.out (by omega) (fun q hq => by have h1 := Option.some.inj hq; omega)).mono (by omega), grown_past GR9.out HGS.out (Nat.le_refl _)⟩
              have hCx := HC.out
              subst hCx
              have HF := RG2.out
              have HC0 := HF 0 _ rfl
              have HC1 := HF 1 _ rfl
              have HC2' := HF 2 _ rfl
              have HC3 := HF 3 _ rfl
              have HC4 := HF 4 _ rfl
              have HC5 := HF 5 _ rfl
              simp only [Nat.zero_add] at HC0 HC1 HC2' HC3 HC4 HC5
              clear HF RG2 HGS HC
              simp [results, Try.results46, go_sem, HC0, HC1, HC2', HC3, HC4, HC5]
            refine AllReadyH.cons rfl (fun K hK => ?_) AllReadyH.nil
            go_simp
            refine (pick_any P (t + 322 + 1) 6 _ cu14.out (by omega) (by omega) (by omega)).mono ?_
            rintro e wp19 ⟨r19, rfl, _, _, hcur, hg⟩
            have ab19 := Lib.hid (ab14.out.pick hg)
            have cu19 := Lib.hid hcur
            have gr19 := Lib.hid (grownBy_trans gr14.out hg)
            clear hcur hg
            go_wp2_with fail
            refine hK.out _ _ trivial (fun hHeld => ?_)
            clear hK K
            refine wpAnyH_ready (rs := [1, 7]) (fuel := 6) (by kernel_rfl) (by simp) ?_
            refine AllReadyH.cons rfl (fun K hK => ?_) ?_
            · have m20 := ab19.out.var.cell (j := 5) rfl
              go_simp
              refine hK.out _ _ trivial (fun hHeld => ?_)
              clear hK K m20
              try simp only [Act.put, List.setIfInBounds_toArray, List.set_cons_zero, List.set_cons_succ]
              refine wpAnyH_ready (rs := [7]) (fuel := 5) (by kernel_rfl) (by simp) ?_
              refine AllReadyH.cons rfl (fun K hK => ?_) AllReadyH.nil
              go_simp
              refine (raw_any P (t + 322 + 2) _ cu19.out (by omega)).mono ?_
              rintro e wp21 ⟨r21, rfl, _, hcur, hg⟩
              have ab21 := Lib.hid (ab19.out.pick hg)
              have cu21 := Lib.hid hcur
              have gr21 := Lib.hid (grownBy_trans gr19.out hg)
              clear hcur hg
              go_wp2_with fail
              refine hK.out _ _ trivial (fun hHeld => ?_)
              clear hK K
              refine take_op 8 50 (.agg #[.int .i64 r14, .int .i64 r19, .int .i64 r21]) (fuel := 4) rfl rfl (by kernel_rfl) (by kernel_rfl) (by kernel_rfl) (fun _ _ _ h => h) (by rfl) (fun w hSw => by go_simp) hHeld ?_
              simp only [Act.put, List.setIfInBounds_toArray, List.set_cons_zero, List.set_cons_succ]
              refine wpAnyH_ready (rs := [9]) (fuel := 3) (by kernel_rfl) (by simp) ?_
              refine AllReadyH.cons rfl (fun K hK => ?_) AllReadyH.nil
              have ab22 : Hid (AnyB (wp21.alloc (.cells #[.int .i64 r14, .int .i64 r19, .int .i64 r21] 70)) P w.heap.size w1.heap.size st it (.slice b2 n2 d2) (.slice b3 n3 d3) (.slice b4 n4 d4) (.slice b5 n5 d5) (n2) (n3) (n4) (n5) (ins) (outs) (hids) (steps)) := ab21.out.below ((Below.refl _ wp21).alloc (Nat.le_refl _) (.cells #[.int .i64 r14, .int .i64 r19, .int .i64 r21] 70))
              have cu22 := Lib.hid (cu21.out.below ((Below.refl _ wp21).alloc (Nat.le_refl _) (.cells #[.int .i64 r14, .int .i64 r19, .int .i64 r21] 70)))
              have gr22 := Lib.hid (grownBy_trans gr21.out (grown_of_below ((Below.refl _ wp21).alloc (Nat.le_refl _) (.cells #[.int .i64 r14, .int .i64 r19, .int .i64 r21] 70)) _))
              have HB9 : Hid (w.heap.size + 1 ≤ (wp21.alloc (.cells #[.int .i64 r14, .int .i64 r19, .int .i64 r21] 70)).heap.size) := by have h1 := ab21.out.var.lt; have h2 := ab21.out.hRA; simp [Hid]; omega
              have SN : Hid (∀ j u, (flat [(r14, r19, r21)])[j]? = some u → (wp21.alloc (.cells #[.int .i64 r14, .int .i64 r19, .int .i64 r21] 70)).cell? ((⟨wp21.heap.size, 0, none⟩ : Addr).add j) = some u) := fun j u hu => by
                have hv : VarIs (wp21.alloc (.cells #[.int .i64 r14, .int .i64 r19, .int .i64 r21] 70)) wp21.heap.size #[.int .i64 r14, .int .i64 r19, .int .i64 r21] 70 := VarIs.new wp21 #[.int .i64 r14, .int .i64 r19, .int .i64 r21] 70 rfl
                rw [add_lit, Nat.zero_add]
                exact hv.cell (by simpa [flat, stCells] using hu)
              go_simp
              refine hK.out _ _ trivial (fun hHeld => ?_)
              clear hK K
              try simp only [Act.put, List.setIfInBounds_toArray, List.set_cons_zero, List.set_cons_succ]
              refine wpAnyH_ready (rs := [10]) (fuel := 2) (by kernel_rfl) (by simp) ?_
              refine AllReadyH.cons rfl (fun K hK => ?_) AllReadyH.nil
              refine step_append_lies _ rfl (.tmp 43) (.tmp 51) 28 rfl (w.heap.size + 1) 70 i1 (.agg #[.int .i64 0, .int .i64 0, .int .i64 0]) 3 24 Try.underlying28 hi1 hy0 hy1 hy2 rfl (by decide) (.slice b5 n5 d5) n5 (flat steps) rfl ab22.out.o5 ⟨wp21.heap.size, 0, none⟩ 1 1 (flat [(r14, r19, r21)]) rfl rfl SN.out (flat_one _) (by decide) (by unfold maxLen; omega) (by omega) HB9.out _ rfl ?_
              intro g cap w9 hown hgrow hlies hlt
              refine hK.out _ _ trivial (fun hHeld => ?_)
              clear hK K
              simp only [Act.put, List.setIfInBounds_toArray]
              have bl : ∀ q, (.slice b5 n5 d5 : Value).ownBlock = some q → w.heap.size + 1 ≤ q := fun q hq => (ab22.out.o5.lt q hq).1
              have va9 := ab22.out.var.grown hgrow (fun e => own_ne ab22.out.o5 ab22.out.var (by decide) e.symm)
              have re9 := ab22.out.res.grown hgrow (fun e => by have := bl _ e.symm; omega)
              have q2 := ab22.out.o2.keep hgrow (fun k hk e => (D2.out k hk).2.2 e.symm)
              have q3 := ab22.out.o3.keep hgrow (fun k hk e => (D3.out k hk).2 e.symm)
              have q4 := ab22.out.o4.keep hgrow (fun k hk e => D4.out k hk e.symm)
              have CU8 := Lib.hid (cu22.out.keep (B := P + 1) hgrow (by omega) (fun q hq => by have := bl q hq; omega))
              have GR8 := Lib.hid (grownBy_own2 gr22.out hgrow (fun q hq => by have := bl q hq; omega))
              have AB9 : Hid (AnyB (w9.setCell ⟨w1.heap.size, 5, none⟩ (.slice (some ⟨g, 0, none⟩) (n5 + 1) cap)) P w.heap.size w1.heap.size st it (.slice b2 n2 d2) (.slice b3 n3 d3) (.slice b4 n4 d4) (.slice (some ⟨g, 0, none⟩) (n5 + 1) cap) (n2) (n3) (n4) (n5 + 1) (ins) (outs) (hids) (steps ++ [(r14, r19, r21)])) := anyB_store ab22.out.hP ab22.out.hRA va9 re9 q2 q3 q4 (by unfold OwnsS; rw [flat_append]; exact hown) rfl
              have CU9 := Lib.hid (CU8.out.keep (B := P + 1) (grownBy_set w9 w1.heap.size 5 (.slice (some ⟨g, 0, none⟩) (n5 + 1) cap)) (by omega) (fun q hq => by have h1 := Option.some.inj hq; omega))
              have GR9 := Lib.hid (grown_past GR8.out (grownBy_set w9 w1.heap.size 5 (.slice (some ⟨g, 0, none⟩) (n5 + 1) cap)) (by omega))
              have m9 := va9.cell (j := 5) rfl
              have f9 := va9.frozen 5
              clear hown hgrow hlies hlt
              refine take_op 11 53 (.pointer (some ⟨w1.heap.size, 5, none⟩)) (fuel := 1) rfl rfl (by kernel_rfl) (by kernel_rfl) (by kernel_rfl) (fun _ _ _ h => h) (by rfl) (fun w hSw => by go_simp) hHeld ?_
              simp only [Act.put]
              refine wpAnyH_ready (rs := [12]) (fuel := 0) (by kernel_rfl) (by simp) ?_
              refine AllReadyH.cons rfl (fun K hK => ?_) AllReadyH.nil
              go_simp
              refine hK.out _ _ trivial (fun hHeld => ?_)
              clear hK K
              refine wpAnyH_done (by kernel_rfl) ?_ _
              clear m9 f9 va9 re9 hHeld CU8 GR8
              have lE2 := AB9.out.o2.length
              have lE3 := AB9.out.o3.length
              have lE4 := AB9.out.o4.length
              have lE5 := AB9.out.o5.length
              obtain ⟨C, hC⟩ : ∃ C : Array Value, C = #[.int .i64 st, .int .i64 it, .slice b2 n2 d2, .slice b3 n3 d3, .slice b4 n4 d4, .slice (some ⟨g, 0, none⟩) (n5 + 1) cap] := ⟨_, rfl⟩
              have HC := Lib.hid hC
              have VC : Hid (VarIs (w9.setCell ⟨w1.heap.size, 5, none⟩ (.slice (some ⟨g, 0, none⟩) (n5 + 1) cap)) w1.heap.size C 30) := by rw [hC]; exact AB9.out.var
              have hCl : C.toList.length = 6 := by rw [hC]; rfl
              have HCL := Lib.hid hCl
              have RG := Lib.hid VC.out.range
              have TH : Hid ((w9.setCell ⟨w1.heap.size, 5, none⟩ (.slice (some ⟨g, 0, none⟩) (n5 + 1) cap)).there w.heap.size 0 C.toList.toArray.size) := AB9.out.res.there (by rw [List.size_toArray, hCl]; rfl)
              have ON : Hid (C.toList.toArray.all (·.oneCell') = true) := by rw [hC]; exact six_one _ _ _ _ _ _ _ _ _ _ _ _ _ _
              clear hC hCl VC
              go_wp2_with (first | refine wpList_load_mid rfl _ _ rfl w1.heap.size 0 rfl C.toList _ RG.out Try.underlying30 rfl (by rw [HCL.out]; kernel_rfl) ?_ | refine wpList_store_mid rfl _ _ _ rfl w.heap.size 0 C.toList.toArray rfl rfl TH.out (by rw [List.size_toArray, HCL.out]; kernel_rfl) ON.out ?_)
              have RG2 : Hid (((w9.setCell ⟨w1.heap.size, 5, none⟩ (.slice (some ⟨g, 0, none⟩) (n5 + 1) cap)).setCells w.heap.size 0 C.toList).rangeAt w.heap.size 0 C.toList) := World.rangeAt_setCells_same (w9.setCell ⟨w1.heap.size, 5, none⟩ (.slice (some ⟨g, 0, none⟩) (n5 + 1) cap)) w.heap.size 0 C.toList (by simpa using TH.out)
              have HGS := Lib.hid (grown_setCells w.heap.size C.toList 0 (w9.setCell ⟨w1.heap.size, 5, none⟩ (.slice (some ⟨g, 0, none⟩) (n5 + 1) cap)))
              refine bodyPost_ret (v := .agg C) ?_ rfl ⟨⟨st, it, ins, outs, hids, steps ++ [(r14, r19, r21)]⟩, .agg C, rfl, by have h9 := AB9.out.ret HGS.out; rw [← HC.out] at h9; exact h9, ⟨by simp only; omega, by simp only; omega, by simp only; omega, by simp only; omega⟩, (CU9.out.keep (B := P + 1) HGS.out (by omega) (fun q hq => by have h1 := Option.some.inj hq; omega)).mono (by omega), grown_past GR9.out HGS.out (Nat.le_refl _)⟩
              have hCx := HC.out
              subst hCx
              have HF := RG2.out
              have HC0 := HF 0 _ rfl
              have HC1 := HF 1 _ rfl
              have HC2' := HF 2 _ rfl
              have HC3 := HF 3 _ rfl
              have HC4 := HF 4 _ rfl
              have HC5 := HF 5 _ rfl
              simp only [Nat.zero_add] at HC0 HC1 HC2' HC3 HC4 HC5
              clear HF RG2 HGS HC
              simp [results, Try.results46, go_sem, HC0, HC1, HC2', HC3, HC4, HC5]
            refine AllReadyH.cons rfl (fun K hK => ?_) AllReadyH.nil
            go_simp
            refine (raw_any P (t + 322 + 2) _ cu19.out (by omega)).mono ?_
            rintro e wp23 ⟨r23, rfl, _, hcur, hg⟩
            have ab23 := Lib.hid (ab19.out.pick hg)
            have cu23 := Lib.hid hcur
            have gr23 := Lib.hid (grownBy_trans gr19.out hg)
            clear hcur hg
            go_wp2_with fail
            refine hK.out _ _ trivial (fun hHeld => ?_)
            clear hK K
            refine take_op 8 50 (.agg #[.int .i64 r14, .int .i64 r19, .int .i64 r23]) (fuel := 5) rfl rfl (by kernel_rfl) (by kernel_rfl) (by kernel_rfl) (fun _ _ _ h => h) (by rfl) (fun w hSw => by go_simp) hHeld ?_
            simp only [Act.put, List.setIfInBounds_toArray, List.set_cons_zero, List.set_cons_succ]
            refine wpAnyH_ready (rs := [1, 9]) (fuel := 4) (by kernel_rfl) (by simp) ?_
            refine AllReadyH.cons rfl (fun K hK => ?_) ?_
            · have m24 := ab23.out.var.cell (j := 5) rfl
              go_simp
              refine hK.out _ _ trivial (fun hHeld => ?_)
              clear hK K m24
              try simp only [Act.put, List.setIfInBounds_toArray, List.set_cons_zero, List.set_cons_succ]
              refine wpAnyH_ready (rs := [9]) (fuel := 3) (by kernel_rfl) (by simp) ?_
              refine AllReadyH.cons rfl (fun K hK => ?_) AllReadyH.nil
              have ab25 : Hid (AnyB (wp23.alloc (.cells #[.int .i64 r14, .int .i64 r19, .int .i64 r23] 70)) P w.heap.size w1.heap.size st it (.slice b2 n2 d2) (.slice b3 n3 d3) (.slice b4 n4 d4) (.slice b5 n5 d5) (n2) (n3) (n4) (n5) (ins) (outs) (hids) (steps)) := ab23.out.below ((Below.refl _ wp23).alloc (Nat.le_refl _) (.cells #[.int .i64 r14, .int .i64 r19, .int .i64 r23] 70))
              have cu25 := Lib.hid (cu23.out.below ((Below.refl _ wp23).alloc (Nat.le_refl _) (.cells #[.int .i64 r14, .int .i64 r19, .int .i64 r23] 70)))
              have gr25 := Lib.hid (grownBy_trans gr23.out (grown_of_below ((Below.refl _ wp23).alloc (Nat.le_refl _) (.cells #[.int .i64 r14, .int .i64 r19, .int .i64 r23] 70)) _))
              have HB9 : Hid (w.heap.size + 1 ≤ (wp23.alloc (.cells #[.int .i64 r14, .int .i64 r19, .int .i64 r23] 70)).heap.size) := by have h1 := ab23.out.var.lt; have h2 := ab23.out.hRA; simp [Hid]; omega
              have SN : Hid (∀ j u, (flat [(r14, r19, r23)])[j]? = some u → (wp23.alloc (.cells #[.int .i64 r14, .int .i64 r19, .int .i64 r23] 70)).cell? ((⟨wp23.heap.size, 0, none⟩ : Addr).add j) = some u) := fun j u hu => by
                have hv : VarIs (wp23.alloc (.cells #[.int .i64 r14, .int .i64 r19, .int .i64 r23] 70)) wp23.heap.size #[.int .i64 r14, .int .i64 r19, .int .i64 r23] 70 := VarIs.new wp23 #[.int .i64 r14, .int .i64 r19, .int .i64 r23] 70 rfl
                rw [add_lit, Nat.zero_add]
                exact hv.cell (by simpa [flat, stCells] using hu)
              go_simp
              refine hK.out _ _ trivial (fun hHeld => ?_)
              clear hK K
              try simp only [Act.put, List.setIfInBounds_toArray, List.set_cons_zero, List.set_cons_succ]
              refine wpAnyH_ready (rs := [10]) (fuel := 2) (by kernel_rfl) (by simp) ?_
              refine AllReadyH.cons rfl (fun K hK => ?_) AllReadyH.nil
              refine step_append_lies _ rfl (.tmp 43) (.tmp 51) 28 rfl (w.heap.size + 1) 70 i1 (.agg #[.int .i64 0, .int .i64 0, .int .i64 0]) 3 24 Try.underlying28 hi1 hy0 hy1 hy2 rfl (by decide) (.slice b5 n5 d5) n5 (flat steps) rfl ab25.out.o5 ⟨wp23.heap.size, 0, none⟩ 1 1 (flat [(r14, r19, r23)]) rfl rfl SN.out (flat_one _) (by decide) (by unfold maxLen; omega) (by omega) HB9.out _ rfl ?_
              intro g cap w9 hown hgrow hlies hlt
              refine hK.out _ _ trivial (fun hHeld => ?_)
              clear hK K
              simp only [Act.put, List.setIfInBounds_toArray]
              have bl : ∀ q, (.slice b5 n5 d5 : Value).ownBlock = some q → w.heap.size + 1 ≤ q := fun q hq => (ab25.out.o5.lt q hq).1
              have va9 := ab25.out.var.grown hgrow (fun e => own_ne ab25.out.o5 ab25.out.var (by decide) e.symm)
              have re9 := ab25.out.res.grown hgrow (fun e => by have := bl _ e.symm; omega)
              have q2 := ab25.out.o2.keep hgrow (fun k hk e => (D2.out k hk).2.2 e.symm)
              have q3 := ab25.out.o3.keep hgrow (fun k hk e => (D3.out k hk).2 e.symm)
              have q4 := ab25.out.o4.keep hgrow (fun k hk e => D4.out k hk e.symm)
              have CU8 := Lib.hid (cu25.out.keep (B := P + 1) hgrow (by omega) (fun q hq => by have := bl q hq; omega))
              have GR8 := Lib.hid (grownBy_own2 gr25.out hgrow (fun q hq => by have := bl q hq; omega))
              have AB9 : Hid (AnyB (w9.setCell ⟨w1.heap.size, 5, none⟩ (.slice (some ⟨g, 0, none⟩) (n5 + 1) cap)) P w.heap.size w1.heap.size st it (.slice b2 n2 d2) (.slice b3 n3 d3) (.slice b4 n4 d4) (.slice (some ⟨g, 0, none⟩) (n5 + 1) cap) (n2) (n3) (n4) (n5 + 1) (ins) (outs) (hids) (steps ++ [(r14, r19, r23)])) := anyB_store ab25.out.hP ab25.out.hRA va9 re9 q2 q3 q4 (by unfold OwnsS; rw [flat_append]; exact hown) rfl
              have CU9 := Lib.hid (CU8.out.keep (B := P + 1) (grownBy_set w9 w1.heap.size 5 (.slice (some ⟨g, 0, none⟩) (n5 + 1) cap)) (by omega) (fun q hq => by have h1 := Option.some.inj hq; omega))
              have GR9 := Lib.hid (grown_past GR8.out (grownBy_set w9 w1.heap.size 5 (.slice (some ⟨g, 0, none⟩) (n5 + 1) cap)) (by omega))
              have m9 := va9.cell (j := 5) rfl
              have f9 := va9.frozen 5
              clear hown hgrow hlies hlt
              refine take_op 11 53 (.pointer (some ⟨w1.heap.size, 5, none⟩)) (fuel := 1) rfl rfl (by kernel_rfl) (by kernel_rfl) (by kernel_rfl) (fun _ _ _ h => h) (by rfl) (fun w hSw => by go_simp) hHeld ?_
              simp only [Act.put]
              refine wpAnyH_ready (rs := [12]) (fuel := 0) (by kernel_rfl) (by simp) ?_
              refine AllReadyH.cons rfl (fun K hK => ?_) AllReadyH.nil
              go_simp
              refine hK.out _ _ trivial (fun hHeld => ?_)
              clear hK K
              refine wpAnyH_done (by kernel_rfl) ?_ _
              clear m9 f9 va9 re9 hHeld CU8 GR8
              have lE2 := AB9.out.o2.length
              have lE3 := AB9.out.o3.length
              have lE4 := AB9.out.o4.length
              have lE5 := AB9.out.o5.length
              obtain ⟨C, hC⟩ : ∃ C : Array Value, C = #[.int .i64 st, .int .i64 it, .slice b2 n2 d2, .slice b3 n3 d3, .slice b4 n4 d4, .slice (some ⟨g, 0, none⟩) (n5 + 1) cap] := ⟨_, rfl⟩
              have HC := Lib.hid hC
              have VC : Hid (VarIs (w9.setCell ⟨w1.heap.size, 5, none⟩ (.slice (some ⟨g, 0, none⟩) (n5 + 1) cap)) w1.heap.size C 30) := by rw [hC]; exact AB9.out.var
              have hCl : C.toList.length = 6 := by rw [hC]; rfl
              have HCL := Lib.hid hCl
              have RG := Lib.hid VC.out.range
              have TH : Hid ((w9.setCell ⟨w1.heap.size, 5, none⟩ (.slice (some ⟨g, 0, none⟩) (n5 + 1) cap)).there w.heap.size 0 C.toList.toArray.size) := AB9.out.res.there (by rw [List.size_toArray, hCl]; rfl)
              have ON : Hid (C.toList.toArray.all (·.oneCell') = true) := by rw [hC]; exact six_one _ _ _ _ _ _ _ _ _ _ _ _ _ _
              clear hC hCl VC
              go_wp2_with (first | refine wpList_load_mid rfl _ _ rfl w1.heap.size 0 rfl C.toList _ RG.out Try.underlying30 rfl (by rw [HCL.out]; kernel_rfl) ?_ | refine wpList_store_mid rfl _ _ _ rfl w.heap.size 0 C.toList.toArray rfl rfl TH.out (by rw [List.size_toArray, HCL.out]; kernel_rfl) ON.out ?_)
              have RG2 : Hid (((w9.setCell ⟨w1.heap.size, 5, none⟩ (.slice (some ⟨g, 0, none⟩) (n5 + 1) cap)).setCells w.heap.size 0 C.toList).rangeAt w.heap.size 0 C.toList) := World.rangeAt_setCells_same (w9.setCell ⟨w1.heap.size, 5, none⟩ (.slice (some ⟨g, 0, none⟩) (n5 + 1) cap)) w.heap.size 0 C.toList (by simpa using TH.out)
              have HGS := Lib.hid (grown_setCells w.heap.size C.toList 0 (w9.setCell ⟨w1.heap.size, 5, none⟩ (.slice (some ⟨g, 0, none⟩) (n5 + 1) cap)))
              refine bodyPost_ret (v := .agg C) ?_ rfl ⟨⟨st, it, ins, outs, hids, steps ++ [(r14, r19, r23)]⟩, .agg C, rfl, by have h9 := AB9.out.ret HGS.out; rw [← HC.out] at h9; exact h9, ⟨by simp only; omega, by simp only; omega, by simp only; omega, by simp only; omega⟩, (CU9.out.keep (B := P + 1) HGS.out (by omega) (fun q hq => by have h1 := Option.some.inj hq; omega)).mono (by omega), grown_past GR9.out HGS.out (Nat.le_refl _)⟩
              have hCx := HC.out
              subst hCx
              have HF := RG2.out
              have HC0 := HF 0 _ rfl
              have HC1 := HF 1 _ rfl
              have HC2' := HF 2 _ rfl
              have HC3 := HF 3 _ rfl
              have HC4 := HF 4 _ rfl
              have HC5 := HF 5 _ rfl
              simp only [Nat.zero_add] at HC0 HC1 HC2' HC3 HC4 HC5
              clear HF RG2 HGS HC
              simp [results, Try.results46, go_sem, HC0, HC1, HC2', HC3, HC4, HC5]
            refine AllReadyH.cons rfl (fun K hK => ?_) AllReadyH.nil
            have ab26 : Hid (AnyB (wp23.alloc (.cells #[.int .i64 r14, .int .i64 r19, .int .i64 r23] 70)) P w.heap.size w1.heap.size st it (.slice b2 n2 d2) (.slice b3 n3 d3) (.slice b4 n4 d4) (.slice b5 n5 d5) (n2) (n3) (n4) (n5) (ins) (outs) (hids) (steps)) := ab23.out.below ((Below.refl _ wp23).alloc (Nat.le_refl _) (.cells #[.int .i64 r14, .int .i64 r19, .int .i64 r23] 70))
            have cu26 := Lib.hid (cu23.out.below ((Below.refl _ wp23).alloc (Nat.le_refl _) (.cells #[.int .i64 r14, .int .i64 r19, .int .i64 r23] 70)))
            have gr26 := Lib.hid (grownBy_trans gr23.out (grown_of_below ((Below.refl _ wp23).alloc (Nat.le_refl _) (.cells #[.int .i64 r14, .int .i64 r19, .int .i64 r23] 70)) _))
            have HB9 : Hid (w.heap.size + 1 ≤ (wp23.alloc (.cells #[.int .i64 r14, .int .i64 r19, .int .i64 r23] 70)).heap.size) := by have h1 := ab23.out.var.lt; have h2 := ab23.out.hRA; simp [Hid]; omega
            have SN : Hid (∀ j u, (flat [(r14, r19, r23)])[j]? = some u → (wp23.alloc (.cells #[.int .i64 r14, .int .i64 r19, .int .i64 r23] 70)).cell? ((⟨wp23.heap.size, 0, none⟩ : Addr).add j) = some u) := fun j u hu => by
              have hv : VarIs (wp23.alloc (.cells #[.int .i64 r14, .int .i64 r19, .int .i64 r23] 70)) wp23.heap.size #[.int .i64 r14, .int .i64 r19, .int .i64 r23] 70 := VarIs.new wp23 #[.int .i64 r14, .int .i64 r19, .int .i64 r23] 70 rfl
              rw [add_lit, Nat.zero_add]
              exact hv.cell (by simpa [flat, stCells] using hu)
            go_simp
            refine hK.out _ _ trivial (fun hHeld => ?_)
            clear hK K
            try simp only [Act.put, List.setIfInBounds_toArray, List.set_cons_zero, List.set_cons_succ]
            refine wpAnyH_ready (rs := [1]) (fuel := 3) (by kernel_rfl) (by simp) ?_
            refine AllReadyH.cons rfl (fun K hK => ?_) AllReadyH.nil
            have m27 := ab26.out.var.cell (j := 5) rfl
            go_simp
            refine hK.out _ _ trivial (fun hHeld => ?_)
            clear hK K m27
            try simp only [Act.put, List.setIfInBounds_toArray, List.set_cons_zero, List.set_cons_succ]
            refine wpAnyH_ready (rs := [10]) (fuel := 2) (by kernel_rfl) (by simp) ?_
            refine AllReadyH.cons rfl (fun K hK => ?_) AllReadyH.nil
            refine step_append_lies _ rfl (.tmp 43) (.tmp 51) 28 rfl (w.heap.size + 1) 70 i1 (.agg #[.int .i64 0, .int .i64 0, .int .i64 0]) 3 24 Try.underlying28 hi1 hy0 hy1 hy2 rfl (by decide) (.slice b5 n5 d5) n5 (flat steps) rfl ab26.out.o5 ⟨wp23.heap.size, 0, none⟩ 1 1 (flat [(r14, r19, r23)]) rfl rfl SN.out (flat_one _) (by decide) (by unfold maxLen; omega) (by omega) HB9.out _ rfl ?_
            intro g cap w9 hown hgrow hlies hlt
            refine hK.out _ _ trivial (fun hHeld => ?_)
            clear hK K
            simp only [Act.put, List.setIfInBounds_toArray]
            have bl : ∀ q, (.slice b5 n5 d5 : Value).ownBlock = some q → w.heap.size + 1 ≤ q := fun q hq => (ab26.out.o5.lt q hq).1
            have va9 := ab26.out.var.grown hgrow (fun e => own_ne ab26.out.o5 ab26.out.var (by decide) e.symm)
            have re9 := ab26.out.res.grown hgrow (fun e => by have := bl _ e.symm; omega)
            have q2 := ab26.out.o2.keep hgrow (fun k hk e => (D2.out k hk).2.2 e.symm)
            have q3 := ab26.out.o3.keep hgrow (fun k hk e => (D3.out k hk).2 e.symm)
            have q4 := ab26.out.o4.keep hgrow (fun k hk e => D4.out k hk e.symm)
            have CU8 := Lib.hid (cu26.out.keep (B := P + 1) hgrow (by omega) (fun q hq => by have := bl q hq; omega))
            have GR8 := Lib.hid (grownBy_own2 gr26.out hgrow (fun q hq => by have := bl q hq; omega))
            have AB9 : Hid (AnyB (w9.setCell ⟨w1.heap.size, 5, none⟩ (.slice (some ⟨g, 0, none⟩) (n5 + 1) cap)) P w.heap.size w1.heap.size st it (.slice b2 n2 d2) (.slice b3 n3 d3) (.slice b4 n4 d4) (.slice (some ⟨g, 0, none⟩) (n5 + 1) cap) (n2) (n3) (n4) (n5 + 1) (ins) (outs) (hids) (steps ++ [(r14, r19, r23)])) := anyB_store ab26.out.hP ab26.out.hRA va9 re9 q2 q3 q4 (by unfold OwnsS; rw [flat_append]; exact hown) rfl
            have CU9 := Lib.hid (CU8.out.keep (B := P + 1) (grownBy_set w9 w1.heap.size 5 (.slice (some ⟨g, 0, none⟩) (n5 + 1) cap)) (by omega) (fun q hq => by have h1 := Option.some.inj hq; omega))
            have GR9 := Lib.hid (grown_past GR8.out (grownBy_set w9 w1.heap.size 5 (.slice (some ⟨g, 0, none⟩) (n5 + 1) cap)) (by omega))
            have m9 := va9.cell (j := 5) rfl
            have f9 := va9.frozen 5
            clear hown hgrow hlies hlt
            refine take_op 11 53 (.pointer (some ⟨w1.heap.size, 5, none⟩)) (fuel := 1) rfl rfl (by kernel_rfl) (by kernel_rfl) (by kernel_rfl) (fun _ _ _ h => h) (by rfl) (fun w hSw => by go_simp) hHeld ?_
            simp only [Act.put]
            refine wpAnyH_ready (rs := [12]) (fuel := 0) (by kernel_rfl) (by simp) ?_
            refine AllReadyH.cons rfl (fun K hK => ?_) AllReadyH.nil
            go_simp
            refine hK.out _ _ trivial (fun hHeld => ?_)
            clear hK K
            refine wpAnyH_done (by kernel_rfl) ?_ _
            clear m9 f9 va9 re9 hHeld CU8 GR8
            have lE2 := AB9.out.o2.length
            have lE3 := AB9.out.o3.length
            have lE4 := AB9.out.o4.length
            have lE5 := AB9.out.o5.length
            obtain ⟨C, hC⟩ : ∃ C : Array Value, C = #[.int .i64 st, .int .i64 it, .slice b2 n2 d2, .slice b3 n3 d3, .slice b4 n4 d4, .slice (some ⟨g, 0, none⟩) (n5 + 1) cap] := ⟨_, rfl⟩
            have HC := Lib.hid hC
            have VC : Hid (VarIs (w9.setCell ⟨w1.heap.size, 5, none⟩ (.slice (some ⟨g, 0, none⟩) (n5 + 1) cap)) w1.heap.size C 30) := by rw [hC]; exact AB9.out.var
            have hCl : C.toList.length = 6 := by rw [hC]; rfl
            have HCL := Lib.hid hCl
            have RG := Lib.hid VC.out.range
            have TH : Hid ((w9.setCell ⟨w1.heap.size, 5, none⟩ (.slice (some ⟨g, 0, none⟩) (n5 + 1) cap)).there w.heap.size 0 C.toList.toArray.size) := AB9.out.res.there (by rw [List.size_toArray, hCl]; rfl)
            have ON : Hid (C.toList.toArray.all (·.oneCell') = true) := by rw [hC]; exact six_one _ _ _ _ _ _ _ _ _ _ _ _ _ _
            clear hC hCl VC
            go_wp2_with (first | refine wpList_load_mid rfl _ _ rfl w1.heap.size 0 rfl C.toList _ RG.out Try.underlying30 rfl (by rw [HCL.out]; kernel_rfl) ?_ | refine wpList_store_mid rfl _ _ _ rfl w.heap.size 0 C.toList.toArray rfl rfl TH.out (by rw [List.size_toArray, HCL.out]; kernel_rfl) ON.out ?_)
            have RG2 : Hid (((w9.setCell ⟨w1.heap.size, 5, none⟩ (.slice (some ⟨g, 0, none⟩) (n5 + 1) cap)).setCells w.heap.size 0 C.toList).rangeAt w.heap.size 0 C.toList) := World.rangeAt_setCells_same (w9.setCell ⟨w1.heap.size, 5, none⟩ (.slice (some ⟨g, 0, none⟩) (n5 + 1) cap)) w.heap.size 0 C.toList (by simpa using TH.out)
            have HGS := Lib.hid (grown_setCells w.heap.size C.toList 0 (w9.setCell ⟨w1.heap.size, 5, none⟩ (.slice (some ⟨g, 0, none⟩) (n5 + 1) cap)))
            refine bodyPost_ret (v := .agg C) ?_ rfl ⟨⟨st, it, ins, outs, hids, steps ++ [(r14, r19, r23)]⟩, .agg C, rfl, by have h9 := AB9.out.ret HGS.out; rw [← HC.out] at h9; exact h9, ⟨by simp only; omega, by simp only; omega, by simp only; omega, by simp only; omega⟩, (CU9.out.keep (B := P + 1) HGS.out (by omega) (fun q hq => by have h1 := Option.some.inj hq; omega)).mono (by omega), grown_past GR9.out HGS.out (Nat.le_refl _)⟩
            have hCx := HC.out
            subst hCx
            have HF := RG2.out
            have HC0 := HF 0 _ rfl
            have HC1 := HF 1 _ rfl
            have HC2' := HF 2 _ rfl
            have HC3 := HF 3 _ rfl
            have HC4 := HF 4 _ rfl
            have HC5 := HF 5 _ rfl
            simp only [Nat.zero_add] at HC0 HC1 HC2' HC3 HC4 HC5
            clear HF RG2 HGS HC
            simp [results, Try.results46, go_sem, HC0, HC1, HC2', HC3, HC4, HC5]
          · have e3 : (r == 3) = false := by simpa using h3
            by_cases h4 : r = 4
            · subst h4
              have m3 := AB3.out.var.cell (j := 3) rfl
              have m4 := AB3.out.var.cell (j := 4) rfl
              go_wp2_with fail
              clear m3 m4
              refine (specSetJoin_any b4 b3 n4 d4 n3 d3 hids outs _ AB3.out.o4.row.2.2.2 AB3.out.o3.row.2.2.2 (by omega) (by omega)).mono ?_
              have hjl := drawn_join_len hids outs
              rw [AB3.out.o4.length, AB3.out.o3.length] at hjl
              obtain ⟨J, hJ⟩ : ∃ J, J = joinOf hids outs := ⟨_, rfl⟩
              rw [← hJ] at hjl ⊢
              clear hJ
              rintro e w4 ⟨gj, cj, rfl, ho, hb⟩
              obtain ⟨nj, hnj⟩ : ∃ n, n = J.length := ⟨_, rfl⟩
              rw [← hnj] at hjl ho ⊢
              clear hnj
              have AB4 := Lib.hid (AB3.out.below hb)
              have CU4 := Lib.hid (CU3.out.below hb)
              have GR4 := Lib.hid (grownBy_trans GR3.out (grown_of_below hb _))
              have hA3 := AB3.out.var.lt
              have m4 := AB4.out.var.cell (j := 4) rfl
              have f4 := AB4.out.var.frozen 4
              have AB7 : Hid (AnyB (w4.setCell ⟨w1.heap.size, 4, none⟩ (.slice (some ⟨gj, 0, none⟩) nj cj)) P w.heap.size w1.heap.size st it (.slice b2 n2 d2) (.slice b3 n3 d3) (.slice (some ⟨gj, 0, none⟩) nj cj) (.slice b5 n5 d5) (n2) (n3) (nj) (n5) (ins) (outs) (J) (steps)) := anyB_store AB4.out.hP AB4.out.hRA AB4.out.var AB4.out.res AB4.out.o2 AB4.out.o3 (ho.mono (by omega)) AB4.out.o5 rfl
              have CU7 := Lib.hid (CU4.out.keep (B := P + 1) (grownBy_set w4 w1.heap.size 4 (.slice (some ⟨gj, 0, none⟩) nj cj)) (by omega) (fun q hq => by have h1 := Option.some.inj hq; omega))
              have GR7 := Lib.hid (grown_past GR4.out (grownBy_set w4 w1.heap.size 4 (.slice (some ⟨gj, 0, none⟩) nj cj)) (by omega))
              clear ho hb AB3 CU3 GR3 AB4 CU4 GR4
              have lE2 := AB7.out.o2.length
              have lE3 := AB7.out.o3.length
              have lE4 := AB7.out.o4.length
              have lE5 := AB7.out.o5.length
              obtain ⟨C, hC⟩ : ∃ C : Array Value, C = #[.int .i64 st, .int .i64 it, .slice b2 n2 d2, .slice b3 n3 d3, .slice (some ⟨gj, 0, none⟩) nj cj, .slice b5 n5 d5] := ⟨_, rfl⟩
              have HC := Lib.hid hC
              have VC : Hid (VarIs (w4.setCell ⟨w1.heap.size, 4, none⟩ (.slice (some ⟨gj, 0, none⟩) nj cj)) w1.heap.size C 30) := by rw [hC]; exact AB7.out.var
              have hCl : C.toList.length = 6 := by rw [hC]; rfl
              have HCL := Lib.hid hCl
              have RG := Lib.hid VC.out.range
              have TH : Hid ((w4.setCell ⟨w1.heap.size, 4, none⟩ (.slice (some ⟨gj, 0, none⟩) nj cj)).there w.heap.size 0 C.toList.toArray.size) := AB7.out.res.there (by rw [List.size_toArray, hCl]; rfl)
              have ON : Hid (C.toList.toArray.all (·.oneCell') = true) := by rw [hC]; exact six_one _ _ _ _ _ _ _ _ _ _ _ _ _ _
              clear hC hCl VC
              go_wp2_with (first | refine wpList_load_mid rfl _ _ rfl w1.heap.size 0 rfl C.toList _ RG.out Try.underlying30 rfl (by rw [HCL.out]; kernel_rfl) ?_ | refine wpList_store_mid rfl _ _ _ rfl w.heap.size 0 C.toList.toArray rfl rfl TH.out (by rw [List.size_toArray, HCL.out]; kernel_rfl) ON.out ?_)
              have RG2 : Hid (((w4.setCell ⟨w1.heap.size, 4, none⟩ (.slice (some ⟨gj, 0, none⟩) nj cj)).setCells w.heap.size 0 C.toList).rangeAt w.heap.size 0 C.toList) := World.rangeAt_setCells_same (w4.setCell ⟨w1.heap.size, 4, none⟩ (.slice (some ⟨gj, 0, none⟩) nj cj)) w.heap.size 0 C.toList (by simpa using TH.out)
              have HGS := Lib.hid (grown_setCells w.heap.size C.toList 0 (w4.setCell ⟨w1.heap.size, 4, none⟩ (.slice (some ⟨gj, 0, none⟩) nj cj)))
              refine bodyPost_ret (v := .agg C) ?_ rfl ⟨⟨st, it, ins, outs, J, steps⟩, .agg C, rfl, by have h9 := AB7.out.ret HGS.out; rw [← HC.out] at h9; exact h9, ⟨by simp only; omega, by simp only; omega, by simp only; omega, by simp only; omega⟩, (CU7.out.keep (B := P + 1) HGS.out (by omega) (fun q hq => by have h1 := Option.some.inj hq; omega)).mono (by omega), grown_past GR7.out HGS.out (Nat.le_refl _)⟩
              have hCx := HC.out
              subst hCx
              have HF := RG2.out
              have HC0 := HF 0 _ rfl
              have HC1 := HF 1 _ rfl
              have HC2' := HF 2 _ rfl
              have HC3 := HF 3 _ rfl
              have HC4 := HF 4 _ rfl
              have HC5 := HF 5 _ rfl
              simp only [Nat.zero_add] at HC0 HC1 HC2' HC3 HC4 HC5
              clear HF RG2 HGS HC
              simp [results, Try.results46, go_sem, HC0, HC1, HC2', HC3, HC4, HC5]
            · have e4 : (r == 4) = false := by simpa using h4
              clear h0 h1 h2 h3 h4
              have m5 := AB3.out.var.cell (j := 5) rfl
              have hA3 := AB3.out.var.lt
              have S1 : SrcS w3 b5 n5 d5 steps := AB3.out.o5.row.2.2.2.src (fun e => by
                subst e
                rcases AB3.out.o5.2 with ⟨e, e2⟩ | ⟨_, _, _, e, _⟩
                · cases e; exact ⟨rfl, rfl⟩
                · cases e)
              have T1 := AB3.out.o5
              go_wp2_with (at_builtin; refine wpList_appS rfl (.tmp 11) (.tmp 13) _ _ rfl (w.heap.size + 1) i1 Try.underlying28 hi1 hy0 hy1 hy2 _ _ _ rfl T1 _ n5 _ steps rfl S1 (by omega) (by omega) ?_)
              rintro v9 w9 ⟨hown9, hgrow9, _⟩
              obtain ⟨a9, c9, rfl⟩ := hown9.form
              have bl : ∀ q, (.slice b5 n5 d5 : Value).ownBlock = some q → w.heap.size + 1 ≤ q := fun q hq => (T1.lt q hq).1
              have va9 := AB3.out.var.grown hgrow9 (fun e => own_ne T1 AB3.out.var (by decide) e.symm)
              have re9 := AB3.out.res.grown hgrow9 (fun e => by have := bl _ e.symm; omega)
              have q2 := AB3.out.o2.keep hgrow9 (fun k hk e => (D2.out k hk).2.2 e.symm)
              have q3 := AB3.out.o3.keep hgrow9 (fun k hk e => (D3.out k hk).2 e.symm)
              have q4 := AB3.out.o4.keep hgrow9 (fun k hk e => D4.out k hk e.symm)
              have CU4 := Lib.hid (CU3.out.keep (B := P + 1) hgrow9 (by omega) (fun q hq => by have := bl q hq; omega))
              have GR4 := Lib.hid (grownBy_own2 GR3.out hgrow9 (fun q hq => by have := bl q hq; omega))
              have AB7 : Hid (AnyB (w9.setCell ⟨w1.heap.size, 5, none⟩ (.slice a9 (n5 + n5) c9)) P w.heap.size w1.heap.size st it (.slice b2 n2 d2) (.slice b3 n3 d3) (.slice b4 n4 d4) (.slice a9 (n5 + n5) c9) (n2) (n3) (n4) (n5 + n5) (ins) (outs) (hids) (steps ++ steps)) := anyB_store AB3.out.hP AB3.out.hRA va9 re9 q2 q3 q4 hown9 rfl
              have CU7 := Lib.hid (CU4.out.keep (B := P + 1) (grownBy_set w9 w1.heap.size 5 (.slice a9 (n5 + n5) c9)) (by omega) (fun q hq => by have h1 := Option.some.inj hq; omega))
              have GR7 := Lib.hid (grown_past GR4.out (grownBy_set w9 w1.heap.size 5 (.slice a9 (n5 + n5) c9)) (by omega))
              have m9 := va9.cell (j := 5) rfl
              have f9 := va9.frozen 5
              clear m5 S1 T1 hown9 hgrow9 va9 re9 q2 q3 q4 AB3 CU3 GR3 CU4 GR4 bl
              have lE2 := AB7.out.o2.length
              have lE3 := AB7.out.o3.length
              have lE4 := AB7.out.o4.length
              have lE5 := AB7.out.o5.length
              obtain ⟨C, hC⟩ : ∃ C : Array Value, C = #[.int .i64 st, .int .i64 it, .slice b2 n2 d2, .slice b3 n3 d3, .slice b4 n4 d4, .slice a9 (n5 + n5) c9] := ⟨_, rfl⟩
              have HC := Lib.hid hC
              have VC : Hid (VarIs (w9.setCell ⟨w1.heap.size, 5, none⟩ (.slice a9 (n5 + n5) c9)) w1.heap.size C 30) := by rw [hC]; exact AB7.out.var
              have hCl : C.toList.length = 6 := by rw [hC]; rfl
              have HCL := Lib.hid hCl
              have RG := Lib.hid VC.out.range
              have TH : Hid ((w9.setCell ⟨w1.heap.size, 5, none⟩ (.slice a9 (n5 + n5) c9)).there w.heap.size 0 C.toList.toArray.size) := AB7.out.res.there (by rw [List.size_toArray, hCl]; rfl)
              have ON : Hid (C.toList.toArray.all (·.oneCell') = true) := by rw [hC]; exact six_one _ _ _ _ _ _ _ _ _ _ _ _ _ _
              clear hC hCl VC
              go_wp2_with (first | refine wpList_load_mid rfl _ _ rfl w1.heap.size 0 rfl C.toList _ RG.out Try.underlying30 rfl (by rw [HCL.out]; kernel_rfl) ?_ | refine wpList_store_mid rfl _ _ _ rfl w.heap.size 0 C.toList.toArray rfl rfl TH.out (by rw [List.size_toArray, HCL.out]; kernel_rfl) ON.out ?_)
              have RG2 : Hid (((w9.setCell ⟨w1.heap.size, 5, none⟩ (.slice a9 (n5 + n5) c9)).setCells w.heap.size 0 C.toList).rangeAt w.heap.size 0 C.toList) := World.rangeAt_setCells_same (w9.setCell ⟨w1.heap.size, 5, none⟩ (.slice a9 (n5 + n5) c9)) w.heap.size 0 C.toList (by simpa using TH.out)
              have HGS := Lib.hid (grown_setCells w.heap.size C.toList 0 (w9.setCell ⟨w1.heap.size, 5, none⟩ (.slice a9 (n5 + n5) c9)))
              refine bodyPost_ret (v := .agg C) ?_ rfl ⟨⟨st, it, ins, outs, hids, steps ++ steps⟩, .agg C, rfl, by have h9 := AB7.out.ret HGS.out; rw [← HC.out] at h9; exact h9, ⟨by simp only; omega, by simp only; omega, by simp only; omega, by simp only; omega⟩, (CU7.out.keep (B := P + 1) HGS.out (by omega) (fun q hq => by have h1 := Option.some.inj hq; omega)).mono (by omega), grown_past GR7.out HGS.out (Nat.le_refl _)⟩
              have hCx := HC.out
              subst hCx
              have HF := RG2.out
              have HC0 := HF 0 _ rfl
              have HC1 := HF 1 _ rfl
              have HC2' := HF 2 _ rfl
              have HC3 := HF 3 _ rfl
              have HC4 := HF 4 _ rfl
              have HC5 := HF 5 _ rfl
              simp only [Nat.zero_add] at HC0 HC1 HC2' HC3 HC4 HC5
              clear HF RG2 HGS HC
              simp [results, Try.results46, go_sem, HC0, HC1, HC2', HC3, HC4, HC5]

end Go.Proofs.Ytfhfmblghihinab

/-
  The contracts of the model's draws of a state and of DrawClosure: some automaton, its lists in new memory, and some number. Conditions: the code is a slice of at most 2^20 bytes.
-/
namespace Go.Proofs.Ytfhfmblghihinab
open Go.RowKit

/-- What state leaves. -/
def StateRes (w : World) (P t : Nat) (e : Ending) (w' : World) : Prop :=
  ∃ r : Int, e = .returned (.int .i64 r) ∧ Cur w' P t ∧ w.grownBy w' (some P)

set_option maxRecDepth 20000 in
set_option maxHeartbeats 1600000 in
theorem drawState_any (P t : Nat) (st it : Int) (v2 v3 v4 v5 : Value) (w : World) (h : Cur w P t) (ht : t ≤ 100000) :
    Calls Try.prog 47 #[.pointer (some ⟨P, 0, none⟩), .agg #[.int .i64 st, .int .i64 it, v2, v3, v4, v5]] w (StateRes w P (t + 3)) := by
  have hP := h.lt
  have B0 : Hid (Below w.heap.size w (w.alloc (.cells #[.int .i64 st, .int .i64 it, v2, v3, v4, v5] 30))) := (Below.refl _ _).alloc (Nat.le_refl _) _
  have H0 := Lib.hid (h.below B0.out)
  have G0 : Hid (w.grownBy (w.alloc (.cells #[.int .i64 st, .int .i64 it, v2, v3, v4, v5] 30)) (some P)) := World.grownBy_alloc w _ _
  have V0 := Lib.hid (VarIs.new w #[.int .i64 st, .int .i64 it, v2, v3, v4, v5] 30 rfl)
  clear h
  go_enter Try.func47, Try.ntmps47
  go_wp2_with fail
  refine (once_any P t 12 _ H0.out (by omega) (by omega) (by omega)).mono ?_
  rintro e w1 ⟨q, rfl, hcur, hg⟩
  have H1 := Lib.hid hcur
  have G1 := Lib.hid (grownBy_trans G0.out hg)
  have V1 := Lib.hid (V0.out.grown hg (fun e => by have := Option.some.inj e; omega))
  clear hcur hg H0 G0 V0 B0
  cases q with
  | true =>
    go_wp2_with fail
    refine (raw_any P (t + 1) _ H1.out (by omega)).mono ?_
    rintro e w2 ⟨x, rfl, _, hcur2, hg2⟩
    go_wp2_with fail
    go_ret
    exact ⟨_, rfl, hcur2, grownBy_trans G1.out hg2⟩
  | false =>
    have m0 := V1.out.cell (j := 0) rfl
    go_wp2_with fail
    refine (pick_le P (t + 1) (max 1 (min 50 st)) _ H1.out (by omega) (by omega) (by omega)).mono ?_
    rintro e w2 ⟨x, rfl, _, _, hcur2, hg2⟩
    go_wp2_with fail
    go_ret
    exact ⟨_, rfl, hcur2.mono (by omega), grownBy_trans G1.out hg2⟩

end Go.Proofs.Ytfhfmblghihinab

/-
  The contract of the model's DrawClosure: some automaton, its lists in new memory, and some number. Conditions: the code is a slice of at most 2^20 bytes.
-/
namespace Go.Proofs.Ytfhfmblghihinab
open Go.RowKit

/-- Lists that are not too long. -/
def Lens (a : IaD) : Prop := a.ins.length ≤ 1000 ∧ a.outs.length ≤ 1000 ∧ a.hids.length ≤ 1000 ∧ a.steps.length ≤ 1000

/-- What DrawClosure leaves. -/
def ClosureDrawn (w : World) (e : Ending) (w' : World) : Prop :=
  ∃ (ia : IaD) (v : Value) (s : Int), e = .returned (.tuple #[v, .int .i64 s]) ∧ IaMine w' w.heap.size ia v ∧ Lens ia ∧ Below w.heap.size w w'

theorem opened (a : Option Addr) (n c : Nat) (w : World) (hn : n ≤ 1048576) (hcode : Code w w.heap.size a n) (o : Obj) :
    Calls Try.prog 45 #[.slice a n c] (w.alloc o) fun e w' => e = .returned (.pointer (some ⟨w.heap.size + 1, 0, none⟩)) ∧ Cur w' (w.heap.size + 1) 0 ∧ Below (w.heap.size + 1) (w.alloc o) w' := by
  have h1 : Code (w.alloc o) (w.alloc o).heap.size a n := (hcode.below ((Below.refl _ _).alloc (Nat.le_refl _) _)).mono (by simp)
  have := open_any a n c (w.alloc o) hn h1
  simpa using this

set_option maxRecDepth 20000 in
set_option maxHeartbeats 3200000 in
theorem drawClosure_any (a : Option Addr) (n c : Nat) (w : World) (hn : n ≤ 1048576) (hcode : Code w w.heap.size a n) :
    Calls Try.prog 21 #[.slice a n c] w (ClosureDrawn w) := by
  have CO := Lib.hid (opened a n c w hn hcode (.cells #[.int .i64 0, .int .i64 0, .slice none 0 0, .slice none 0 0, .slice none 0 0, .slice none 0 0] 30))
  have BZ : Hid (Below w.heap.size w (w.alloc (.cells #[.int .i64 0, .int .i64 0, .slice none 0 0, .slice none 0 0, .slice none 0 0, .slice none 0 0] 30))) := (Below.refl _ _).alloc (Nat.le_refl _) _
  have VZ := Lib.hid (VarIs.new w #[.int .i64 0, .int .i64 0, .slice none 0 0, .slice none 0 0, .slice none 0 0, .slice none 0 0] 30 rfl)
  clear hcode
  go_enter Try.func21, Try.ntmps21
  go_wp2_with fail
  refine CO.out.mono ?_
  rintro e w1 ⟨rfl, hcur, hb⟩
  have B1 : Hid (Below w.heap.size w w1) := BZ.out.trans (hb.mono (by omega))
  have V1 := VZ.out.below (by have := hb; simpa using this)
  have CU1 := Lib.hid hcur
  have hP1 := hcur.lt
  clear hcur hb CO BZ VZ
  go_wp2_with fail
  refine (anyIa_any (w.heap.size + 1) 0 _ CU1.out (by omega)).mono ?_
  rintro e w2 ⟨ia, v, rfl, hm, hl, hcur, hg⟩
  have B2 : Hid (Below w.heap.size w w2) := B1.out.grown hg B1.out.size (fun q hq => by have := Option.some.inj hq; omega)
  have V2 := V1.grown hg (fun e => by have := Option.some.inj e; omega)
  have CU2 := Lib.hid hcur
  have hs2 := hg.size
  clear hcur hg V1 B1 CU1
  obtain ⟨st, it, ins, outs, hids, steps⟩ := ia
  obtain ⟨x2, x3, x4, x5, rfl, o2, o3, o4, o5⟩ := hm
  simp only at o2 o3 o4 o5 hl
  obtain ⟨n2, hn2⟩ : ∃ n, n = ins.length := ⟨_, rfl⟩
  obtain ⟨n3, hn3⟩ : ∃ n, n = outs.length := ⟨_, rfl⟩
  obtain ⟨n4, hn4⟩ : ∃ n, n = hids.length := ⟨_, rfl⟩
  obtain ⟨n5, hn5⟩ : ∃ n, n = steps.length := ⟨_, rfl⟩
  rw [← hn2] at o2
  rw [← hn3] at o3
  rw [← hn4] at o4
  rw [← hn5] at o5
  obtain ⟨b2, d2, rfl⟩ := o2.form
  obtain ⟨b3, d3, rfl⟩ := o3.form
  obtain ⟨b4, d4, rfl⟩ := o4.form
  obtain ⟨b5, d5, rfl⟩ := o5.form
  have HM : Hid (IaMine w2 w1.heap.size ⟨st, it, ins, outs, hids, steps⟩ (.agg #[.int .i64 st, .int .i64 it, .slice b2 n2 d2, .slice b3 n3 d3, .slice b4 n4 d4, .slice b5 n5 d5])) := ⟨_, _, _, _, rfl, by rw [← hn2]; exact o2, by rw [← hn3]; exact o3, by rw [← hn4]; exact o4, by rw [← hn5]; exact o5⟩
  have HLN : Hid (Lens ⟨st, it, ins, outs, hids, steps⟩) := hl
  clear o2 o3 o4 o5 hn2 hn3 hn4 hn5 hl
  have V3 := Lib.hid ((VarIs.new w2 #[.int .i64 st, .int .i64 it, .slice b2 n2 d2, .slice b3 n3 d3, .slice b4 n4 d4, .slice b5 n5 d5] 30 rfl).drew)
  have S0 : VarIs (w2.alloc (.cells #[.int .i64 st, .int .i64 it, .slice b2 n2 d2, .slice b3 n3 d3, .slice b4 n4 d4, .slice b5 n5 d5] 30)).drew w2.heap.size #[.int .i64 st, .int .i64 it, .slice b2 n2 d2, .slice b3 n3 d3, .slice b4 n4 d4, .slice b5 n5 d5] 30 ∧ (w2.alloc (.cells #[.int .i64 st, .int .i64 it, .slice b2 n2 d2, .slice b3 n3 d3, .slice b4 n4 d4, .slice b5 n5 d5] 30)).drew.cell? ⟨w2.heap.size, 0, none⟩ = some (.int .i64 st) ∧ (w2.alloc (.cells #[.int .i64 st, .int .i64 it, .slice b2 n2 d2, .slice b3 n3 d3, .slice b4 n4 d4, .slice b5 n5 d5] 30)).drew.cell? ⟨w2.heap.size, 1, none⟩ = some (.int .i64 it) ∧ (w2.alloc (.cells #[.int .i64 st, .int .i64 it, .slice b2 n2 d2, .slice b3 n3 d3, .slice b4 n4 d4, .slice b5 n5 d5] 30)).drew.cell? ⟨w2.heap.size, 2, none⟩ = some (.slice b2 n2 d2) ∧ (w2.alloc (.cells #[.int .i64 st, .int .i64 it, .slice b2 n2 d2, .slice b3 n3 d3, .slice b4 n4 d4, .slice b5 n5 d5] 30)).drew.cell? ⟨w2.heap.size, 3, none⟩ = some (.slice b3 n3 d3) ∧ (w2.alloc (.cells #[.int .i64 st, .int .i64 it, .slice b2 n2 d2, .slice b3 n3 d3, .slice b4 n4 d4, .slice b5 n5 d5] 30)).drew.cell? ⟨w2.heap.size, 4, none⟩ = some (.slice b4 n4 d4) ∧ (w2.alloc (.cells #[.int .i64 st, .int .i64 it, .slice b2 n2 d2, .slice b3 n3 d3, .slice b4 n4 d4, .slice b5 n5 d5] 30)).drew.cell? ⟨w2.heap.size, 5, none⟩ = some (.slice b5 n5 d5) := ⟨V3.out, V3.out.cell rfl, V3.out.cell rfl, V3.out.cell rfl, V3.out.cell rfl, V3.out.cell rfl, V3.out.cell rfl⟩
  have CU3 : Hid (Cur (w2.alloc (.cells #[.int .i64 st, .int .i64 it, .slice b2 n2 d2, .slice b3 n3 d3, .slice b4 n4 d4, .slice b5 n5 d5] 30)).drew (w.heap.size + 1) (0 + 340)) := CU2.out.below (((Below.refl _ w2).alloc (Nat.le_refl _) _).drew)
  have B3 : Hid (Below w.heap.size w (w2.alloc (.cells #[.int .i64 st, .int .i64 it, .slice b2 n2 d2, .slice b3 n3 d3, .slice b4 n4 d4, .slice b5 n5 d5] 30)).drew) := (B2.out.alloc B2.out.size _).drew
  have M3 : Hid (IaMine (w2.alloc (.cells #[.int .i64 st, .int .i64 it, .slice b2 n2 d2, .slice b3 n3 d3, .slice b4 n4 d4, .slice b5 n5 d5] 30)).drew w1.heap.size ⟨st, it, ins, outs, hids, steps⟩ (.agg #[.int .i64 st, .int .i64 it, .slice b2 n2 d2, .slice b3 n3 d3, .slice b4 n4 d4, .slice b5 n5 d5])) := HM.out.below (((Below.refl _ w2).alloc (Nat.le_refl _) _).drew)
  have R3 : Hid (VarIs (w2.alloc (.cells #[.int .i64 st, .int .i64 it, .slice b2 n2 d2, .slice b3 n3 d3, .slice b4 n4 d4, .slice b5 n5 d5] 30)).drew w.heap.size #[.int .i64 0, .int .i64 0, .slice none 0 0, .slice none 0 0, .slice none 0 0, .slice none 0 0] 30) := (V2.alloc _).drew
  have hBl : w2.heap.size = w2.heap.size := rfl
  clear V2 B2 CU2 HM
  go_wp2_with fail
  refine wp_region_held_drew (S := fun w' => VarIs w' w2.heap.size #[.int .i64 st, .int .i64 it, .slice b2 n2 d2, .slice b3 n3 d3, .slice b4 n4 d4, .slice b5 n5 d5] 30 ∧ w'.cell? ⟨w2.heap.size, 0, none⟩ = some (.int .i64 st) ∧ w'.cell? ⟨w2.heap.size, 1, none⟩ = some (.int .i64 it) ∧ w'.cell? ⟨w2.heap.size, 2, none⟩ = some (.slice b2 n2 d2) ∧ w'.cell? ⟨w2.heap.size, 3, none⟩ = some (.slice b3 n3 d3) ∧ w'.cell? ⟨w2.heap.size, 4, none⟩ = some (.slice b4 n4 d4) ∧ w'.cell? ⟨w2.heap.size, 5, none⟩ = some (.slice b5 n5 d5)) (by kernel_rfl) S0 (fun hHeld => ?_)
  change wpAnyH _ _ _ _ _ 6 (Array.replicate 6 false) _ _
  refine take_op 0 10 (.agg #[.int .i64 st, .int .i64 it, .slice b2 n2 d2, .slice b3 n3 d3, .slice b4 n4 d4, .slice b5 n5 d5]) (fuel := 5) rfl rfl (by kernel_rfl) (by kernel_rfl) (by kernel_rfl) (fun _ _ _ h => h) (by rfl) (fun w hSw => by go_simp) hHeld ?_
  simp only [Act.put, List.setIfInBounds_toArray, List.set_cons_zero, List.set_cons_succ]
  refine take_op 1 11 (.pointer (some ⟨w.heap.size + 1, 0, none⟩)) (fuel := 4) rfl rfl (by kernel_rfl) (by kernel_rfl) (by kernel_rfl) (fun _ _ _ h => h) (by rfl) (fun w hSw => by go_simp) hHeld ?_
  simp only [Act.put, List.setIfInBounds_toArray, List.set_cons_zero, List.set_cons_succ]
  refine take_op 2 12 (.agg #[.int .i64 st, .int .i64 it, .slice b2 n2 d2, .slice b3 n3 d3, .slice b4 n4 d4, .slice b5 n5 d5]) (fuel := 3) rfl rfl (by kernel_rfl) (by kernel_rfl) (by kernel_rfl) (fun _ _ _ h => h) (by rfl) (fun w hSw => by go_simp) hHeld ?_
  simp only [Act.put, List.setIfInBounds_toArray, List.set_cons_zero, List.set_cons_succ]
  refine wpAnyH_ready (rs := [3]) (fuel := 2) (by kernel_rfl) (by simp) ?_
  refine AllReadyH.cons rfl (fun K hK => ?_) AllReadyH.nil
  go_simp
  refine (drawState_any (w.heap.size + 1) (0 + 340) st it _ _ _ _ _ CU3.out (by omega)).mono ?_
  rintro e w4 ⟨s, rfl, hcur, hg⟩
  have V4 := V3.out.grown hg (fun e => by have := Option.some.inj e; omega)
  have R4 := Lib.hid (R3.out.grown hg (fun e => by have := Option.some.inj e; omega))
  have M4 := Lib.hid (M3.out.keep hg (by omega))
  have B4 := Lib.hid (B3.out.grown hg B3.out.size (fun q hq => by have := Option.some.inj hq; omega))
  clear hcur hg CU3 B3 M3 R3
  go_wp2_with fail
  refine hK.out _ _ ⟨V4, V4.cell rfl, V4.cell rfl, V4.cell rfl, V4.cell rfl, V4.cell rfl, V4.cell rfl⟩ (fun hHeld => ?_)
  clear hK K
  have TH : Hid (w4.there w.heap.size 0 6) := R4.out.there rfl
  have HGS := Lib.hid (grown_setCells w.heap.size [.int .i64 st, .int .i64 it, .slice b2 n2 d2, .slice b3 n3 d3, .slice b4 n4 d4, .slice b5 n5 d5] 0 w4)
  have V5 := V4.grown HGS.out (fun e => by have := Option.some.inj e; omega)
  refine wpAnyH_ready (rs := [4]) (fuel := 1) (by kernel_rfl) (by simp) ?_
  refine AllReadyH.cons rfl (fun K hK => ?_) AllReadyH.nil
  rw [if_pos (by rfl)]
  refine wp_store_mid _ _ _ rfl w.heap.size 0 #[.int .i64 st, .int .i64 it, .slice b2 n2 d2, .slice b3 n3 d3, .slice b4 n4 d4, .slice b5 n5 d5] rfl rfl TH.out (by kernel_rfl) (six_one _ _ _ _ _ _ _ _ _ _ _ _ _ _) ?_
  refine hK.out _ _ ⟨V5, V5.cell rfl, V5.cell rfl, V5.cell rfl, V5.cell rfl, V5.cell rfl, V5.cell rfl⟩ (fun hHeld => ?_)
  clear hK K
  refine take_op 5 3 (.int .i64 s) (fuel := 0) rfl rfl (by kernel_rfl) (by kernel_rfl) (by kernel_rfl) (fun _ _ _ h => h) (by rfl) (fun w hSw => by go_simp) hHeld ?_
  simp only [Act.put, List.setIfInBounds_toArray]
  refine wpAnyH_done (by kernel_rfl) ?_ _
  have HF := World.rangeAt_setCells_same w4 w.heap.size 0 [.int .i64 st, .int .i64 it, .slice b2 n2 d2, .slice b3 n3 d3, .slice b4 n4 d4, .slice b5 n5 d5] TH.out
  clear V4 V5 hHeld S0 V3
  go_wp2_with fail
  refine bodyPost_ret (v := .tuple #[.agg #[.int .i64 st, .int .i64 it, .slice b2 n2 d2, .slice b3 n3 d3, .slice b4 n4 d4, .slice b5 n5 d5], .int .i64 s]) ?_ rfl ⟨⟨st, it, ins, outs, hids, steps⟩, _, s, rfl, (M4.out.keep HGS.out (by omega)).mono (by omega), HLN.out, B4.out.grown HGS.out B4.out.size (fun q hq => by have := Option.some.inj hq; omega)⟩
  have HC0 := HF 0 _ rfl
  have HC1 := HF 1 _ rfl
  have HC2 := HF 2 _ rfl
  have HC3 := HF 3 _ rfl
  have HC4 := HF 4 _ rfl
  have HC5 := HF 5 _ rfl
  simp only [Nat.zero_add] at HC0 HC1 HC2 HC3 HC4 HC5
  clear HF HGS
  simp [results, Try.results21, go_sem, HC0, HC1, HC2, HC3, HC4, HC5]

end Go.Proofs.Ytfhfmblghihinab
