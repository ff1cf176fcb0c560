/-
  An automaton that is being read: it lies in a variable of the call's own, its lists in blocks of the call's own, no two in one. Conditions: none; nothing here speaks of the program.
-/
import Derived.Test.YtfhjhfhfbgddeaaGreatDoorIaLaw
import Derived.Test.YtfhjhfhfbgddeaaGreatDoorTextMath
namespace Go.Proofs.YtfhjhfhfbgddeaaGreatDoor
open Go.RowKit

/-- The automaton in the variable 'A'; its lists lie at 'base' or above. -/
def ReadBox (w : World) (A base : Nat) (a : IaD) : Prop :=
  A < base ∧ base ≤ w.heap.size ∧ ∃ x2 x3 x4 x5 : Value, VarIs w A #[.int .i64 a.states, .int .i64 a.init, x2, x3, x4, x5] 27 ∧ IaOwn w base a (.agg #[.int .i64 a.states, .int .i64 a.init, x2, x3, x4, x5])

theorem grown_set (w : World) (A j : Nat) (u : Value) : w.grownBy (w.setCell ⟨A, j, none⟩ u) (some A) :=
  ⟨rfl, rfl, rfl, by simp [World.setCell], fun k _ hk => Below.heap_setCell _ _ _ _ (fun e => hk (by simp [e]))⟩

theorem iaOwn_parts {w : World} {base : Nat} {a : IaD} {x0 x1 x2 x3 x4 x5 : Value} (h : IaOwn w base a (.agg #[x0, x1, x2, x3, x4, x5])) :
    Owns w base x2 a.ins.length a.ins ∧ Owns w base x3 a.outs.length a.outs ∧ Owns w base x4 a.hids.length a.hids ∧ OwnsS 47 w base x5 a.steps.length a.steps ∧
    (∀ b, x2.ownBlock = some b → x3.ownBlock ≠ some b ∧ x4.ownBlock ≠ some b ∧ x5.ownBlock ≠ some b) ∧ (∀ b, x3.ownBlock = some b → x4.ownBlock ≠ some b ∧ x5.ownBlock ≠ some b) ∧ ∀ b, x4.ownBlock = some b → x5.ownBlock ≠ some b := by
  obtain ⟨y2, y3, y4, y5, e, r⟩ := h
  simp only [Value.agg.injEq, Array.mk.injEq, List.cons.injEq] at e
  obtain ⟨_, _, rfl, rfl, rfl, rfl, _⟩ := e
  exact r

theorem IaOwn.mono {w : World} {base base' : Nat} {a : IaD} {v : Value} (h : IaOwn w base' a v) (hb : base ≤ base') : IaOwn w base a v := by
  obtain ⟨x2, x3, x4, x5, e, o2, o3, o4, o5, p⟩ := h
  exact ⟨x2, x3, x4, x5, e, o2.mono hb, o3.mono hb, o4.mono hb, o5.mono hb, p⟩

theorem ReadBox.below {w w' : World} {A base : Nat} {a : IaD} (h : ReadBox w A base a) (hb : Below w.heap.size w w') : ReadBox w' A base a := by
  obtain ⟨h1, h2, x2, x3, x4, x5, hv, ho⟩ := h
  exact ⟨h1, Nat.le_trans h2 hb.size, x2, x3, x4, x5, hv.below hb, ho.below hb⟩

theorem readBox_new {w : World} {A base : Nat} (hv : VarIs w A #[.int .i64 0, .int .i64 0, .slice none 0 0, .slice none 0 0, .slice none 0 0, .slice none 0 0] 27) (hA : A < base) (hs : base ≤ w.heap.size) : ReadBox w A base noIa :=
  ⟨hA, hs, .slice none 0 0, .slice none 0 0, .slice none 0 0, .slice none 0 0, hv, .slice none 0 0, .slice none 0 0, .slice none 0 0, .slice none 0 0, rfl, World.ownsRow_nil _ _ _ _, World.ownsRow_nil _ _ _ _, World.ownsRow_nil _ _ _ _, World.ownsRow_nil _ _ _ _, (fun b h => by cases h), (fun b h => by cases h), fun b h => by cases h⟩

section
variable {w w' : World} {A base : Nat} {x2 x3 x4 x5 : Value} {a : IaD}

/-- All that one needs of the box, unbundled. -/
structure Box (w : World) (A base : Nat) (a : IaD) (x2 x3 x4 x5 : Value) : Prop where
  lt : A < base
  size : base ≤ w.heap.size
  var : VarIs w A #[.int .i64 a.states, .int .i64 a.init, x2, x3, x4, x5] 27
  o2 : Owns w base x2 a.ins.length a.ins
  o3 : Owns w base x3 a.outs.length a.outs
  o4 : Owns w base x4 a.hids.length a.hids
  o5 : OwnsS 47 w base x5 a.steps.length a.steps
  p2 : ∀ b, x2.ownBlock = some b → x3.ownBlock ≠ some b ∧ x4.ownBlock ≠ some b ∧ x5.ownBlock ≠ some b
  p3 : ∀ b, x3.ownBlock = some b → x4.ownBlock ≠ some b ∧ x5.ownBlock ≠ some b
  p4 : ∀ b, x4.ownBlock = some b → x5.ownBlock ≠ some b

theorem ReadBox.box (h : ReadBox w A base a) : ∃ x2 x3 x4 x5, Box w A base a x2 x3 x4 x5 := by
  obtain ⟨h1, h2, x2, x3, x4, x5, hv, ho⟩ := h
  obtain ⟨o2, o3, o4, o5, p2, p3, p4⟩ := iaOwn_parts ho
  exact ⟨x2, x3, x4, x5, h1, h2, hv, o2, o3, o4, o5, p2, p3, p4⟩

theorem Box.own (h : Box w A base a x2 x3 x4 x5) : IaOwn w base a (.agg #[.int .i64 a.states, .int .i64 a.init, x2, x3, x4, x5]) := ⟨x2, x3, x4, x5, rfl, h.o2, h.o3, h.o4, h.o5, h.p2, h.p3, h.p4⟩
theorem Box.read (h : Box w A base a x2 x3 x4 x5) : ReadBox w A base a := ⟨h.lt, h.size, x2, x3, x4, x5, h.var, h.own⟩

theorem Box.below (h : Box w A base a x2 x3 x4 x5) (hb : Below w.heap.size w w') : Box w' A base a x2 x3 x4 x5 :=
  ⟨h.lt, Nat.le_trans h.size hb.size, h.var.below hb, h.o2.below hb, h.o3.below hb, h.o4.below hb, h.o5.below hb, h.p2, h.p3, h.p4⟩

/-- A number goes into the box. -/
theorem Box.two (h : Box w A base a x2 x3 x4 x5) (s i : Int) : ReadBox ((w.setCell ⟨A, 0, none⟩ (.int .i64 s)).setCell ⟨A, 1, none⟩ (.int .i64 i)) A base ⟨s, i, a.ins, a.outs, a.hids, a.steps⟩ := by
  have hg := grownBy_trans (grown_set w A 0 (.int .i64 s)) (grown_set (w.setCell ⟨A, 0, none⟩ (.int .i64 s)) A 1 (.int .i64 i))
  have hlt := h.lt
  have hne : ∀ v k, (base ≤ k ∧ k < w.heap.size) → v = some k → some k ≠ some A := fun v k hk _ e => by have := Option.some.inj e; omega
  have hv := (h.var.set 0 (.int .i64 s)).set 1 (.int .i64 i)
  refine Box.read ⟨h.lt, Nat.le_trans h.size hg.size, hv, ?_, ?_, ?_, ?_, h.p2, h.p3, h.p4⟩
  · exact h.o2.keep hg (fun k hk => hne _ k (h.o2.lt k hk) hk)
  · exact h.o3.keep hg (fun k hk => hne _ k (h.o3.lt k hk) hk)
  · exact h.o4.keep hg (fun k hk => hne _ k (h.o4.lt k hk) hk)
  · exact h.o5.keep hg (fun k hk => hne _ k (h.o5.lt k hk) hk)

/-- What came up later lies apart from what lay there. -/
theorem later_apart {W W' : World} {base n m : Nat} {x v : Value} {xs ys : List Int} (ho : Owns W base x n xs) (hv : Owns W' W.heap.size v m ys) : ∀ b, x.ownBlock = some b → v.ownBlock ≠ some b := fun b hb e => by
  have := (ho.lt b hb).2
  have := (hv.lt b e).1
  omega
theorem later_apartS {W W' : World} {base n m : Nat} {x v : Value} {xs : List St} {ys : List Int} (ho : OwnsS 47 W base x n xs) (hv : Owns W' W.heap.size v m ys) : ∀ b, v.ownBlock = some b → x.ownBlock ≠ some b := fun b hb e => by
  have := (ho.lt b e).2
  have := (hv.lt b hb).1
  omega

theorem Box.ins {v : Value} {n : Nat} {xs : List Int} (h : Box w A base a x2 x3 x4 x5) (hb : Below w.heap.size w w') (hv : Owns w' w.heap.size v n xs) : ReadBox (w'.setCell ⟨A, 2, none⟩ v) A base ⟨a.states, a.init, xs, a.outs, a.hids, a.steps⟩ := by
  have hg := grown_set w' A 2 v
  have h' := h.below hb
  have hlt := h.lt
  have hvl := hv.length
  subst hvl
  have hne : ∀ k, base ≤ k → some k ≠ some A := fun k hk e => by have := Option.some.inj e; omega
  have hvb : Owns w' base v xs.length xs := hv.mono h.size
  refine Box.read ⟨h.lt, Nat.le_trans h'.size hg.size, h'.var.set 2 v, hvb.keep hg (fun k hk => hne k (hvb.lt k hk).1), ?_, ?_, ?_, ?_, h.p3, h.p4⟩
  · exact h'.o3.keep hg (fun k hk => hne k (h'.o3.lt k hk).1)
  · exact h'.o4.keep hg (fun k hk => hne k (h'.o4.lt k hk).1)
  · exact h'.o5.keep hg (fun k hk => hne k (h'.o5.lt k hk).1)
  · exact fun b hb2 => ⟨fun e => later_apart h.o3 hv b e hb2, fun e => later_apart h.o4 hv b e hb2, later_apartS h.o5 hv b hb2⟩

theorem Box.outs {v : Value} {n : Nat} {xs : List Int} (h : Box w A base a x2 x3 x4 x5) (hb : Below w.heap.size w w') (hv : Owns w' w.heap.size v n xs) : ReadBox (w'.setCell ⟨A, 3, none⟩ v) A base ⟨a.states, a.init, a.ins, xs, a.hids, a.steps⟩ := by
  have hg := grown_set w' A 3 v
  have h' := h.below hb
  have hlt := h.lt
  have hvl := hv.length
  subst hvl
  have hne : ∀ k, base ≤ k → some k ≠ some A := fun k hk e => by have := Option.some.inj e; omega
  have hvb : Owns w' base v xs.length xs := hv.mono h.size
  refine Box.read ⟨h.lt, Nat.le_trans h'.size hg.size, h'.var.set 3 v, ?_, hvb.keep hg (fun k hk => hne k (hvb.lt k hk).1), ?_, ?_, ?_, ?_, h.p4⟩
  · exact h'.o2.keep hg (fun k hk => hne k (h'.o2.lt k hk).1)
  · exact h'.o4.keep hg (fun k hk => hne k (h'.o4.lt k hk).1)
  · exact h'.o5.keep hg (fun k hk => hne k (h'.o5.lt k hk).1)
  · exact fun b hb2 => ⟨later_apart h.o2 hv b hb2, (h.p2 b hb2).2⟩
  · exact fun b hb2 => ⟨fun e => later_apart h.o4 hv b e hb2, later_apartS h.o5 hv b hb2⟩

theorem Box.hids {v : Value} {n : Nat} {xs : List Int} (h : Box w A base a x2 x3 x4 x5) (hb : Below w.heap.size w w') (hv : Owns w' w.heap.size v n xs) : ReadBox (w'.setCell ⟨A, 4, none⟩ v) A base ⟨a.states, a.init, a.ins, a.outs, xs, a.steps⟩ := by
  have hg := grown_set w' A 4 v
  have h' := h.below hb
  have hlt := h.lt
  have hvl := hv.length
  subst hvl
  have hne : ∀ k, base ≤ k → some k ≠ some A := fun k hk e => by have := Option.some.inj e; omega
  have hvb : Owns w' base v xs.length xs := hv.mono h.size
  refine Box.read ⟨h.lt, Nat.le_trans h'.size hg.size, h'.var.set 4 v, ?_, ?_, hvb.keep hg (fun k hk => hne k (hvb.lt k hk).1), ?_, ?_, ?_, ?_⟩
  · exact h'.o2.keep hg (fun k hk => hne k (h'.o2.lt k hk).1)
  · exact h'.o3.keep hg (fun k hk => hne k (h'.o3.lt k hk).1)
  · exact h'.o5.keep hg (fun k hk => hne k (h'.o5.lt k hk).1)
  · exact fun b hb2 => ⟨(h.p2 b hb2).1, later_apart h.o2 hv b hb2, (h.p2 b hb2).2.2⟩
  · exact fun b hb2 => ⟨later_apart h.o3 hv b hb2, (h.p3 b hb2).2⟩
  · exact fun b hb2 => later_apartS h.o5 hv b hb2

/-- The steps have grown: they lie where they lay, or in the newest block. -/
theorem Box.steps {W : World} {v : Value} {ss : List St} (h : Box w A base a x2 x3 x4 x5) (hg : w.grownBy W x5.ownBlock) (hv : OwnsS 47 W base v ss.length ss) (hl : v.ownBlock = x5.ownBlock ∨ ∀ b, v.ownBlock = some b → w.heap.size ≤ b) :
    ReadBox (W.setCell ⟨A, 5, none⟩ v) A base ⟨a.states, a.init, a.ins, a.outs, a.hids, ss⟩ := by
  have hg2 := grown_set W A 5 v
  have hlt := h.lt
  have hne : ∀ k, base ≤ k → some k ≠ some A := fun k hk e => by have := Option.some.inj e; omega
  have o2 := h.o2.grownAny hg (fun b hb e => (h.p2 b e).2.2 hb)
  have o3 := h.o3.grownAny hg (fun b hb e => (h.p3 b e).2 hb)
  have o4 := h.o4.grownAny hg (fun b hb e => h.p4 b e hb)
  have hvar : VarIs W A #[.int .i64 a.states, .int .i64 a.init, x2, x3, x4, x5] 27 := h.var.grown hg (fun e => by
    have := (h.o5.lt A e.symm).1
    omega)
  have hap : ∀ (x : Value) (n : Nat) (xs : List Int), Owns w base x n xs → (∀ b, x.ownBlock = some b → x5.ownBlock ≠ some b) → ∀ b, x.ownBlock = some b → v.ownBlock ≠ some b := fun x n xs ho hp b hb e => by
    rcases hl with hl | hl
    · rw [hl] at e; exact hp b hb e
    · have := hl b e
      have := (ho.lt b hb).2
      omega
  refine Box.read ⟨h.lt, Nat.le_trans h.size (Nat.le_trans hg.size hg2.size), hvar.set 5 v, ?_, ?_, ?_, ?_, ?_, ?_, ?_⟩
  · exact o2.keep hg2 (fun k hk => hne k (o2.lt k hk).1)
  · exact o3.keep hg2 (fun k hk => hne k (o3.lt k hk).1)
  · exact o4.keep hg2 (fun k hk => hne k (o4.lt k hk).1)
  · exact hv.keep hg2 (fun k hk => hne k (hv.lt k hk).1)
  · exact fun b hb => ⟨(h.p2 b hb).1, (h.p2 b hb).2.1, hap _ _ _ h.o2 (fun b hb => (h.p2 b hb).2.2) b hb⟩
  · exact fun b hb => ⟨(h.p3 b hb).1, hap _ _ _ h.o3 (fun b hb => (h.p3 b hb).2) b hb⟩
  · exact fun b hb => hap _ _ _ h.o4 h.p4 b hb

end

/-- All that lay in 'w1' stands, but for the variable 'A'. -/
def Far (w1 w : World) (A : Nat) : Prop := w1.grownBy w (some A)

theorem Far.refl (w : World) (A : Nat) : Far w w A := ⟨rfl, rfl, rfl, Nat.le_refl _, fun _ _ _ => rfl⟩

theorem Far.grown {w1 w w' : World} {A : Nat} {r : Option Nat} (h : Far w1 w A) (hg : w.grownBy w' r) (hr : ∀ g, r = some g → g = A ∨ w1.heap.size ≤ g) : Far w1 w' A :=
  ⟨hg.os.trans h.os, hg.tape.trans h.tape, hg.output.trans h.output, Nat.le_trans h.size hg.size, fun i hi hne => (hg.block i (Nat.lt_of_lt_of_le hi h.size) (fun e => by
    rcases hr i e.symm with rfl | hr
    · exact hne rfl
    · omega)).trans (h.block i hi hne)⟩

theorem Far.set {w1 w : World} {A : Nat} (h : Far w1 w A) (j : Nat) (u : Value) : Far w1 (w.setCell ⟨A, j, none⟩ u) A := h.grown (grown_set w A j u) (fun g hg => Or.inl (by simpa using hg.symm))

theorem Far.below {w1 w w' : World} {A : Nat} (h : Far w1 w A) (hb : Below w.heap.size w w') : Far w1 w' A :=
  ⟨hb.os.trans h.os, hb.tape.trans h.tape, hb.output.trans h.output, Nat.le_trans h.size hb.size, fun i hi hne => (hb.block i (Nat.lt_of_lt_of_le hi h.size)).trans (h.block i hi hne)⟩

theorem Far.varIs {w1 w : World} {A b : Nat} {C : Array Value} {t : TypeId} (h : Far w1 w A) (hv : VarIs w1 b C t) (hb : b ≠ A) : VarIs w b C t := (h.block b hv.lt (fun e => hb (Option.some.inj e))).trans hv

theorem Far.low {B : Nat} {w0 w1 w : World} {A : Nat} (h : Far w1 w A) (hb : Below B w0 w1) (hB : B ≤ w1.heap.size) (hA : B ≤ A) : Below B w0 w := hb.grown h hB (fun k hk => by cases hk; exact hA)

end Go.Proofs.YtfhjhfhfbgddeaaGreatDoor
