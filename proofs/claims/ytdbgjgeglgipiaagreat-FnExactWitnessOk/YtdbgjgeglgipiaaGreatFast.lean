import Derived.Test.YtdbgjgeglgipiaaGreatRegion
import Derived.BigRegion
import Derived.Test.YtdbgjgeglgipiaaGreatIaLaw
import Derived.Test.YtdbgjgeglgipiaaGreatJoin2
import Derived.Test.YtdbgjgeglgipiaaGreatTwoLaw
/-
  A region that draws its order, in a large frame: the laws by which an operation is taken first, in forms that leave the writing of the slot to the kit's programs and read the operands ahead of the operation. Conditions: as each statement says; nothing here speaks of the program.
-/
namespace Go.Proofs.YtdbgjgeglgipiaaGreat
open Go

section
variable {P : Program} {md : Region.Mode} {ops : Array Oper} {Q : Exit → Act → World → Prop} {S : World → Prop}

/-- Which of n operations have come, as the bits of a number. -/
def tf (s n : Nat) : Array Bool := ((List.range n).map fun i => s.testBit i).toArray

/-- The beginning of a region: none has come. -/
theorem wp_region_tf {id : Nat} {a : Act} {w : World} (n : Nat) (hn : ops.size = n) (hl : Array.replicate n false = tf 0 n) (hm : P.follows .mixedOrders = true) (hS : S w.drew) (h : S w.drew → wpAnyH P .any ops Q S n (tf 0 n) a w.drew) : (Code.region id ops true).wp P Q a w :=
  wp_region_held_drew hm hS (fun hs => by
    have h1 := h hs
    rw [← hl] at h1
    subst hn
    exact h1)

/-- A slot is written by an operation of its own. -/
theorem put_by {d : Nat} {v : Value} {a : Act} {w : World} {K : Act → World → Prop}
    (h : Oper.wp P { dst := some d, op := .assign (.const v), type := 0, pos := "", after := #[], guard := none } a w K Q) : K (a.put (some d) v) w := by
  unfold Oper.wp execOp at h
  exact h

theorem fast1 (i d : Nat) (v : Value) (x : Operand) (xv : Value) {oi : Oper} {fuel : Nat} {listed : Array Bool} {a : Act} {w : World} (hi : ops[i]? = some oi) (hd : oi.dst = some d)
    (hs : Region.noSelect ops = true) (hf : Region.free md ops listed i = true) (hr : (Region.ready md ops listed).contains i = true)
    (hQ : ∀ c a w, Q (.panic c) (a.put (some d) v) w → Q (.panic c) a w) (hw : Region.wanted oi (yielded ops a.tmps) = true) (hx : a.eval x = xv)
    (hy : ∀ ρ : Operand → Value, ρ x = xv → (∀ x, ρ (.const x) = x) → ∀ w, S w → (execOp ρ oi).run P w = .ok (.value v) w) (hS : S w)
    (l' : Array Bool) (hl : listed.setIfInBounds i true = l') (h : ∀ K : Act → World → Prop, Shut (∀ a', wpAnyH P md ops Q S fuel l' a' w → K a' w) → Oper.wp P { dst := some d, op := .assign (.const v), type := 0, pos := "", after := #[], guard := none } a w K Q) : wpAnyH P md ops Q S (fuel + 1) listed a w :=
  take_op i d v hi hd hs hf hr hQ hw (fun w' h' => hy a.eval hx (fun _ => rfl) w' h') hS (by subst hl; exact put_by (h (fun a w => wpAnyH P md ops Q S fuel (listed.setIfInBounds i true) a w) (fun _ h => h)))

theorem fast2 (i d : Nat) (v : Value) (x : Operand) (xv : Value) (y : Operand) (yv : Value) {oi : Oper} {fuel : Nat} {listed : Array Bool} {a : Act} {w : World} (hi : ops[i]? = some oi) (hd : oi.dst = some d)
    (hs : Region.noSelect ops = true) (hf : Region.free md ops listed i = true) (hr : (Region.ready md ops listed).contains i = true)
    (hQ : ∀ c a w, Q (.panic c) (a.put (some d) v) w → Q (.panic c) a w) (hw : Region.wanted oi (yielded ops a.tmps) = true) (hx : a.eval x = xv) (hy' : a.eval y = yv)
    (hy : ∀ ρ : Operand → Value, ρ x = xv → ρ y = yv → (∀ x, ρ (.const x) = x) → ∀ w, S w → (execOp ρ oi).run P w = .ok (.value v) w) (hS : S w)
    (l' : Array Bool) (hl : listed.setIfInBounds i true = l') (h : ∀ K : Act → World → Prop, Shut (∀ a', wpAnyH P md ops Q S fuel l' a' w → K a' w) → Oper.wp P { dst := some d, op := .assign (.const v), type := 0, pos := "", after := #[], guard := none } a w K Q) : wpAnyH P md ops Q S (fuel + 1) listed a w :=
  take_op i d v hi hd hs hf hr hQ hw (fun w' h' => hy a.eval hx hy' (fun _ => rfl) w' h') hS (by subst hl; exact put_by (h (fun a w => wpAnyH P md ops Q S fuel (listed.setIfInBounds i true) a w) (fun _ h => h)))

/-- Any number of operands: the frame's reading is handed on as it is, its slots by facts. -/
theorem fastE (i d : Nat) (v : Value) {oi : Oper} {fuel : Nat} {listed : Array Bool} {a : Act} {w : World} (F : (Operand → Value) → Prop) (hi : ops[i]? = some oi) (hd : oi.dst = some d)
    (hs : Region.noSelect ops = true) (hf : Region.free md ops listed i = true) (hr : (Region.ready md ops listed).contains i = true)
    (hQ : ∀ c a w, Q (.panic c) (a.put (some d) v) w → Q (.panic c) a w) (hw : Region.wanted oi (yielded ops a.tmps) = true) (hF : F a.eval)
    (hy : ∀ ρ : Operand → Value, F ρ → (∀ x, ρ (.const x) = x) → ∀ w, S w → (execOp ρ oi).run P w = .ok (.value v) w) (hS : S w)
    (l' : Array Bool) (hl : listed.setIfInBounds i true = l') (h : ∀ K : Act → World → Prop, Shut (∀ a', wpAnyH P md ops Q S fuel l' a' w → K a' w) → Oper.wp P { dst := some d, op := .assign (.const v), type := 0, pos := "", after := #[], guard := none } a w K Q) : wpAnyH P md ops Q S (fuel + 1) listed a w :=
  take_op i d v hi hd hs hf hr hQ hw (fun w' h' => hy a.eval hF (fun _ => rfl) w' h') hS (by subst hl; exact put_by (h (fun a w => wpAnyH P md ops Q S fuel (listed.setIfInBounds i true) a w) (fun _ h => h)))

theorem fast_move (i d : Nat) (v : Value) (x : Operand) {oi : Oper} {fuel : Nat} {listed : Array Bool} {a : Act} {w : World} (hi : ops[i]? = some oi) (hd : oi.dst = some d)
    (hs : Region.noSelect ops = true) (hf : Region.free md ops listed i = true) (hr : (Region.ready md ops listed).contains i = true)
    (hQ : ∀ c a w, Q (.panic c) (a.put (some d) v) w → Q (.panic c) a w) (hw : Region.wanted oi (yielded ops a.tmps) = true) (hx : a.eval x = v)
    (ho : oi.op = .move x ∨ oi.op = .assign x) (hS : S w)
    (l' : Array Bool) (hl : listed.setIfInBounds i true = l') (h : ∀ K : Act → World → Prop, Shut (∀ a', wpAnyH P md ops Q S fuel l' a' w → K a' w) → Oper.wp P { dst := some d, op := .assign (.const v), type := 0, pos := "", after := #[], guard := none } a w K Q) : wpAnyH P md ops Q S (fuel + 1) listed a w :=
  take_op i d v hi hd hs hf hr hQ hw (fun w' h' => by
    rcases ho with ho | ho
    · rw [BigFrame.run_move x ho, hx]
    · rw [BigFrame.run_assign x ho, hx]) hS (by subst hl; exact put_by (h (fun a w => wpAnyH P md ops Q S fuel (listed.setIfInBounds i true) a w) (fun _ h => h)))

theorem fast_yields (i d : Nat) (v : Value) {oi : Oper} {fuel : Nat} {listed : Array Bool} {a : Act} {w : World} (hi : ops[i]? = some oi) (hd : oi.dst = some d)
    (hs : Region.noSelect ops = true) (hf : Region.free md ops listed i = true) (hr : (Region.ready md ops listed).contains i = true)
    (hQ : ∀ c a w, Q (.panic c) (a.put (some d) v) w → Q (.panic c) a w) (hy : YieldsIf P ops S oi v a) (hS : S w)
    (l' : Array Bool) (hl : listed.setIfInBounds i true = l') (h : ∀ K : Act → World → Prop, Shut (∀ a', wpAnyH P md ops Q S fuel l' a' w → K a' w) → Oper.wp P { dst := some d, op := .assign (.const v), type := 0, pos := "", after := #[], guard := none } a w K Q) : wpAnyH P md ops Q S (fuel + 1) listed a w :=
  take_yields i d v hi hd hs hf hr hQ hy hS (by subst hl; exact put_by (h (fun a w => wpAnyH P md ops Q S fuel (listed.setIfInBounds i true) a w) (fun _ h => h)))

theorem fast_skip (i d : Nat) {oi : Oper} {fuel : Nat} {listed : Array Bool} {a : Act} {w : World} (hi : ops[i]? = some oi) (hd : oi.dst = some d)
    (hs : Region.noSelect ops = true) (hf : Region.free md ops listed i = true) (hr : (Region.ready md ops listed).contains i = true)
    (hQ : ∀ c a w, Q (.panic c) (a.put (some d) undef) w → Q (.panic c) a w) (hw : Region.wanted oi (yielded ops a.tmps) = false) (hS : S w)
    (l' : Array Bool) (hl : listed.setIfInBounds i true = l') (h : ∀ K : Act → World → Prop, Shut (∀ a', wpAnyH P md ops Q S fuel l' a' w → K a' w) → Oper.wp P { dst := some d, op := .assign (.const undef), type := 0, pos := "", after := #[], guard := none } a w K Q) : wpAnyH P md ops Q S (fuel + 1) listed a w :=
  skip_op i d hi hd hs hf hr hQ hw hS (by subst hl; exact put_by (h (fun a w => wpAnyH P md ops Q S fuel (listed.setIfInBounds i true) a w) (fun _ h => h)))

/-- An operation that is wanted, among those that may come next: to be run by the kit's step. -/
theorem ready_want {fuel : Nat} {listed : Array Bool} {a : Act} {w : World} {i : Nat} {o : Oper} {rs : List Nat} (ho : ops[i]? = some o) (hw : Region.wanted o (yielded ops a.tmps) = true)
    (l' : Array Bool) (hl : listed.setIfInBounds i true = l') (h : ∀ K' : Act → World → Prop, Shut (∀ a w, S w → (S w → wpAnyH P md ops Q S fuel l' a w) → K' a w) → Oper.wp P o a w K' Q)
    (hs : AllReadyH P md ops Q S fuel listed a w rs) : AllReadyH P md ops Q S fuel listed a w (i :: rs) :=
  AllReadyH.cons ho (fun K hK => by rw [if_pos hw]; subst hl; exact h K hK) hs

end

end Go.Proofs.YtdbgjgeglgipiaaGreat

/-
  An automaton whose lists lie at a place or above it; an own automaton beside a box. Conditions: as each statement says; nothing here speaks of the program.
-/
namespace Go.Proofs.YtdbgjgeglgipiaaGreat
open Go.RowKit

/-- An automaton whose lists lie at 'base' or above. -/
def IaHigh (w : World) (base : Nat) (a : IaD) (v : Value) : Prop :=
  ∃ x2 x3 x4 x5 : Value, v = .agg #[.int .i64 a.states, .int .i64 a.init, x2, x3, x4, x5] ∧ Owns w base x2 a.ins.length a.ins ∧ Owns w base x3 a.outs.length a.outs ∧ Owns w base x4 a.hids.length a.hids ∧ OwnsS 48 w base x5 a.steps.length a.steps

theorem high_none (w : World) (base : Nat) : IaHigh w base noIa (.agg #[.int .i64 0, .int .i64 0, .slice none 0 0, .slice none 0 0, .slice none 0 0, .slice none 0 0]) :=
  ⟨_, _, _, _, rfl, World.ownsRow_nil _ _ _ _, World.ownsRow_nil _ _ _ _, World.ownsRow_nil _ _ _ _, World.ownsRow_nil _ _ _ _⟩

theorem IaHigh.rowOf {w : World} {base : Nat} {a : IaD} {v : Value} (h : IaHigh w base a v) : ∃ (a2 : Option Addr) (c2 : Nat) (a3 : Option Addr) (c3 : Nat) (a4 : Option Addr) (c4 : Nat) (a5 : Option Addr) (c5 : Nat), v = .agg #[.int .i64 a.states, .int .i64 a.init, .slice a2 a.ins.length c2, .slice a3 a.outs.length c3, .slice a4 a.hids.length c4, .slice a5 a.steps.length c5] ∧ IaRow w a v := by
  obtain ⟨x2, x3, x4, x5, rfl, o2, o3, o4, o5⟩ := h
  obtain ⟨b2, d2, rfl⟩ := o2.form
  obtain ⟨b3, d3, rfl⟩ := o3.form
  obtain ⟨b4, d4, rfl⟩ := o4.form
  obtain ⟨b5, d5, rfl⟩ := o5.form
  exact ⟨b2, d2, b3, d3, b4, d4, b5, d5, rfl, _, _, _, _, _, _, _, _, _, _, _, _, rfl, o2.row.2.2.2, o3.row.2.2.2, o4.row.2.2.2, o5.row.2.2.2⟩

theorem IaOwn.apart {w : World} {base b : Nat} {a : IaD} {v : Value} (h : IaOwn w base a v) (hb : w.heap.size ≤ b) : ∀ y0 y1 y2 y3 y4 y5 : Value, v = .agg #[y0, y1, y2, y3, y4, y5] → y2.ownBlock ≠ some b ∧ y3.ownBlock ≠ some b ∧ y4.ownBlock ≠ some b ∧ y5.ownBlock ≠ some b := by
  obtain ⟨x2, x3, x4, x5, rfl, o2, o3, o4, o5, p⟩ := h
  intro y0 y1 y2 y3 y4 y5 e
  obtain ⟨rfl, rfl, rfl, rfl, rfl, rfl⟩ : Value.int .i64 a.states = y0 ∧ Value.int .i64 a.init = y1 ∧ x2 = y2 ∧ x3 = y3 ∧ x4 = y4 ∧ x5 = y5 := by simpa using e
  exact ⟨fun h => by have := (o2.lt _ h).2; omega, fun h => by have := (o3.lt _ h).2; omega, fun h => by have := (o4.lt _ h).2; omega, fun h => by have := (o5.lt _ h).2; omega⟩

theorem IaHigh.rowIa {w : World} {base : Nat} {a : IaD} {v : Value} (h : IaHigh w base a v) : IaRow w a v := by
  obtain ⟨_, _, _, _, _, _, _, _, _, hr⟩ := h.rowOf
  exact hr

theorem IaHigh.below {w w' : World} {base : Nat} {a : IaD} {v : Value} (h : IaHigh w base a v) (hb : Below w.heap.size w w') : IaHigh w' base a v := by
  obtain ⟨x2, x3, x4, x5, e, o2, o3, o4, o5⟩ := h
  exact ⟨x2, x3, x4, x5, e, o2.below hb, o3.below hb, o4.below hb, o5.below hb⟩

theorem IaHigh.mono {w : World} {base base' : Nat} {a : IaD} {v : Value} (h : IaHigh w base' a v) (hb : base ≤ base') : IaHigh w base a v := by
  obtain ⟨x2, x3, x4, x5, e, o2, o3, o4, o5⟩ := h
  exact ⟨x2, x3, x4, x5, e, o2.mono hb, o3.mono hb, o4.mono hb, o5.mono hb⟩

theorem IaOwn.high {w : World} {base : Nat} {a : IaD} {v : Value} (h : IaOwn w base a v) : IaHigh w base a v := by
  obtain ⟨x2, x3, x4, x5, e, o2, o3, o4, o5, _⟩ := h
  exact ⟨x2, x3, x4, x5, e, o2, o3, o4, o5⟩

theorem IaHigh.keepVar {W W' : World} {base b : Nat} {a : IaD} {v : Value} {E : Array Value} (h : IaHigh W base a v) (hv : VarIs W b E 31) (hg : W.grownBy W' (some b)) : IaHigh W' base a v := by
  obtain ⟨x2, x3, x4, x5, e, o2, o3, o4, o5⟩ := h
  exact ⟨x2, x3, x4, x5, e, o2.keepVar hv (by decide) hg, o3.keepVar hv (by decide) hg, o4.keepVar hv (by decide) hg, o5.keep hg (fun k hk he => own_var o5 hv (by decide) (hk.trans he))⟩

theorem IaOwn.keepVar {W W' : World} {base b : Nat} {a : IaD} {v : Value} {E : Array Value} (h : IaOwn W base a v) (hv : VarIs W b E 31) (hg : W.grownBy W' (some b)) : IaOwn W' base a v := by
  obtain ⟨x2, x3, x4, x5, e, o2, o3, o4, o5, p⟩ := h
  exact ⟨x2, x3, x4, x5, e, o2.keepVar hv (by decide) hg, o3.keepVar hv (by decide) hg, o4.keepVar hv (by decide) hg, o5.keep hg (fun k hk he => own_var o5 hv (by decide) (hk.trans he)), p⟩

end Go.Proofs.YtdbgjgeglgipiaaGreat
