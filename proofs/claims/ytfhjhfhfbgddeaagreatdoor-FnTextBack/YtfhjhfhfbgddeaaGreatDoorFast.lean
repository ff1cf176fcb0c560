/-
  A region that draws its order, in a large frame: the laws by which an operation is taken first, in forms that leave the writing of the slot to the kit's programs and read the operands ahead of the operation. Conditions: as each statement says; nothing here speaks of the program.
-/
import Derived.Test.YtfhjhfhfbgddeaaGreatDoorRegion
import Derived.BigRegion
namespace Go.Proofs.YtfhjhfhfbgddeaaGreatDoor
open Go

section
variable {P : Program} {md : Region.Mode} {ops : Array Oper} {Q : Exit → Act → World → Prop} {S : World → Prop}

/-- Which of n operations have come, as the bits of a number. -/
def tf (s n : Nat) : Array Bool := ((List.range n).map fun i => s.testBit i).toArray

/-- The beginning of a region: none has come. -/
theorem wp_region_tf {id : Nat} {a : Act} {w : World} (n : Nat) (hn : ops.size = n) (hl : Array.replicate n false = tf 0 n) (hm : P.follows .mixedOrders = true) (hS : S w.drew) (h : S w.drew → wpAnyH P .any ops Q S n (tf 0 n) a w.drew) : (Code.region id ops true).wp P Q a w :=
  wp_region_held_drew hm hS (fun hs => by
    have h1 := h hs
    rw [← hl] at h1
    subst hn
    exact h1)

/-- A slot is written by an operation of its own. -/
theorem put_by {d : Nat} {v : Value} {a : Act} {w : World} {K : Act → World → Prop}
    (h : Oper.wp P { dst := some d, op := .assign (.const v), type := 0, pos := "", after := #[], guard := none } a w K Q) : K (a.put (some d) v) w := by
  unfold Oper.wp execOp at h
  exact h

theorem fast0 (i d : Nat) (v : Value) {oi : Oper} {fuel : Nat} {listed : Array Bool} {a : Act} {w : World} (hi : ops[i]? = some oi) (hd : oi.dst = some d)
    (hs : Region.noSelect ops = true) (hf : Region.free md ops listed i = true) (hr : (Region.ready md ops listed).contains i = true)
    (hQ : ∀ c a w, Q (.panic c) (a.put (some d) v) w → Q (.panic c) a w) (hw : Region.wanted oi (yielded ops a.tmps) = true)
    (hy : ∀ ρ : Operand → Value, (∀ x, ρ (.const x) = x) → ∀ w, S w → (execOp ρ oi).run P w = .ok (.value v) w) (hS : S w)
    (l' : Array Bool) (hl : listed.setIfInBounds i true = l') (h : ∀ K : Act → World → Prop, Shut (∀ a', wpAnyH P md ops Q S fuel l' a' w → K a' w) → Oper.wp P { dst := some d, op := .assign (.const v), type := 0, pos := "", after := #[], guard := none } a w K Q) : wpAnyH P md ops Q S (fuel + 1) listed a w :=
  take_op i d v hi hd hs hf hr hQ hw (fun w' h' => hy a.eval (fun _ => rfl) w' h') hS (by subst hl; exact put_by (h (fun a w => wpAnyH P md ops Q S fuel (listed.setIfInBounds i true) a w) (fun _ h => h)))

theorem fast1 (i d : Nat) (v : Value) (x : Operand) (xv : Value) {oi : Oper} {fuel : Nat} {listed : Array Bool} {a : Act} {w : World} (hi : ops[i]? = some oi) (hd : oi.dst = some d)
    (hs : Region.noSelect ops = true) (hf : Region.free md ops listed i = true) (hr : (Region.ready md ops listed).contains i = true)
    (hQ : ∀ c a w, Q (.panic c) (a.put (some d) v) w → Q (.panic c) a w) (hw : Region.wanted oi (yielded ops a.tmps) = true) (hx : a.eval x = xv)
    (hy : ∀ ρ : Operand → Value, ρ x = xv → (∀ x, ρ (.const x) = x) → ∀ w, S w → (execOp ρ oi).run P w = .ok (.value v) w) (hS : S w)
    (l' : Array Bool) (hl : listed.setIfInBounds i true = l') (h : ∀ K : Act → World → Prop, Shut (∀ a', wpAnyH P md ops Q S fuel l' a' w → K a' w) → Oper.wp P { dst := some d, op := .assign (.const v), type := 0, pos := "", after := #[], guard := none } a w K Q) : wpAnyH P md ops Q S (fuel + 1) listed a w :=
  take_op i d v hi hd hs hf hr hQ hw (fun w' h' => hy a.eval hx (fun _ => rfl) w' h') hS (by subst hl; exact put_by (h (fun a w => wpAnyH P md ops Q S fuel (listed.setIfInBounds i true) a w) (fun _ h => h)))

theorem fast2 (i d : Nat) (v : Value) (x : Operand) (xv : Value) (y : Operand) (yv : Value) {oi : Oper} {fuel : Nat} {listed : Array Bool} {a : Act} {w : World} (hi : ops[i]? = some oi) (hd : oi.dst = some d)
    (hs : Region.noSelect ops = true) (hf : Region.free md ops listed i = true) (hr : (Region.ready md ops listed).contains i = true)
    (hQ : ∀ c a w, Q (.panic c) (a.put (some d) v) w → Q (.panic c) a w) (hw : Region.wanted oi (yielded ops a.tmps) = true) (hx : a.eval x = xv) (hy' : a.eval y = yv)
    (hy : ∀ ρ : Operand → Value, ρ x = xv → ρ y = yv → (∀ x, ρ (.const x) = x) → ∀ w, S w → (execOp ρ oi).run P w = .ok (.value v) w) (hS : S w)
    (l' : Array Bool) (hl : listed.setIfInBounds i true = l') (h : ∀ K : Act → World → Prop, Shut (∀ a', wpAnyH P md ops Q S fuel l' a' w → K a' w) → Oper.wp P { dst := some d, op := .assign (.const v), type := 0, pos := "", after := #[], guard := none } a w K Q) : wpAnyH P md ops Q S (fuel + 1) listed a w :=
  take_op i d v hi hd hs hf hr hQ hw (fun w' h' => hy a.eval hx hy' (fun _ => rfl) w' h') hS (by subst hl; exact put_by (h (fun a w => wpAnyH P md ops Q S fuel (listed.setIfInBounds i true) a w) (fun _ h => h)))

/-- Any number of operands: the frame's reading is handed on as it is, its slots by facts. -/
theorem fastE (i d : Nat) (v : Value) {oi : Oper} {fuel : Nat} {listed : Array Bool} {a : Act} {w : World} (F : (Operand → Value) → Prop) (hi : ops[i]? = some oi) (hd : oi.dst = some d)
    (hs : Region.noSelect ops = true) (hf : Region.free md ops listed i = true) (hr : (Region.ready md ops listed).contains i = true)
    (hQ : ∀ c a w, Q (.panic c) (a.put (some d) v) w → Q (.panic c) a w) (hw : Region.wanted oi (yielded ops a.tmps) = true) (hF : F a.eval)
    (hy : ∀ ρ : Operand → Value, F ρ → (∀ x, ρ (.const x) = x) → ∀ w, S w → (execOp ρ oi).run P w = .ok (.value v) w) (hS : S w)
    (l' : Array Bool) (hl : listed.setIfInBounds i true = l') (h : ∀ K : Act → World → Prop, Shut (∀ a', wpAnyH P md ops Q S fuel l' a' w → K a' w) → Oper.wp P { dst := some d, op := .assign (.const v), type := 0, pos := "", after := #[], guard := none } a w K Q) : wpAnyH P md ops Q S (fuel + 1) listed a w :=
  take_op i d v hi hd hs hf hr hQ hw (fun w' h' => hy a.eval hF (fun _ => rfl) w' h') hS (by subst hl; exact put_by (h (fun a w => wpAnyH P md ops Q S fuel (listed.setIfInBounds i true) a w) (fun _ h => h)))

theorem fast_move (i d : Nat) (v : Value) (x : Operand) {oi : Oper} {fuel : Nat} {listed : Array Bool} {a : Act} {w : World} (hi : ops[i]? = some oi) (hd : oi.dst = some d)
    (hs : Region.noSelect ops = true) (hf : Region.free md ops listed i = true) (hr : (Region.ready md ops listed).contains i = true)
    (hQ : ∀ c a w, Q (.panic c) (a.put (some d) v) w → Q (.panic c) a w) (hw : Region.wanted oi (yielded ops a.tmps) = true) (hx : a.eval x = v)
    (ho : oi.op = .move x ∨ oi.op = .assign x) (hS : S w)
    (l' : Array Bool) (hl : listed.setIfInBounds i true = l') (h : ∀ K : Act → World → Prop, Shut (∀ a', wpAnyH P md ops Q S fuel l' a' w → K a' w) → Oper.wp P { dst := some d, op := .assign (.const v), type := 0, pos := "", after := #[], guard := none } a w K Q) : wpAnyH P md ops Q S (fuel + 1) listed a w :=
  take_op i d v hi hd hs hf hr hQ hw (fun w' h' => by
    rcases ho with ho | ho
    · rw [BigFrame.run_move x ho, hx]
    · rw [BigFrame.run_assign x ho, hx]) hS (by subst hl; exact put_by (h (fun a w => wpAnyH P md ops Q S fuel (listed.setIfInBounds i true) a w) (fun _ h => h)))

theorem fast_yields (i d : Nat) (v : Value) {oi : Oper} {fuel : Nat} {listed : Array Bool} {a : Act} {w : World} (hi : ops[i]? = some oi) (hd : oi.dst = some d)
    (hs : Region.noSelect ops = true) (hf : Region.free md ops listed i = true) (hr : (Region.ready md ops listed).contains i = true)
    (hQ : ∀ c a w, Q (.panic c) (a.put (some d) v) w → Q (.panic c) a w) (hy : YieldsIf P ops S oi v a) (hS : S w)
    (l' : Array Bool) (hl : listed.setIfInBounds i true = l') (h : ∀ K : Act → World → Prop, Shut (∀ a', wpAnyH P md ops Q S fuel l' a' w → K a' w) → Oper.wp P { dst := some d, op := .assign (.const v), type := 0, pos := "", after := #[], guard := none } a w K Q) : wpAnyH P md ops Q S (fuel + 1) listed a w :=
  take_yields i d v hi hd hs hf hr hQ hy hS (by subst hl; exact put_by (h (fun a w => wpAnyH P md ops Q S fuel (listed.setIfInBounds i true) a w) (fun _ h => h)))

theorem fast_skip (i d : Nat) {oi : Oper} {fuel : Nat} {listed : Array Bool} {a : Act} {w : World} (hi : ops[i]? = some oi) (hd : oi.dst = some d)
    (hs : Region.noSelect ops = true) (hf : Region.free md ops listed i = true) (hr : (Region.ready md ops listed).contains i = true)
    (hQ : ∀ c a w, Q (.panic c) (a.put (some d) undef) w → Q (.panic c) a w) (hw : Region.wanted oi (yielded ops a.tmps) = false) (hS : S w)
    (l' : Array Bool) (hl : listed.setIfInBounds i true = l') (h : ∀ K : Act → World → Prop, Shut (∀ a', wpAnyH P md ops Q S fuel l' a' w → K a' w) → Oper.wp P { dst := some d, op := .assign (.const undef), type := 0, pos := "", after := #[], guard := none } a w K Q) : wpAnyH P md ops Q S (fuel + 1) listed a w :=
  skip_op i d hi hd hs hf hr hQ hw hS (by subst hl; exact put_by (h (fun a w => wpAnyH P md ops Q S fuel (listed.setIfInBounds i true) a w) (fun _ h => h)))

/-- An operation that is wanted, among those that may come next: to be run by the kit's step. -/
theorem ready_want {fuel : Nat} {listed : Array Bool} {a : Act} {w : World} {i : Nat} {o : Oper} {rs : List Nat} (ho : ops[i]? = some o) (hw : Region.wanted o (yielded ops a.tmps) = true)
    (l' : Array Bool) (hl : listed.setIfInBounds i true = l') (h : ∀ K' : Act → World → Prop, Shut (∀ a w, S w → (S w → wpAnyH P md ops Q S fuel l' a w) → K' a w) → Oper.wp P o a w K' Q)
    (hs : AllReadyH P md ops Q S fuel listed a w rs) : AllReadyH P md ops Q S fuel listed a w (i :: rs) :=
  AllReadyH.cons ho (fun K hK => by rw [if_pos hw]; subst hl; exact h K hK) hs

/-- Slots written one after the other. -/
def putsAll (a : Act) : List (Nat × Value) → Act
  | [] => a
  | p :: r => putsAll (a.put (some p.1) p.2) r

/-- What stands behind a region, however its operations came, is asked once: the frame is the one ahead with the region's slots written. -/
theorem join_puts {ι : Type} {n : Nat} {listed : Array Bool} {a : Act} {w : World} (puts : ι → List (Nat × Value)) (Ok : ι → World → Prop) (h2 : ∀ i we, Ok i we → Q .normal (putsAll a (puts i)) we)
    (h1 : Shut (∀ i we a', a' = putsAll a (puts i) → Ok i we → Q .normal a' we) → wpAnyH P md ops Q S n listed a w) : wpAnyH P md ops Q S n listed a w :=
  h1 (fun i we a' e h => by rw [e]; exact h2 i we h)

end

end Go.Proofs.YtfhjhfhfbgddeaaGreatDoor
