/-
  Two automata in boxes, and the functions of chapter 5 as functions of lists: who fits, what is shared. Conditions: as each statement says; nothing here speaks of the program.
-/
import Derived.Test.YtdbgjgeglgipiaaGreatActs
import Derived.Test.YtdbgjgeglgipiaaGreatIaRise
import Derived.Test.YtdbgjgeglgipiaaGreatRegion
namespace Go.Proofs.YtdbgjgeglgipiaaGreat
open Go.RowKit

/-- An automaton of lists that are not too long. -/
def Small (a : IaD) : Prop := a.ins.length ≤ 1048576 ∧ a.outs.length ≤ 1048576 ∧ a.hids.length ≤ 1048576 ∧ a.steps.length ≤ 1048576

/-- The six cells of an automaton. -/
def iaC (st it : Int) (a2 : Option Addr) (n2 c2 : Nat) (a3 : Option Addr) (n3 c3 : Nat) (a4 : Option Addr) (n4 c4 : Nat) (a5 : Option Addr) (n5 c5 : Nat) : Array Value :=
  #[.int .i64 st, .int .i64 it, .slice a2 n2 c2, .slice a3 n3 c3, .slice a4 n4 c4, .slice a5 n5 c5]

/-- Two variables stand as they stood, and all that lay there. -/
def Box2 (w W : World) (p q : Nat) (t : TypeId) (A B : Array Value) : Prop := Below w.heap.size w W ∧ VarIs W p A t ∧ VarIs W q B t

theorem Box2.below {w W W' : World} {p q : Nat} {t : TypeId} {A B : Array Value} (h : Box2 w W p q t A B) (hb : Below W.heap.size W W') : Box2 w W' p q t A B := ⟨h.1.trans (hb.mono h.1.size), h.2.1.below hb, h.2.2.below hb⟩
theorem Box2.drew {w W : World} {p q : Nat} {t : TypeId} {A B : Array Value} (h : Box2 w W p q t A B) : Box2 w W.drew p q t A B := ⟨h.1.drew, h.2.1, h.2.2⟩
theorem Box2.alloc {w W : World} {p q : Nat} {t : TypeId} {A B : Array Value} (h : Box2 w W p q t A B) (o : Obj) : Box2 w (W.alloc o) p q t A B := ⟨h.1.alloc h.1.size _, h.2.1.alloc o, h.2.2.alloc o⟩
theorem Box2.start (w : World) (A B : Array Value) (t : TypeId) : Box2 w ((w.alloc (.cells A t)).alloc (.cells B t)) w.heap.size (w.heap.size + 1) t A B :=
  ⟨((Below.refl _ _).alloc (Nat.le_refl _) _).alloc (by simp) _, (VarIs.new w A t rfl).alloc _, VarIs.new _ B t (by simp)⟩

/-- No action is in Ins of both, in Outs of both, in Hids of one and any of the other. -/
def fitActs (a b : IaD) : Bool := decide ((meetOf a.ins b.ins).length = 0) && decide ((meetOf a.outs b.outs).length = 0) && decide ((meetOf a.hids (actsOf b)).length = 0) && decide ((meetOf b.hids (actsOf a)).length = 0)

def fitB (a b : IaD) : Bool := iaOkB a && iaOkB b && fitActs a b && decide (a.states * b.states ≤ 40)

/-- The actions that are in Ins of one and Outs of the other. -/
def shOf (a b : IaD) : List Int := joinOf (meetOf a.ins b.outs) (meetOf a.outs b.ins)

def sharedOf (a b : IaD) : List Int := if fitB a b then shOf a b else []

theorem mul_low {x y : Int} (h1 : 1 ≤ x ∧ x ≤ 40) (h2 : 1 ≤ y ∧ y ≤ 40) : 1 ≤ x * y ∧ x * y ≤ 1600 := by
  have a1 : 1 * 1 ≤ x * y := Int.mul_le_mul h1.1 h2.1 (by omega) (by omega)
  have a2 : x * y ≤ 40 * 40 := Int.mul_le_mul h1.2 h2.2 (by omega) (by omega)
  omega

theorem actsOf_len (a : IaD) : (actsOf a).length ≤ a.ins.length + a.outs.length + a.hids.length := by
  have h1 := putAll_len a.hids (putAll [] (joinOf a.ins a.outs))
  have h2 := putAll_len (joinOf a.ins a.outs) []
  have h3 := putAll_len a.outs (putAll [] a.ins)
  have h4 := putAll_len a.ins []
  have e1 : (actsOf a).length = (putAll (putAll [] (joinOf a.ins a.outs)) a.hids).length := rfl
  have e2 : (joinOf a.ins a.outs).length = (putAll (putAll [] a.ins) a.outs).length := rfl
  simp only [List.length_nil] at h2 h4
  omega

theorem lessOf_len (xs ys : List Int) : (lessOf xs ys).length ≤ xs.length := by
  have h1 := putAll_len (xs.filter fun x => !decide (x ∈ ys)) []
  have h2 := List.length_filter_le (fun x => !decide (x ∈ ys)) xs
  simp only [List.length_nil, Nat.zero_add] at h1
  exact Nat.le_trans h1 h2

theorem sh_len (a b : IaD) : (shOf a b).length ≤ a.ins.length + a.outs.length := by
  have h1 := join_len (meetOf a.ins b.outs) (meetOf a.outs b.ins)
  have h2 := meet_len a.ins b.outs
  have h3 := meet_len a.outs b.ins
  unfold shOf
  omega

end Go.Proofs.YtdbgjgeglgipiaaGreat
