/-
  Automata as data: the model's functions of chapter 2 as functions of lists. Conditions: none; nothing here speaks of the program.
-/
import Derived.Test.YtfhjhfhfbgddeaaGreatDoorSteps
import Derived.Test.YtfhjhfhfbgddeaaGreatDoorSpecSets
namespace Go.Proofs.YtfhjhfhfbgddeaaGreatDoor
open Go.RowKit

/-- An automaton. -/
structure IaD where
  states : Int
  init : Int
  ins : List Int
  outs : List Int
  hids : List Int
  steps : List St

def stateB (a : IaD) (s : Int) : Bool := btw s 0 (a.states - 1)

/-- How two steps stand to one another. -/
def cmpOf (y x : St) : Int := if ¬ y.1 = x.1 then y.1 - x.1 else if ¬ y.2.1 = x.2.1 then y.2.1 - x.2.1 else y.2.2 - x.2.2

def goodStepB (a : IaD) (x : St) : Bool := stateB a x.1 && stateB a x.2.2 && (hasB a.ins x.2.1 || hasB a.outs x.2.1 || hasB a.hids x.2.1)

def nextB (a : IaD) (y x : St) : Bool := decide (cmpOf y x < 0) && !(decide (y.1 = x.1) && decide (y.2.1 = x.2.1) && hasB a.ins x.2.1)

/-- Each step is good, and good behind the one ahead of it. -/
def stepsB (a : IaD) : List St → Bool
  | [] => true
  | [x] => goodStepB a x
  | y :: x :: r => goodStepB a y && nextB a y x && stepsB a (x :: r)

def setsB (a : IaD) : Bool := setOkB a.ins && setOkB a.outs && setOkB a.hids && decide (a.steps.length ≤ 400)

def apartB (a : IaD) : Bool := decide ((meetOf a.ins a.outs).length + (meetOf a.ins a.hids).length + (meetOf a.outs a.hids).length = 0)

def iaOkB (a : IaD) : Bool := btw a.states 1 40 && stateB a a.init && setsB a && apartB a && stepsB a a.steps

def actsOf (a : IaD) : List Int := joinOf (joinOf a.ins a.outs) a.hids

/-- The actions of a set with which steps from 's' go. -/
def ofSet (a : IaD) (s : Int) (set : List Int) : List Int := putAll [] ((a.steps.filter fun x => decide (x.1 = s) && hasB set x.2.1).map fun x => x.2.1)

def afterOf (a : IaD) (s act : Int) : List Int := putAll [] ((a.steps.filter fun x => decide (x.1 = s) && decide (x.2.1 = act)).map fun x => x.2.2)

/-- One way through all steps: what they lead to is put to what is known. -/
def passOf (set : List Int) (ss : List St) (out : List Int) : List Int := ss.foldl (fun o x => if hasB set x.2.1 && hasB o x.1 then put o x.2.2 else o) out

/-- Ways through all steps till nothing is new. -/
def alongN (set : List Int) (ss : List St) : Nat → List Int → List Int
  | 0, out => out
  | n + 1, out => if (passOf set ss out).length = out.length then passOf set ss out else alongN set ss n (passOf set ss out)

/-- What may be come to from 'L'. -/
def alongOf (set : List Int) (ss : List St) (L : List Int) : List Int := alongN set ss (L.length + ss.length + 1) (putAll [] L)

def reachedOf (a : IaD) : List Int := alongOf (actsOf a) a.steps [a.init]

/-- The place of a number in a list, or -1. -/
def placeOf (L : List Int) (x : Int) : Int := if x ∈ L then (L.idxOf x : Int) else -1

/-- An automaton with some states alone. -/
def onlyOf (a : IaD) (keep : List Int) : IaD :=
  { states := keep.length, init := placeOf keep a.init, ins := a.ins, outs := a.outs, hids := a.hids
    steps := (a.steps.map fun x => (placeOf keep x.1, x.2.1, placeOf keep x.2.2)).filter fun x => decide (0 ≤ x.1) && decide (0 ≤ x.2.2) }

def noIa : IaD := { states := 0, init := 0, ins := [], outs := [], hids := [], steps := [] }

def trimmedOf (a : IaD) : IaD := if iaOkB a then onlyOf a (reachedOf a) else noIa

end Go.Proofs.YtfhjhfhfbgddeaaGreatDoor
