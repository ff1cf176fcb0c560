import Derived.Test.YtnglogkkkpegnaaGreatSteps
import Derived.Test.YtnglogkkkpegnaaGreatSpecSets
namespace Go.Proofs.YtnglogkkkpegnaaGreat
open Go.RowKit
structure IaD where
  states:Int
  init:Int
  ins:List Int
  outs:List Int
  ah:List Int
  steps:List St
def jH (a:IaD) (s:Int):Bool:=btw s 0 (a.states - 1)
def gm (y x:St):Int:=if ¬ y.1=x.1 then y.1 - x.1 else if ¬ y.2.1=x.2.1 then y.2.1 - x.2.1 else y.2.2 - x.2.2
def bH (a:IaD) (x:St):Bool:=jH a x.1&&jH a x.2.2&&(hasB a.ins x.2.1 || hasB a.outs x.2.1 || hasB a.ah x.2.1)
def cZ (a:IaD) (y x:St):Bool:=decide (gm y x<0)&&!(decide (y.1=x.1)&&decide (y.2.1=x.2.1)&&hasB a.ins x.2.1)
def stepsB (a:IaD):List St→Bool
  | []=>true
  | [x]=>bH a x
  | y :: x :: r=>bH a y&&cZ a y x&&stepsB a (x :: r)
def sW (a:IaD):Bool:=dm a.ins&&dm a.outs&&dm a.ah&&decide (a.steps.length≤400)
def apartB (a:IaD):Bool:=decide ((aU a.ins a.outs).length+(aU a.ins a.ah).length+(aU a.outs a.ah).length=0)
def aJ (a:IaD):Bool:=btw a.states 1 40&&jH a a.init&&sW a&&apartB a&&stepsB a a.steps
def aV (a:IaD):List Int:=aT (aT a.ins a.outs) a.ah
def dh (set:List Int) (ss:List St) (out:List Int):List Int:=ss.foldl (fun o x=>if hasB set x.2.1&&hasB o x.1 then put o x.2.2 else o) out
def alongN (set:List Int) (ss:List St):Nat→List Int→List Int
  | 0,out=>out
  | n+1,out=>if (dh set ss out).length=out.length then dh set ss out else alongN set ss n (dh set ss out)
def kK (set:List Int) (ss:List St) (L:List Int):List Int:=alongN set ss (L.length+ss.length+1) (bW [] L)
def aP (a:IaD):List Int:=kK (aV a) a.steps [a.init]
def placeOf (L:List Int) (x:Int):Int:=if x∈L then (L.idxOf x:Int) else -1
def bK (a:IaD) (keep:List Int):IaD :=
  { states:=keep.length,init:=placeOf keep a.init,ins:=a.ins,outs:=a.outs,ah:=a.ah
    steps:=(a.steps.map fun x=>(placeOf keep x.1,x.2.1,placeOf keep x.2.2)).filter fun x=>decide (0≤x.1)&&decide (0≤x.2.2) }
def ja:IaD:={ states:=0,init:=0,ins:=[],outs:=[],ah:=[],steps:=[] }
def dG (a:IaD):IaD:=if aJ a then bK a (aP a) else ja
end Go.Proofs.YtnglogkkkpegnaaGreat
