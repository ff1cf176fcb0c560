import Derived.Test.YtnglogkkkpegnaaGreatIaMath
import Derived.Test.YtnglogkkkpegnaaGreatIaSteps
import Derived.Test.YtnglogkkkpegnaaGreatStepRows
import Derived.Test.YtnglogkkkpegnaaGreatSpecStep
namespace Go.Proofs.YtnglogkkkpegnaaGreat
open Go.RowKit
def Ahead (y x:St):Prop:=y.1<x.1∨(y.1=x.1∧(y.2.1<x.2.1∨(y.2.1=x.2.1∧y.2.2<x.2.2)))
theorem xX (y x:St):gm y x<0↔Ahead y x:=by
 obtain ⟨a,b,c⟩:=y
 obtain ⟨a',b',c'⟩:=x
 simp only [gm,Ahead]
 by_cases h1:a=a'
 ·subst h1
  by_cases h2:b=b'
  ·subst h2
   simp;omega
  ·simp [h2];omega
 ·simp [h1];omega
theorem Ahead.trans {x y z:St} (h:Ahead x y) (k:Ahead y z):Ahead x z:=by
 simp only [Ahead] at *
 omega
theorem jD (a:IaD):∀ (ss:List St),stepsB a ss=true→ss.Pairwise Ahead
 | [],_=>List.Pairwise.nil
 | [x],_=>by simp
 | y :: x :: r,h=>by
  simp only [stepsB,Bool.and_eq_true] at h
  have ih:=jD a (x :: r) h.2
  have hyx:Ahead y x:=by
   have:=h.1.2
   simp only [cZ,Bool.and_eq_true,decide_eq_true_eq] at this
   exact (xX y x).1 this.1
  refine List.pairwise_cons.2 ⟨fun z hz=>?_,ih⟩
  rcases List.mem_cons.1 hz with rfl|hz
  ·exact hyx
  ·exact hyx.trans ((List.pairwise_cons.1 ih).1 z hz)
theorem qg {a:IaD} (h:aJ a=true):stepsB a a.steps=true:=by
 simp only [aJ,Bool.and_eq_true] at h
 exact h.2
theorem aN {a:IaD} (h:aJ a=true):1≤a.states∧a.states≤40:=by
 simp only [aJ,Bool.and_eq_true,btw,decide_eq_true_eq] at h
 exact h.1.1.1.1
theorem gV {a:IaD} (h:aJ a=true):0≤a.init∧a.init≤a.states - 1:=by
 simp only [aJ,jH,Bool.and_eq_true,btw,decide_eq_true_eq] at h
 exact h.1.1.1.2
theorem dD {a:IaD} (h:aJ a=true):a.steps.length≤400:=by
 simp only [aJ,sW,Bool.and_eq_true,decide_eq_true_eq] at h
 exact h.1.1.2.2
theorem dH {a:IaD} (h:aJ a=true):∀ x∈a.steps,(0≤x.1∧x.1≤a.states - 1)∧(0≤x.2.2∧x.2.2≤a.states - 1)∧(x.2.1∈a.ins∨x.2.1∈a.outs∨x.2.1∈a.ah):=by
 intro x hx
 have:=jC a a.steps (qg h) x hx
 simp only [bH,jH,btw,Bool.and_eq_true,Bool.or_eq_true,decide_eq_true_eq,hasB] at this
 exact ⟨this.1.1,this.1.2,by rcases this.2 with (h|h)|h <;> simp [h]⟩
theorem zC {a:IaD} (h:aJ a=true):∀ x∈a.steps,0≤x.1∧x.1<40:=by
 intro x hx
 have h1:=(dH h x hx).1
 have h2:=(aN h).2
 omega
theorem DJ {ss:List St} {s:Int} {x:St}:x∈rowL ss s↔x∈ss∧x.1=s:=by simp [rowL]
theorem IB {a:IaD} (h:aJ a=true) (s:Int):(rowL a.steps s).Pairwise (fun y x=>y.2.1<x.2.1∨(y.2.1=x.2.1∧y.2.2<x.2.2)):=by
 have hp:=(jD a a.steps (qg h)).filter (fun x=>decide (x.1=s))
 refine (List.Pairwise.and_mem.1 hp).imp ?_
 intro y x ⟨hy,hx,hyx⟩
 have ey:y.1=s:=by simpa using (List.mem_filter.1 hy).2
 have ex:x.1=s:=by simpa using (List.mem_filter.1 hx).2
 rcases hyx with h|h
 ·omega
 ·exact h.2
def dM (row:List St) (set:List Int):List Int:=(row.filter fun x=>hasB set x.2.1).map fun x=>x.2.1
theorem Ah {a:IaD} (h:aJ a=true) (s:Int) (set:List Int):(dM (rowL a.steps s) set).Pairwise (·≤·):=by
 unfold dM
 rw [List.pairwise_map]
 refine ((IB h s).filter _).imp ?_
 intro y x hyx
 rcases hyx with h|h <;> omega
theorem DK {d:List Int} (h:d.Pairwise (·≤·)):(Lib.compact d).Pairwise (·<·):=(tq h _ (Nat.le_refl _)).1
theorem mem_compact {d:List Int} (h:d.Pairwise (·≤·)) (x:Int):x∈Lib.compact d↔x∈d:=by
 obtain ⟨_,h2,h3⟩:=tq h _ (Nat.le_refl _)
 constructor
 ·intro hx
  obtain ⟨i,hi,e⟩:=h2 x hx
  rw [getElem!_pos _ i (by simpa using hi)] at e
  rw [e]
  simp
 ·intro hx
  obtain ⟨i,hi,e⟩:=List.getElem_of_mem hx
  have:=h3 i hi
  rw [getElem!_pos _ i (by simpa using hi)] at this
  simp only [sI3] at this
  rw [← e];exact this
theorem DL {a:IaD} (h:aJ a=true) (s:Int) (set:List Int):Lib.compact (dM (rowL a.steps s) set)=ofL a.steps s set:=by
 have e:ofL a.steps s set=bW [] (dM (rowL a.steps s) set):=by
  unfold ofL dM rowL
  rw [List.filter_filter]
  congr 3
  funext x
  rw [Bool.and_comm]
 rw [e]
 refine vS (DK (Ah h s set)) (bJ List.Pairwise.nil) (fun x=>?_)
 rw [mem_compact (Ah h s set),gB]
 simp
end Go.Proofs.YtnglogkkkpegnaaGreat
