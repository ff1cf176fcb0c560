import Derived.Test.YtnglogkkkpegnaaGreatRegion
import Derived.BigRegion
import Derived.Test.YtnglogkkkpegnaaGreatStepRows
import Derived.Test.YtnglogkkkpegnaaGreatRowsOf
import Derived.Test.YtnglogkkkpegnaaGreatReachMath
import Derived.Test.YtnglogkkkpegnaaGreatProdMath
import Derived.Test.YtnglogkkkpegnaaGreatStepPut
import Derived.Test.YtnglogkkkpegnaaGreatIaRise
import Derived.Test.YtnglogkkkpegnaaGreatTwo
import Derived.Test.YtnglogkkkpegnaaGreatMarkIa2
import Derived.Test.YtnglogkkkpegnaaGreatProdSorted
import Derived.Test.YtnglogkkkpegnaaGreatStepOf
import Derived.Test.YtnglogkkkpegnaaGreatProdSteps
import Derived.Test.YtnglogkkkpegnaaGreatShared
import Derived.Test.YtnglogkkkpegnaaGreatSpecStep
set_option maxHeartbeats 40000000
set_option maxRecDepth 20000
namespace Go.Proofs.YtnglogkkkpegnaaGreat
open Go
section
variable {P:Program} {md:Region.Mode} {ops:Array Oper} {Q:Exit→Act→World→Prop} {S:World→Prop}
def tf (s n:Nat):Array Bool:=((List.range n).map fun i=>s.testBit i).toArray
theorem fK {id:Nat} {a:Act} {w:World} (n:Nat) (hn:ops.size=n) (hl:Array.replicate n false=tf 0 n) (hm:P.follows .mixedOrders=true) (hS:S w.drew) (h:S w.drew→wpAnyH P .any ops Q S n (tf 0 n) a w.drew):(Code.region id ops true).wp P Q a w :=
 wp_region_held_drew hm hS (fun hs=>by
  have h1:=h hs
  rw [← hl] at h1
  subst hn
  exact h1)
theorem vY {d:Nat} {v:Value} {a:Act} {w:World} {K:Act→World→Prop}
  (h : Oper.wp P { dst := some d, op := .assign (.const v), type := 0, pos := "", after := #[], guard := none } a w K Q) : K (a.put (some d) v) w := by
 unfold Oper.wp execOp at h
 exact h
theorem aZ (i d:Nat) (v:Value) (x:Operand) (xv:Value) {oi:Oper} {fuel:Nat} {listed:Array Bool} {a:Act} {w:World} (hi:ops[i]?=some oi) (hd:oi.dst=some d)
  (hk:(Region.noSelect ops&&Region.free md ops listed i&&(Region.ready md ops listed).contains i)=true)
  (hQ:∀ c a w,Q (.panic c) (a.put (some d) v) w→Q (.panic c) a w) (hw:Region.wanted oi (yielded ops a.tmps)=true) (hx:a.eval x=xv)
  (hy:∀ ρ:Operand→Value,ρ x=xv→(∀ x,ρ (.const x)=x)→∀ w,S w→(execOp ρ oi).run P w=.ok (.value v) w) (hS:S w)
  (l' : Array Bool) (hl : listed.setIfInBounds i true = l') (h : ∀ K : Act → World → Prop, Shut (∀ a', wpAnyH P md ops Q S fuel l' a' w → K a' w) → Oper.wp P { dst := some d, op := .assign (.const v), type := 0, pos := "", after := #[], guard := none } a w K Q) : wpAnyH P md ops Q S (fuel + 1) listed a w :=
 ag i d v hi hd hk hQ hw (fun w' h'=>hy a.eval hx (fun _=>rfl) w' h') hS (by subst hl;exact vY (h (fun a w=>wpAnyH P md ops Q S fuel (listed.setIfInBounds i true) a w) (fun _ h=>h)))
theorem ku (i d:Nat) (v:Value) (x:Operand) (xv:Value) (y:Operand) (yv:Value) {oi:Oper} {fuel:Nat} {listed:Array Bool} {a:Act} {w:World} (hi:ops[i]?=some oi) (hd:oi.dst=some d)
  (hk:(Region.noSelect ops&&Region.free md ops listed i&&(Region.ready md ops listed).contains i)=true)
  (hQ:∀ c a w,Q (.panic c) (a.put (some d) v) w→Q (.panic c) a w) (hw:Region.wanted oi (yielded ops a.tmps)=true) (hx:a.eval x=xv) (hy':a.eval y=yv)
  (hy:∀ ρ:Operand→Value,ρ x=xv→ρ y=yv→(∀ x,ρ (.const x)=x)→∀ w,S w→(execOp ρ oi).run P w=.ok (.value v) w) (hS:S w)
  (l' : Array Bool) (hl : listed.setIfInBounds i true = l') (h : ∀ K : Act → World → Prop, Shut (∀ a', wpAnyH P md ops Q S fuel l' a' w → K a' w) → Oper.wp P { dst := some d, op := .assign (.const v), type := 0, pos := "", after := #[], guard := none } a w K Q) : wpAnyH P md ops Q S (fuel + 1) listed a w :=
 ag i d v hi hd hk hQ hw (fun w' h'=>hy a.eval hx hy' (fun _=>rfl) w' h') hS (by subst hl;exact vY (h (fun a w=>wpAnyH P md ops Q S fuel (listed.setIfInBounds i true) a w) (fun _ h=>h)))
theorem uQ (i d:Nat) (v:Value) {oi:Oper} {fuel:Nat} {listed:Array Bool} {a:Act} {w:World} (F:(Operand→Value)→Prop) (hi:ops[i]?=some oi) (hd:oi.dst=some d)
  (hk:(Region.noSelect ops&&Region.free md ops listed i&&(Region.ready md ops listed).contains i)=true)
  (hQ:∀ c a w,Q (.panic c) (a.put (some d) v) w→Q (.panic c) a w) (hw:Region.wanted oi (yielded ops a.tmps)=true) (hF:F a.eval)
  (hy:∀ ρ:Operand→Value,F ρ→(∀ x,ρ (.const x)=x)→∀ w,S w→(execOp ρ oi).run P w=.ok (.value v) w) (hS:S w)
  (l' : Array Bool) (hl : listed.setIfInBounds i true = l') (h : ∀ K : Act → World → Prop, Shut (∀ a', wpAnyH P md ops Q S fuel l' a' w → K a' w) → Oper.wp P { dst := some d, op := .assign (.const v), type := 0, pos := "", after := #[], guard := none } a w K Q) : wpAnyH P md ops Q S (fuel + 1) listed a w :=
 ag i d v hi hd hk hQ hw (fun w' h'=>hy a.eval hF (fun _=>rfl) w' h') hS (by subst hl;exact vY (h (fun a w=>wpAnyH P md ops Q S fuel (listed.setIfInBounds i true) a w) (fun _ h=>h)))
theorem aW (i d:Nat) (v:Value) (x:Operand) {oi:Oper} {fuel:Nat} {listed:Array Bool} {a:Act} {w:World} (hi:ops[i]?=some oi) (hd:oi.dst=some d)
  (hk:(Region.noSelect ops&&Region.free md ops listed i&&(Region.ready md ops listed).contains i)=true)
  (hQ:∀ c a w,Q (.panic c) (a.put (some d) v) w→Q (.panic c) a w) (hw:Region.wanted oi (yielded ops a.tmps)=true) (hx:a.eval x=v)
  (ho:oi.op=.move x∨oi.op=.assign x) (hS:S w)
  (l' : Array Bool) (hl : listed.setIfInBounds i true = l') (h : ∀ K : Act → World → Prop, Shut (∀ a', wpAnyH P md ops Q S fuel l' a' w → K a' w) → Oper.wp P { dst := some d, op := .assign (.const v), type := 0, pos := "", after := #[], guard := none } a w K Q) : wpAnyH P md ops Q S (fuel + 1) listed a w :=
 ag i d v hi hd hk hQ hw (fun w' h'=>by
  rcases ho with ho|ho
  ·rw [BigFrame.run_move x ho,hx]
  ·rw [BigFrame.run_assign x ho,hx]) hS (by subst hl;exact vY (h (fun a w=>wpAnyH P md ops Q S fuel (listed.setIfInBounds i true) a w) (fun _ h=>h)))
theorem dN (i d:Nat) (v:Value) {oi:Oper} {fuel:Nat} {listed:Array Bool} {a:Act} {w:World} (hi:ops[i]?=some oi) (hd:oi.dst=some d)
  (hk:(Region.noSelect ops&&Region.free md ops listed i&&(Region.ready md ops listed).contains i)=true)
  (hQ:∀ c a w,Q (.panic c) (a.put (some d) v) w→Q (.panic c) a w) (hy:YieldsIf P ops S oi v a) (hS:S w)
  (l' : Array Bool) (hl : listed.setIfInBounds i true = l') (h : ∀ K : Act → World → Prop, Shut (∀ a', wpAnyH P md ops Q S fuel l' a' w → K a' w) → Oper.wp P { dst := some d, op := .assign (.const v), type := 0, pos := "", after := #[], guard := none } a w K Q) : wpAnyH P md ops Q S (fuel + 1) listed a w :=
 aX i d v hi hd hk hQ hy hS (by subst hl;exact vY (h (fun a w=>wpAnyH P md ops Q S fuel (listed.setIfInBounds i true) a w) (fun _ h=>h)))
theorem ng (i d:Nat) {oi:Oper} {fuel:Nat} {listed:Array Bool} {a:Act} {w:World} (hi:ops[i]?=some oi) (hd:oi.dst=some d)
  (hk:(Region.noSelect ops&&Region.free md ops listed i&&(Region.ready md ops listed).contains i)=true)
  (hQ:∀ c a w,Q (.panic c) (a.put (some d) undef) w→Q (.panic c) a w) (hw:Region.wanted oi (yielded ops a.tmps)=false) (hS:S w)
  (l' : Array Bool) (hl : listed.setIfInBounds i true = l') (h : ∀ K : Act → World → Prop, Shut (∀ a', wpAnyH P md ops Q S fuel l' a' w → K a' w) → Oper.wp P { dst := some d, op := .assign (.const undef), type := 0, pos := "", after := #[], guard := none } a w K Q) : wpAnyH P md ops Q S (fuel + 1) listed a w :=
 aS i d hi hd hk hQ hw hS (by subst hl;exact vY (h (fun a w=>wpAnyH P md ops Q S fuel (listed.setIfInBounds i true) a w) (fun _ h=>h)))
theorem aC {fuel:Nat} {listed:Array Bool} {a:Act} {w:World} {i:Nat} {o:Oper} {rs:List Nat} (ho:ops[i]?=some o) (hw:Region.wanted o (yielded ops a.tmps)=true)
  (l':Array Bool) (hl:listed.setIfInBounds i true=l') (h:∀ K':Act→World→Prop,Shut (∀ a w,S w→(S w→wpAnyH P md ops Q S fuel l' a w)→K' a w)→Oper.wp P o a w K' Q)
  (hs:AllReadyH P md ops Q S fuel listed a w rs):AllReadyH P md ops Q S fuel listed a w (i :: rs) :=
 AllReadyH.cons ho (fun K hK=>by rw [if_pos hw];subst hl;exact h K hK) hs
def putsAll (a:Act):List (Nat × Value)→Act
 | []=>a
 | p :: r=>putsAll (a.put (some p.1) p.2) r
theorem Ce {ι:Type} {n:Nat} {listed:Array Bool} {a:Act} {w:World} (puts:ι→List (Nat × Value)) (Ok:ι→World→Prop) (h2:∀ i we,Ok i we→Q .normal (putsAll a (puts i)) we)
  (h1:Shut (∀ i we a',a'=putsAll a (puts i)→Ok i we→Q .normal a' we)→wpAnyH P md ops Q S n listed a w):wpAnyH P md ops Q S n listed a w :=
 h1 (fun i we a' e h=>by rw [e];exact h2 i we h)
end
open Go.RowKit
theorem iF {W:World} {base size n A:Nat} {e t:TypeId} {v:Value} {xs:List Value} {C:Array Value} (h:W.ownsRow base e size v n xs) (hv:ae W A C t) (het:e≠t):v.ownBlock≠some A:=by
 intro e'
 rcases h.2 with ⟨rfl,_⟩|⟨g,cap,cur,rfl,_,hh,_⟩
 ·cases e'
 ·have e1:g=A:=by simpa [Value.ownBlock] using e'
  subst e1
  have h2:=hh.symm.trans hv
  simp only [Option.some.injEq,Obj.cells.injEq] at h2
  exact het h2.2.1
theorem RowsAt.az {W W':World} {base b:Nat} {C E:Array Value} {t:TypeId} {ss:List St} (h:RowsAt W base C ss) (hv:ae W b E t) (ht:77≠t) (hg:W.grownBy W' (some b)):RowsAt W' base C ss :=
 ⟨h.1,fun s hs=>by obtain ⟨a,c,e,o⟩:=h.2.1 s hs;exact ⟨a,c,e,o.keep hg (fun k hk he=>iF o hv ht (hk.trans he))⟩,h.2.2⟩
theorem aj.az {W W':World} {base b n:Nat} {E:Array Value} {t:TypeId} {v:Value} {xs:List Int} (h:aj W base v n xs) (hv:ae W b E t) (ht:3≠t) (hg:W.grownBy W' (some b)):aj W' base v n xs :=
 World.ownsRow.kept h hg (by
  cases e:v.ownBlock with
  | none=>exact Or.inl rfl
  | some k=>exact Or.inr (fun he=>iF h hv ht (e.trans he)))
theorem eH {W W':World} {b q:Nat} {cs:List Value} (h:W.rangeAt b 0 cs) (hg:W.grownBy W' (some q)) (hne:b≠q):W'.rangeAt b 0 cs:=fun j v hv=>hg.cell (h j v hv) (fun e=>hne (Option.some.inj e))
theorem zO {ι:Type} {P:Program} {md:Region.Mode} {ops:Array Oper} {Q:Exit→Act→World→Prop} {S:World→Prop} {n:Nat} {listed:Array Bool} {a:Act} {w:World}
  (Fr:ι→Act) (Ok:ι→World→Prop) (h2:∀ i we,Ok i we→Q .normal (Fr i) we) (h1:Hid (∀ i we,Ok i we→Q .normal (Fr i) we)→wpAnyH P md ops Q S n listed a w):wpAnyH P md ops Q S n listed a w:=h1 h2
open Go.RowKit
theorem mem_ofL {ss:List St} {s y:Int} {set:List Int}:y∈ofL ss s set↔y∈set∧∃ z,(s,y,z)∈ss:=by
 unfold ofL
 rw [gB]
 simp only [List.not_mem_nil,false_or,List.mem_map,List.mem_filter,Bool.and_eq_true,decide_eq_true_eq,iG]
 constructor
 ·rintro ⟨⟨f,b,z⟩,⟨h1,h2,h3⟩,rfl⟩
  simp only at h2
  subst h2
  exact ⟨h3,z,h1⟩
 ·rintro ⟨h1,z,h2⟩
  exact ⟨(s,y,z),⟨h2,rfl,h1⟩,rfl⟩
theorem wX {ss:List St} {s act y:Int}:y∈jK ss s act↔(s,act,y)∈ss:=by
 unfold jK
 rw [gB]
 simp only [List.not_mem_nil,false_or,List.mem_map,List.mem_filter,Bool.and_eq_true,decide_eq_true_eq]
 constructor
 ·rintro ⟨⟨f,b,z⟩,⟨h1,h2,h3⟩,rfl⟩
  simp only at h2 h3
  subst h2 h3
  exact h1
 ·intro h
  exact ⟨(s,act,y),⟨h,rfl,rfl⟩,rfl⟩
open Go.RowKit
def ni (sh:List Int) (su:Int) (tt:List St) (x:St) (q:Int):List St :=
 if hasB sh x.2.1 then (jK tt q x.2.1).map fun t=>(x.1*su+q,x.2.1,x.2.2*su+t) else [(x.1*su+q,x.2.1,x.2.2*su+q)]
def fG (sh:List Int) (su:Int) (tt:List St) (x:St) (j:Nat):List St:=(List.range j).flatMap fun q:Nat=>ni sh su tt x (q:Int)
def gJ (sh:List Int) (su:Int) (m:Nat) (ss tt:List St):List St:=ss.flatMap fun x=>fG sh su tt x m
theorem yl (sh:List Int) (su:Int) (tt:List St) (x:St) (j:Nat):fG sh su tt x (j+1)=fG sh su tt x j++ni sh su tt x (j:Int):=by
 unfold fG
 rw [List.range_succ,List.flatMap_append,List.flatMap_singleton]
theorem GU {sh:List Int} {su:Int} {m:Nat} {ss tt:List St} {k:Nat} (hk:k<ss.length):gJ sh su m (ss.take (k+1)) tt=gJ sh su m (ss.take k) tt++fG sh su tt ss[k] m:=by
 unfold gJ
 rw [List.take_succ_eq_append_getElem hk,List.flatMap_append,List.flatMap_singleton]
theorem rU {sh:List Int} {su:Int} {tt:List St} {x u:St} {j:Nat}:u∈fG sh su tt x j↔∃ q:Nat,q<j∧u∈ni sh su tt x (q:Int):=by
 unfold fG
 simp only [List.mem_flatMap,List.mem_range]
theorem Ja {a b:IaD} (h:iH a b=true) (u:St) :
  u∈gJ (aY a b) b.states b.states.toNat a.steps b.steps++cu (aY a b) b.states a.states.toNat b.steps↔u∈nN a b:=by
 have hab:=h
 unfold iH at hab
 simp only [Bool.and_eq_true,decide_eq_true_eq] at hab
 obtain ⟨⟨⟨ha,hb⟩,_⟩,_⟩:=hab
 have sB:=aN hb
 have eB:=dH hb
 unfold nN
 simp only [List.mem_append]
 have key:u∈gJ (aY a b) b.states b.states.toNat a.steps b.steps↔u∈dF (aY a b) b.states b.states.toNat a.steps∨u∈bZ (aY a b) b.states a.steps b.steps:=by
  unfold gJ
  rw [List.mem_flatMap,qi,oQ]
  constructor
  ·rintro ⟨x,hx,hu⟩
   obtain ⟨q,hq,hu⟩:=rU.1 hu
   unfold ni at hu
   cases hs:hasB (aY a b) x.2.1 with
   | false =>
    rw [hs] at hu
    simp only [Bool.false_eq_true,if_false,List.mem_singleton] at hu
    exact .inl ⟨x,hx,hs,iO.2 ⟨q,hq,hu⟩⟩
   | true =>
    rw [hs] at hu
    simp only [if_true,List.mem_map] at hu
    obtain ⟨t,ht,rfl⟩:=hu
    exact .inr ⟨x,hx,hs,jF.2 ⟨((q:Int),x.2.1,t),wX.1 ht,rfl,rfl⟩⟩
  ·rintro (⟨x,hx,hs,hu⟩|⟨x,hx,hs,hu⟩)
   ·obtain ⟨q,hq,e⟩:=iO.1 hu
    refine ⟨x,hx,rU.2 ⟨q,hq,?_⟩⟩
    unfold ni
    rw [hs]
    simp [e]
   ·obtain ⟨y,hy,hya,e⟩:=jF.1 hu
    have hy1:=(eB y hy).1
    refine ⟨x,hx,rU.2 ⟨y.1.toNat,by omega,?_⟩⟩
    have e1:((y.1.toNat:Nat):Int)=y.1:=by omega
    unfold ni
    rw [hs,e1]
    simp only [if_true,List.mem_map]
    refine ⟨y.2.2,wX.2 ?_,e.symm⟩
    obtain ⟨y1,y2,y3⟩:=y
    simp only at hya ⊢
    rw [← hya]
    exact hy
 rw [key]
 constructor
 ·rintro ((h1|h1)|h1)
  ·exact .inl (.inl h1)
  ·exact .inr h1
  ·exact .inl (.inr h1)
 ·rintro ((h1|h1)|h1)
  ·exact .inl (.inl h1)
  ·exact .inr h1
  ·exact .inl (.inr h1)
open Go.RowKit
def wu (w:World) (base:Nat) (ss:List St) (t:St) (e:Ending) (w':World):Prop :=
 ∃ v' n' ss',e=.returned v'∧OwnsS 77 w' base v' n' ss'∧(∀ s∈ss',qm s)∧(ss.Pairwise Ahead→ss'.Pairwise Ahead∧∀ u,u∈ss'↔u∈ss∨u=t)∧Below w.heap.size w w'
theorem KA {y x:St} (h:¬ gm y x<0) (hne:y≠x):Ahead x y:=by
 obtain ⟨a,b,c⟩:=y
 obtain ⟨a',b',c'⟩:=x
 unfold gm at h
 unfold Ahead
 simp only at h ⊢
 by_cases e1:a=a'
 ·subst e1
  by_cases e2:b=b'
  ·subst e2
   have e3:c≠c':=fun e=>hne (by rw [e])
   simp only [not_true_eq_false,if_false] at h
   omega
  ·simp only [not_true_eq_false,if_false,e2,not_false_eq_true,if_true] at h
   omega
 ·simp only [e1,not_false_eq_true,if_true] at h
  omega
theorem zQ {ss:List St} {t:St} {k:Nat} (hk:k≤ss.length) (h1:∀ j,j<k→∀ s,ss[j]?=some s→gm s t<0) (h2:∀ s,ss[k]?=some s→¬ gm s t<0∧s≠t) :
  ss.Pairwise Ahead→(ss.take k++[t]++ss.drop k).Pairwise Ahead∧∀ u,u∈ss.take k++[t]++ss.drop k↔u∈ss∨u=t:=by
 intro hp
 have hta:∀ s∈ss.take k,Ahead s t:=by
  intro s hs
  obtain ⟨j,hj,e⟩:=List.mem_iff_getElem.1 hs
  rw [List.length_take] at hj
  rw [List.getElem_take] at e
  exact (xX s t).1 (h1 j (by omega) s (by rw [List.getElem?_eq_getElem (by omega),e]))
 have hd:∀ s∈ss.drop k,Ahead t s:=by
  intro s hs
  have hkl:k<ss.length:=by
   apply Classical.byContradiction
   intro hc
   rw [List.drop_eq_nil_of_le (by omega)] at hs
   cases hs
  have h3:=h2 ss[k] (List.getElem?_eq_getElem hkl)
  have h4:=KA h3.1 h3.2
  have h5:ss.drop k=ss[k] :: ss.drop (k+1):=List.drop_eq_getElem_cons hkl
  have hp2:(ss.drop k).Pairwise Ahead:=List.Pairwise.sublist (List.drop_sublist k ss) hp
  rw [h5] at hs hp2
  rcases List.mem_cons.1 hs with e|hs
  ·rw [e];exact h4
  ·exact h4.trans ((List.pairwise_cons.1 hp2).1 s hs)
 constructor
 ·rw [List.append_assoc,List.pairwise_append]
  refine ⟨List.Pairwise.sublist (List.take_sublist k ss) hp,?_,?_⟩
  ·rw [List.singleton_append,List.pairwise_cons]
   exact ⟨hd,List.Pairwise.sublist (List.drop_sublist k ss) hp⟩
  ·intro a ha b hb
   rw [List.singleton_append,List.mem_cons] at hb
   rcases hb with rfl|hb
   ·exact hta a ha
   ·exact (hta a ha).trans (hd b hb)
 ·intro u
  have e:u∈ss↔u∈ss.take k∨u∈ss.drop k:=by rw [← List.mem_append,List.take_append_drop]
  rw [e]
  simp only [List.mem_append,List.mem_cons,List.not_mem_nil,or_false]
  constructor
  ·rintro ((h|h)|h)
   ·exact .inl (.inl h)
   ·exact .inr h
   ·exact .inl (.inr h)
  ·rintro ((h|h)|h)
   ·exact .inl (.inl h)
   ·exact .inr h
   ·exact .inl (.inr h)
theorem Jb {ss:List St} {t:St} (h:t∈ss):ss.Pairwise Ahead→ss.Pairwise Ahead∧∀ u,u∈ss↔u∈ss∨u=t:=by
 intro hp
 refine ⟨hp,fun u=>⟨.inl,?_⟩⟩
 rintro (h1|rfl)
 ·exact h1
 ·exact h
theorem FN (x y z:Int) (base:Nat) (w:World) (HT:Hid (qm (x,y,z))) (hbase:base≤w.heap.size) :
  Calls Tryz.prog 105 #[.slice none 0 0,.agg #[.int .i64 x,.int .i64 y,.int .i64 z]] w (wu w base [] (x,y,z)):=by
 obtain ⟨i0,hi0,hz0,hz1,hz2⟩:=info_parts (show (Tryz.prog.info? 77).map (fun i=>(i.zero,i.size,i.bytes))=some (some (.agg #[.int .i64 0,.int .i64 0,.int .i64 0]),3,24) by kernel_rfl)
 have V0:Hid (ae (w.alloc (.cells #[.int .i64 x,.int .i64 y,.int .i64 z] 77)) w.heap.size #[.int .i64 x,.int .i64 y,.int .i64 z] 77):=ae.new w _ _ rfl
 have A0:Hid (Below w.heap.size w (w.alloc (.cells #[.int .i64 x,.int .i64 y,.int .i64 z] 77))):=(Below.refl _ w).alloc (Nat.le_refl _) _
 go_enter Tryz.func105,Tryz.ntmps105
 go_wp2_with fail
 go_loopw [5] (fun i wr=>i=.int .i64 0∧Hid (Below w.heap.size w wr)∧Hid (ae wr w.heap.size #[.int .i64 x,.int .i64 y,.int .i64 z] 77)) (fun _ _=>0)
 case atStart=>exact ⟨rfl,A0.out,V0.out⟩
 case round =>
  obtain ⟨rfl,HB,HV⟩:=hrel
  clear A0 V0
  go_wp2_with fail
  go_quiet (fail)
  have uB:=Lib.hid (below_drewN HB.out nq)
  have wY:Hid (ae (wr.drewN nq) w.heap.size #[.int .i64 x,.int .i64 y,.int .i64 z] 77):=HV.out
  generalize wr.drewN nq=wq0 at uB wY ⊢
  go_wp2_with fail
  go_quiet (fail)
  have gY:=Lib.hid (below_drewN uB.out nq)
  have qy:Hid (ae (wq0.drewN nq) w.heap.size #[.int .i64 x,.int .i64 y,.int .i64 z] 77):=wY.out
  generalize wq0.drewN nq=wq1 at gY qy ⊢
  have BS:=gY.out.size
  have T0:OwnsS 77 (wq1.alloc (.cells #[] 77)) wq1.heap.size (.slice (some ⟨wq1.heap.size,0,none⟩) 0 0) 0 []:=ql wq1
  have B0:Below wq1.heap.size wq1 (wq1.alloc (.cells #[] 77)):=(Below.refl _ wq1).alloc (Nat.le_refl _) _
  have S0:=fH.nil (wq1.alloc (.cells #[] 77))
  go_wp2_with (at_builtin;refine bI rfl (.tmp 35) (.tmp 38) _ _ rfl wq1.heap.size i0 Tryz.underlying25 hi0 hz0 hz1 hz2 _ _ _ rfl T0 _ 0 _ [] rfl S0 (by omega) (by simp) ?_)
  rintro v1 w1 ⟨hown1,hgrow1,hnil1⟩
  have hb1:Below wq1.heap.size wq1 w1:=T0.grown B0 hgrow1 (Nat.le_refl _) (by simp)
  have V1:=qy.out.below hb1
  have k0:=V1.cell (j:=0) rfl
  have k1:=V1.cell (j:=1) rfl
  have k2:=V1.cell (j:=2) rfl
  have T1:=hown1.alloc (.cells #[.int .i64 x,.int .i64 y,.int .i64 z] 77)
  have S1:fH (w1.alloc (.cells #[.int .i64 x,.int .i64 y,.int .i64 z] 77)) (some ⟨w1.heap.size,0,none⟩) 1 1 [(x,y,z)]:=jY w1 x y z
  clear hnil1 hgrow1 T0 S0 B0
  go_wp2_with (at_builtin;refine bI rfl (.tmp 40) (.tmp 42) _ _ rfl wq1.heap.size i0 Tryz.underlying25 hi0 hz0 hz1 hz2 _ _ _ rfl T1 _ 1 _ [(x,y,z)] rfl S1 (by omega) (by have:=hb1.size;simp;omega) ?_)
  rintro v2 w2 ⟨hown2,hgrow2,hnil2⟩
  have hb2:Below wq1.heap.size wq1 w2:=T1.grown (hb1.alloc hb1.size _) hgrow2 (Nat.le_refl _) (by have:=hb1.size;simp;omega)
  clear hnil2 hgrow2 T1 S1 hown1 k0 k1 k2 V1
  go_wp2_with (at_builtin;refine bI rfl (.tmp 44) (.tmp 47) _ _ rfl wq1.heap.size i0 Tryz.underlying25 hi0 hz0 hz1 hz2 _ _ _ rfl hown2 _ 0 _ [] rfl (fH.nil _) (by omega) hb2.size ?_)
  all_goals
   rintro v3 w3 ⟨hown3,hgrow3,hnil3⟩
   have hb3:Below wq1.heap.size wq1 w3:=hown2.grown hb2 hgrow3 (Nat.le_refl _) hb2.size
   clear hnil3 hgrow3 hown2
   obtain ⟨a3,c3,rfl⟩:=hown3.form
   go_wp2
   go_ret
   exact ⟨_,_,_,rfl,hown3.mono (Nat.le_trans hbase BS),(uy (k:=0) (ss:=[]) (by simp) HT.out),zQ (ss:=[]) (k:=0) (by simp) (fun j hj=>absurd hj (by omega)) (fun s hs=>by simp at hs),gY.out.trans (hb3.mono BS)⟩
theorem Em (g n c:Nat) (ss:List St) (x y z:Int) (base:Nat) (w:World) (h:OwnsS 77 w base (.slice (some ⟨g,0,none⟩) n c) n ss) (HT:Hid (qm (x,y,z))) (HS:Hid (∀ s∈ss,qm s)) (hn:n≤1048576) (hbase:base≤w.heap.size) :
  Calls Tryz.prog 105 #[.slice (some ⟨g,0,none⟩) n c,.agg #[.int .i64 x,.int .i64 y,.int .i64 z]] w (wu w base ss (x,y,z)):=by
 obtain ⟨i0,hi0,hz0,hz1,hz2⟩:=info_parts (show (Tryz.prog.info? 77).map (fun i=>(i.zero,i.size,i.bytes))=some (some (.agg #[.int .i64 0,.int .i64 0,.int .i64 0]),3,24) by kernel_rfl)
 have HL:=Lib.hid h.length
 obtain ⟨_,hnc,hcm,hr⟩:=h.row
 obtain ⟨hg,hcl⟩:=h.cells
 have HO:=Lib.hid h
 have HC:=Lib.hid hcl
 clear h hr hcl
 unfold maxLen at hcm
 have V0:Hid (ae (w.alloc (.cells #[.int .i64 x,.int .i64 y,.int .i64 z] 77)) w.heap.size #[.int .i64 x,.int .i64 y,.int .i64 z] 77):=ae.new w _ _ rfl
 have A0:Hid (Below w.heap.size w (w.alloc (.cells #[.int .i64 x,.int .i64 y,.int .i64 z] 77))):=(Below.refl _ w).alloc (Nat.le_refl _) _
 go_enter Tryz.func105,Tryz.ntmps105
 go_wp2_with fail
 go_loopw [5] (fun i wr=>∃ k:Nat,k≤n∧i=.int .i64 k∧Hid (Below w.heap.size w wr)∧Hid (ae wr w.heap.size #[.int .i64 x,.int .i64 y,.int .i64 z] 77)∧Hid (∀ j,j<k→∀ s,ss[j]?=some s→gm s (x,y,z)<0)) (fun i _=>n - (intOf i).toNat)
 case atStart=>exact ⟨0,Nat.zero_le _,rfl,A0.out,V0.out,fun j hj=>absurd hj (by omega)⟩
 case round =>
  obtain ⟨k,hk,rfl,HB,HV,HLE⟩:=hrel
  clear A0 V0
  by_cases hlt:k<n
  ·have hkx:k<ss.length:=by rw [HL.out];exact hlt
   obtain ⟨s,hs⟩:∃ s,s=ss[k]:=⟨_,rfl⟩
   obtain ⟨c0,c1,c2'⟩:=HC.out k ss[k] (List.getElem?_eq_getElem hkx)
   rw [← hs] at c0 c1 c2'
   have hnx:=HB.out
   have k0:=(hnx.cell (p:=⟨g,k*3,none⟩) hg).trans c0
   have k1:=(hnx.cell (p:=⟨g,k*3+1,none⟩) hg).trans c1
   have k2:=(hnx.cell (p:=⟨g,k*3+2,none⟩) hg).trans c2'
   have HN:qm s:=by rw [hs];exact HS.out _ (List.getElem_mem hkx)
   obtain ⟨x',y',z'⟩:=s
   simp only at k0 k1 k2
   have l0:=HV.out.cell (j:=0) rfl
   have l1:=HV.out.cell (j:=1) rfl
   have l2:=HV.out.cell (j:=2) rfl
   have i1:(0:Int)≤(k:Int):=by omega
   have i2:(k:Int)<(n:Int):=by omega
   have HK0:Hid (ss[k]?=some (x',y',z')):=by unfold Hid;rw [List.getElem?_eq_getElem hkx,← hs]
   clear c0 c1 c2' hs
   obtain ⟨d,hd⟩:∃ d,d=gm (x',y',z') (x,y,z):=⟨_,rfl⟩
   have HEQ:Hid (∀ W,Calls Tryz.prog 151 #[.agg #[.int .i64 x',.int .i64 y',.int .i64 z'],.agg #[.int .i64 x,.int .i64 y,.int .i64 z]] W fun e w'=>e=.returned (.int .i64 d)∧Below W.heap.size W w'):=fun W=>by
    rw [hd]
    exact yF x' y' z' x y z W HN.1 HN.2.1 HN.2.2 HT.out.1 HT.out.2.1 HT.out.2.2
   have HD:=Lib.hid hd
   clear hd HN
   by_cases hd0:d<0
   ·have HLE2:Hid (∀ j,j<k+1→∀ s,ss[j]?=some s→gm s (x,y,z)<0):=fun j hj s hs=>by
     by_cases e:j=k
     ·subst e
      rw [HK0.out] at hs
      cases hs
      rw [← HD.out]
      exact hd0
     ·exact HLE.out j (by omega) s hs
    go_wp2
    go_region_held3 (fun w'=>Below w.heap.size w w'∧ae w' w.heap.size #[.int .i64 x,.int .i64 y,.int .i64 z] 77∧w'.cell? ⟨g,k*3,none⟩=some (.int .i64 x')∧w'.cell? ⟨g,k*3+1,none⟩=some (.int .i64 y')∧w'.cell? ⟨g,k*3+2,none⟩=some (.int .i64 z')∧w'.cell? ⟨w.heap.size,0,none⟩=some (.int .i64 x)∧w'.cell? ⟨w.heap.size,1,none⟩=some (.int .i64 y)∧w'.cell? ⟨w.heap.size,2,none⟩=some (.int .i64 z))
     (first|(refine ⟨hnx.drew,HV.out.drew,?_⟩;go_keep)|(exact ⟨hnx.drew.trans (hb'.mono hnx.size),HV.out.drew.below hb',(hb'.cell (p:=⟨g,k*3,none⟩) (Nat.lt_of_lt_of_le hg hnx.size)).trans k0,(hb'.cell (p:=⟨g,k*3+1,none⟩) (Nat.lt_of_lt_of_le hg hnx.size)).trans k1,(hb'.cell (p:=⟨g,k*3+2,none⟩) (Nat.lt_of_lt_of_le hg hnx.size)).trans k2,(HV.out.drew.below hb').cell rfl,(HV.out.drew.below hb').cell rfl,(HV.out.drew.below hb').cell rfl⟩))
     ((go_at_call 151;refine (HEQ.out _).mono ?_;rintro e w' ⟨rfl,hb'⟩))
    rename_i hH
    have HH:=Lib.hid hH.1
    have HH2:=Lib.hid hH.2.1
    clear hH
    go_wp2
    go_roundw
    case rel=>exact ⟨k+1,by omega,by go_num,HH.out,HH2.out,HLE2.out⟩
    case measure=>simp [intOf];omega
   ·go_wp2
    go_region_held3 (fun w'=>Below w.heap.size w w'∧ae w' w.heap.size #[.int .i64 x,.int .i64 y,.int .i64 z] 77∧w'.cell? ⟨g,k*3,none⟩=some (.int .i64 x')∧w'.cell? ⟨g,k*3+1,none⟩=some (.int .i64 y')∧w'.cell? ⟨g,k*3+2,none⟩=some (.int .i64 z')∧w'.cell? ⟨w.heap.size,0,none⟩=some (.int .i64 x)∧w'.cell? ⟨w.heap.size,1,none⟩=some (.int .i64 y)∧w'.cell? ⟨w.heap.size,2,none⟩=some (.int .i64 z))
     (first|(refine ⟨hnx.drew,HV.out.drew,?_⟩;go_keep)|(exact ⟨hnx.drew.trans (hb'.mono hnx.size),HV.out.drew.below hb',(hb'.cell (p:=⟨g,k*3,none⟩) (Nat.lt_of_lt_of_le hg hnx.size)).trans k0,(hb'.cell (p:=⟨g,k*3+1,none⟩) (Nat.lt_of_lt_of_le hg hnx.size)).trans k1,(hb'.cell (p:=⟨g,k*3+2,none⟩) (Nat.lt_of_lt_of_le hg hnx.size)).trans k2,(HV.out.drew.below hb').cell rfl,(HV.out.drew.below hb').cell rfl,(HV.out.drew.below hb').cell rfl⟩))
     ((go_at_call 151;refine (HEQ.out _).mono ?_;rintro e w' ⟨rfl,hb'⟩))
    rename_i hH
    have uB:=Lib.hid hH.1
    have wY:=Lib.hid hH.2.1
    obtain ⟨_,_,k0,k1,k2,l0,l1,l2⟩:=hH
    by_cases he:x'=x∧y'=y∧z'=z
    ·obtain ⟨rfl,rfl,rfl⟩:=he
     go_wp2_with fail
     go_quiet (fail)
     go_wp2_with fail
     go_ret
     exact ⟨_,_,_,rfl,HO.out.below (below_drewN uB.out nq),HS.out,Jb (List.mem_of_getElem? HK0.out),below_drewN uB.out nq⟩
    ·have HPG:Hid (ss.Pairwise Ahead→(ss.take k++[(x,y,z)]++ss.drop k).Pairwise Ahead∧∀ u,u∈ss.take k++[(x,y,z)]++ss.drop k↔u∈ss∨u=(x,y,z)):=zQ (by rw [HL.out];exact hk) HLE.out (fun s hs=>by
      rw [HK0.out] at hs
      cases hs
      exact ⟨by rw [← HD.out];omega,fun e=>he (by cases e;exact ⟨rfl,rfl,rfl⟩)⟩)
     by_cases f1:x'=x
     ·obtain rfl:=f1.symm
      by_cases f2:y'=y
      ·obtain rfl:=f2.symm
       have f3:¬ z'=z:=fun e=>he ⟨rfl,rfl,e⟩
       have g3:(z' == z)=false:=by simp [f3]
       clear he
       go_wp2_with fail
       go_quiet (fail)
       have gY:=Lib.hid (below_drewN uB.out nq)
       have qy:Hid (ae (w'.drewN nq) w.heap.size #[.int .i64 x,.int .i64 y,.int .i64 z] 77):=wY.out
       generalize w'.drewN nq=wq1 at gY qy ⊢
       clear k0 k1 k2 l0 l1 l2
       have HCR:Hid (∀ j s,ss[j]?=some s→wq1.cell? ⟨g,j*3,none⟩=some (.int .i64 s.1)∧wq1.cell? ⟨g,j*3+1,none⟩=some (.int .i64 s.2.1)∧wq1.cell? ⟨g,j*3+2,none⟩=some (.int .i64 s.2.2)):=(HO.out.below gY.out).cells.2
       have HGR:Hid (g<wq1.heap.size):=(HO.out.below gY.out).cells.1
       have BS:=gY.out.size
       have T0:OwnsS 77 (wq1.alloc (.cells #[] 77)) wq1.heap.size (.slice (some ⟨wq1.heap.size,0,none⟩) 0 0) 0 []:=ql wq1
       have B0:Below wq1.heap.size wq1 (wq1.alloc (.cells #[] 77)):=(Below.refl _ wq1).alloc (Nat.le_refl _) _
       have S0:=uN (c:=c) HCR.out HGR.out HL.out hk B0
       have KT:Hid ((ss.take k).length=k):=by unfold Hid;rw [List.length_take,HL.out];omega
       go_wp2_with (at_builtin;refine bI rfl (.tmp 35) (.tmp 38) _ _ rfl wq1.heap.size i0 Tryz.underlying25 hi0 hz0 hz1 hz2 _ _ _ rfl T0 _ k _ (ss.take k) rfl S0 (by omega) (by simp) ?_)
       rintro v1 w1 ⟨hown1,hgrow1,hnil1⟩
       have hb1:Below wq1.heap.size wq1 w1:=T0.grown B0 hgrow1 (Nat.le_refl _) (by simp)
       have V1:=qy.out.below hb1
       have k0:=V1.cell (j:=0) rfl
       have k1:=V1.cell (j:=1) rfl
       have k2:=V1.cell (j:=2) rfl
       have T1:=hown1.alloc (.cells #[.int .i64 x,.int .i64 y,.int .i64 z] 77)
       have S1:fH (w1.alloc (.cells #[.int .i64 x,.int .i64 y,.int .i64 z] 77)) (some ⟨w1.heap.size,0,none⟩) 1 1 [(x,y,z)]:=jY w1 x y z
       clear hnil1 hgrow1 T0 S0 B0
       go_wp2_with (at_builtin;refine bI rfl (.tmp 40) (.tmp 42) _ _ rfl wq1.heap.size i0 Tryz.underlying25 hi0 hz0 hz1 hz2 _ _ _ rfl T1 _ 1 _ [(x,y,z)] rfl S1 (by omega) (by have:=hb1.size;simp;omega) ?_)
       rintro v2 w2 ⟨hown2,hgrow2,hnil2⟩
       have hb2:Below wq1.heap.size wq1 w2:=T1.grown (hb1.alloc hb1.size _) hgrow2 (Nat.le_refl _) (by have:=hb1.size;simp;omega)
       clear hnil2 hgrow2 T1 S1 hown1 k0 k1 k2 V1
       go_wp2_with (at_builtin;refine bI rfl (.tmp 44) (.tmp 47) _ _ rfl wq1.heap.size i0 Tryz.underlying25 hi0 hz0 hz1 hz2 _ _ _ rfl hown2 _ (n - k) _ (ss.drop k) rfl (uO HCR.out HGR.out HL.out hnc hk hb2 (by intro h;first|rfl|simp [h]) (by first|exact ⟨_,rfl⟩|(split <;> exact ⟨_,rfl⟩))) (by omega) hb2.size ?_)
       all_goals
        rintro v3 w3 ⟨hown3,hgrow3,hnil3⟩
        have hb3:Below wq1.heap.size wq1 w3:=hown2.grown hb2 hgrow3 (Nat.le_refl _) hb2.size
        clear hnil3 hgrow3 hown2
        obtain ⟨a3,c3,rfl⟩:=hown3.form
        go_wp2
        go_ret
        exact ⟨_,_,_,rfl,hown3.mono (Nat.le_trans hbase BS),uy HS.out HT.out,HPG.out,gY.out.trans (hb3.mono BS)⟩
      ·have g2:(y' == y)=false:=by simp [f2]
       clear he
       go_wp2_with fail
       go_quiet (fail)
       have gY:=Lib.hid (below_drewN uB.out nq)
       have qy:Hid (ae (w'.drewN nq) w.heap.size #[.int .i64 x,.int .i64 y,.int .i64 z] 77):=wY.out
       generalize w'.drewN nq=wq1 at gY qy ⊢
       clear k0 k1 k2 l0 l1 l2
       have HCR:Hid (∀ j s,ss[j]?=some s→wq1.cell? ⟨g,j*3,none⟩=some (.int .i64 s.1)∧wq1.cell? ⟨g,j*3+1,none⟩=some (.int .i64 s.2.1)∧wq1.cell? ⟨g,j*3+2,none⟩=some (.int .i64 s.2.2)):=(HO.out.below gY.out).cells.2
       have HGR:Hid (g<wq1.heap.size):=(HO.out.below gY.out).cells.1
       have BS:=gY.out.size
       have T0:OwnsS 77 (wq1.alloc (.cells #[] 77)) wq1.heap.size (.slice (some ⟨wq1.heap.size,0,none⟩) 0 0) 0 []:=ql wq1
       have B0:Below wq1.heap.size wq1 (wq1.alloc (.cells #[] 77)):=(Below.refl _ wq1).alloc (Nat.le_refl _) _
       have S0:=uN (c:=c) HCR.out HGR.out HL.out hk B0
       have KT:Hid ((ss.take k).length=k):=by unfold Hid;rw [List.length_take,HL.out];omega
       go_wp2_with (at_builtin;refine bI rfl (.tmp 35) (.tmp 38) _ _ rfl wq1.heap.size i0 Tryz.underlying25 hi0 hz0 hz1 hz2 _ _ _ rfl T0 _ k _ (ss.take k) rfl S0 (by omega) (by simp) ?_)
       rintro v1 w1 ⟨hown1,hgrow1,hnil1⟩
       have hb1:Below wq1.heap.size wq1 w1:=T0.grown B0 hgrow1 (Nat.le_refl _) (by simp)
       have V1:=qy.out.below hb1
       have k0:=V1.cell (j:=0) rfl
       have k1:=V1.cell (j:=1) rfl
       have k2:=V1.cell (j:=2) rfl
       have T1:=hown1.alloc (.cells #[.int .i64 x,.int .i64 y,.int .i64 z] 77)
       have S1:fH (w1.alloc (.cells #[.int .i64 x,.int .i64 y,.int .i64 z] 77)) (some ⟨w1.heap.size,0,none⟩) 1 1 [(x,y,z)]:=jY w1 x y z
       clear hnil1 hgrow1 T0 S0 B0
       go_wp2_with (at_builtin;refine bI rfl (.tmp 40) (.tmp 42) _ _ rfl wq1.heap.size i0 Tryz.underlying25 hi0 hz0 hz1 hz2 _ _ _ rfl T1 _ 1 _ [(x,y,z)] rfl S1 (by omega) (by have:=hb1.size;simp;omega) ?_)
       rintro v2 w2 ⟨hown2,hgrow2,hnil2⟩
       have hb2:Below wq1.heap.size wq1 w2:=T1.grown (hb1.alloc hb1.size _) hgrow2 (Nat.le_refl _) (by have:=hb1.size;simp;omega)
       clear hnil2 hgrow2 T1 S1 hown1 k0 k1 k2 V1
       go_wp2_with (at_builtin;refine bI rfl (.tmp 44) (.tmp 47) _ _ rfl wq1.heap.size i0 Tryz.underlying25 hi0 hz0 hz1 hz2 _ _ _ rfl hown2 _ (n - k) _ (ss.drop k) rfl (uO HCR.out HGR.out HL.out hnc hk hb2 (by intro h;first|rfl|simp [h]) (by first|exact ⟨_,rfl⟩|(split <;> exact ⟨_,rfl⟩))) (by omega) hb2.size ?_)
       all_goals
        rintro v3 w3 ⟨hown3,hgrow3,hnil3⟩
        have hb3:Below wq1.heap.size wq1 w3:=hown2.grown hb2 hgrow3 (Nat.le_refl _) hb2.size
        clear hnil3 hgrow3 hown2
        obtain ⟨a3,c3,rfl⟩:=hown3.form
        go_wp2
        go_ret
        exact ⟨_,_,_,rfl,hown3.mono (Nat.le_trans hbase BS),uy HS.out HT.out,HPG.out,gY.out.trans (hb3.mono BS)⟩
     ·have g1:(x' == x)=false:=by simp [f1]
      clear he
      go_wp2_with fail
      go_quiet (fail)
      have gY:=Lib.hid (below_drewN uB.out nq)
      have qy:Hid (ae (w'.drewN nq) w.heap.size #[.int .i64 x,.int .i64 y,.int .i64 z] 77):=wY.out
      generalize w'.drewN nq=wq1 at gY qy ⊢
      clear k0 k1 k2 l0 l1 l2
      have HCR:Hid (∀ j s,ss[j]?=some s→wq1.cell? ⟨g,j*3,none⟩=some (.int .i64 s.1)∧wq1.cell? ⟨g,j*3+1,none⟩=some (.int .i64 s.2.1)∧wq1.cell? ⟨g,j*3+2,none⟩=some (.int .i64 s.2.2)):=(HO.out.below gY.out).cells.2
      have HGR:Hid (g<wq1.heap.size):=(HO.out.below gY.out).cells.1
      have BS:=gY.out.size
      have T0:OwnsS 77 (wq1.alloc (.cells #[] 77)) wq1.heap.size (.slice (some ⟨wq1.heap.size,0,none⟩) 0 0) 0 []:=ql wq1
      have B0:Below wq1.heap.size wq1 (wq1.alloc (.cells #[] 77)):=(Below.refl _ wq1).alloc (Nat.le_refl _) _
      have S0:=uN (c:=c) HCR.out HGR.out HL.out hk B0
      have KT:Hid ((ss.take k).length=k):=by unfold Hid;rw [List.length_take,HL.out];omega
      go_wp2_with (at_builtin;refine bI rfl (.tmp 35) (.tmp 38) _ _ rfl wq1.heap.size i0 Tryz.underlying25 hi0 hz0 hz1 hz2 _ _ _ rfl T0 _ k _ (ss.take k) rfl S0 (by omega) (by simp) ?_)
      rintro v1 w1 ⟨hown1,hgrow1,hnil1⟩
      have hb1:Below wq1.heap.size wq1 w1:=T0.grown B0 hgrow1 (Nat.le_refl _) (by simp)
      have V1:=qy.out.below hb1
      have k0:=V1.cell (j:=0) rfl
      have k1:=V1.cell (j:=1) rfl
      have k2:=V1.cell (j:=2) rfl
      have T1:=hown1.alloc (.cells #[.int .i64 x,.int .i64 y,.int .i64 z] 77)
      have S1:fH (w1.alloc (.cells #[.int .i64 x,.int .i64 y,.int .i64 z] 77)) (some ⟨w1.heap.size,0,none⟩) 1 1 [(x,y,z)]:=jY w1 x y z
      clear hnil1 hgrow1 T0 S0 B0
      go_wp2_with (at_builtin;refine bI rfl (.tmp 40) (.tmp 42) _ _ rfl wq1.heap.size i0 Tryz.underlying25 hi0 hz0 hz1 hz2 _ _ _ rfl T1 _ 1 _ [(x,y,z)] rfl S1 (by omega) (by have:=hb1.size;simp;omega) ?_)
      rintro v2 w2 ⟨hown2,hgrow2,hnil2⟩
      have hb2:Below wq1.heap.size wq1 w2:=T1.grown (hb1.alloc hb1.size _) hgrow2 (Nat.le_refl _) (by have:=hb1.size;simp;omega)
      clear hnil2 hgrow2 T1 S1 hown1 k0 k1 k2 V1
      go_wp2_with (at_builtin;refine bI rfl (.tmp 44) (.tmp 47) _ _ rfl wq1.heap.size i0 Tryz.underlying25 hi0 hz0 hz1 hz2 _ _ _ rfl hown2 _ (n - k) _ (ss.drop k) rfl (uO HCR.out HGR.out HL.out hnc hk hb2 (by intro h;first|rfl|simp [h]) (by first|exact ⟨_,rfl⟩|(split <;> exact ⟨_,rfl⟩))) (by omega) hb2.size ?_)
      all_goals
       rintro v3 w3 ⟨hown3,hgrow3,hnil3⟩
       have hb3:Below wq1.heap.size wq1 w3:=hown2.grown hb2 hgrow3 (Nat.le_refl _) hb2.size
       clear hnil3 hgrow3 hown2
       obtain ⟨a3,c3,rfl⟩:=hown3.form
       go_wp2
       go_ret
       exact ⟨_,_,_,rfl,hown3.mono (Nat.le_trans hbase BS),uy HS.out HT.out,HPG.out,gY.out.trans (hb3.mono BS)⟩
  ·have HKN:Hid (k=n):=by unfold Hid;omega
   have HPG:Hid (ss.Pairwise Ahead→(ss.take k++[(x,y,z)]++ss.drop k).Pairwise Ahead∧∀ u,u∈ss.take k++[(x,y,z)]++ss.drop k↔u∈ss∨u=(x,y,z)):=zQ (by rw [HL.out];exact hk) HLE.out (fun s hs=>by
    rw [List.getElem?_eq_none (by rw [HL.out];omega)] at hs
    cases hs)
   go_wp2_with fail
   go_quiet (fail)
   have uB:=Lib.hid (below_drewN HB.out nq)
   have wY:Hid (ae (wr.drewN nq) w.heap.size #[.int .i64 x,.int .i64 y,.int .i64 z] 77):=HV.out
   generalize wr.drewN nq=wq0 at uB wY ⊢
   go_wp2_with fail
   go_quiet (fail)
   have gY:=Lib.hid (below_drewN uB.out nq)
   have qy:Hid (ae (wq0.drewN nq) w.heap.size #[.int .i64 x,.int .i64 y,.int .i64 z] 77):=wY.out
   generalize wq0.drewN nq=wq1 at gY qy ⊢
   have HCR:Hid (∀ j s,ss[j]?=some s→wq1.cell? ⟨g,j*3,none⟩=some (.int .i64 s.1)∧wq1.cell? ⟨g,j*3+1,none⟩=some (.int .i64 s.2.1)∧wq1.cell? ⟨g,j*3+2,none⟩=some (.int .i64 s.2.2)):=(HO.out.below gY.out).cells.2
   have HGR:Hid (g<wq1.heap.size):=(HO.out.below gY.out).cells.1
   have BS:=gY.out.size
   have T0:OwnsS 77 (wq1.alloc (.cells #[] 77)) wq1.heap.size (.slice (some ⟨wq1.heap.size,0,none⟩) 0 0) 0 []:=ql wq1
   have B0:Below wq1.heap.size wq1 (wq1.alloc (.cells #[] 77)):=(Below.refl _ wq1).alloc (Nat.le_refl _) _
   have S0:=uN (c:=c) HCR.out HGR.out HL.out hk B0
   have KT:Hid ((ss.take k).length=k):=by unfold Hid;rw [List.length_take,HL.out];omega
   go_wp2_with (at_builtin;refine bI rfl (.tmp 35) (.tmp 38) _ _ rfl wq1.heap.size i0 Tryz.underlying25 hi0 hz0 hz1 hz2 _ _ _ rfl T0 _ k _ (ss.take k) rfl S0 (by omega) (by simp) ?_)
   rintro v1 w1 ⟨hown1,hgrow1,hnil1⟩
   have hb1:Below wq1.heap.size wq1 w1:=T0.grown B0 hgrow1 (Nat.le_refl _) (by simp)
   have V1:=qy.out.below hb1
   have k0:=V1.cell (j:=0) rfl
   have k1:=V1.cell (j:=1) rfl
   have k2:=V1.cell (j:=2) rfl
   have T1:=hown1.alloc (.cells #[.int .i64 x,.int .i64 y,.int .i64 z] 77)
   have S1:fH (w1.alloc (.cells #[.int .i64 x,.int .i64 y,.int .i64 z] 77)) (some ⟨w1.heap.size,0,none⟩) 1 1 [(x,y,z)]:=jY w1 x y z
   clear hnil1 hgrow1 T0 S0 B0
   go_wp2_with (at_builtin;refine bI rfl (.tmp 40) (.tmp 42) _ _ rfl wq1.heap.size i0 Tryz.underlying25 hi0 hz0 hz1 hz2 _ _ _ rfl T1 _ 1 _ [(x,y,z)] rfl S1 (by omega) (by have:=hb1.size;simp;omega) ?_)
   rintro v2 w2 ⟨hown2,hgrow2,hnil2⟩
   have hb2:Below wq1.heap.size wq1 w2:=T1.grown (hb1.alloc hb1.size _) hgrow2 (Nat.le_refl _) (by have:=hb1.size;simp;omega)
   clear hnil2 hgrow2 T1 S1 hown1 k0 k1 k2 V1
   go_wp2_with (at_builtin;refine bI rfl (.tmp 44) (.tmp 47) _ _ rfl wq1.heap.size i0 Tryz.underlying25 hi0 hz0 hz1 hz2 _ _ _ rfl hown2 _ (n - k) _ (ss.drop k) rfl (uO HCR.out HGR.out HL.out hnc hk hb2 (by intro h;first|rfl|simp [h]) (by first|exact ⟨_,rfl⟩|(split <;> exact ⟨_,rfl⟩))) (by omega) hb2.size ?_)
   all_goals
    rintro v3 w3 ⟨hown3,hgrow3,hnil3⟩
    have hb3:Below wq1.heap.size wq1 w3:=hown2.grown hb2 hgrow3 (Nat.le_refl _) hb2.size
    clear hnil3 hgrow3 hown2
    obtain ⟨a3,c3,rfl⟩:=hown3.form
    go_wp2
    go_ret
    exact ⟨_,_,_,rfl,hown3.mono (Nat.le_trans hbase BS),uy HS.out HT.out,HPG.out,gY.out.trans (hb3.mono BS)⟩
theorem vH (v:Value) (n:Nat) (ss:List St) (x y z:Int) (base:Nat) (w:World) (h:OwnsS 77 w base v n ss) (ht:qm (x,y,z)) (hs:∀ s∈ss,qm s) (hn:n≤1048576) (hbase:base≤w.heap.size) :
  Calls Tryz.prog 105 #[v,.agg #[.int .i64 x,.int .i64 y,.int .i64 z]] w (wu w base ss (x,y,z)):=by
 by_cases hv:v=.slice none 0 0
 ·subst hv
  have h1:=h.row.1
  have h2:=h.length
  obtain rfl:ss=[]:=List.length_eq_zero_iff.1 (by omega)
  exact FN x y z base w ht hbase
 ·obtain ⟨g,c,rfl⟩:=h.head hv
  exact Em g n c ss x y z base w h ht hs hn hbase
open Go.RowKit
theorem OwnsS.pJ {e:TypeId} {w w':World} {base n g2 g3 g4 g5:Nat} {v:Value} {xs:List St} (h:OwnsS e w base v n xs) (hw:Bj w w' g2 g3 g4 g5) (hg:∀ k,v.ownBlock=some k→k≠g2∧k≠g3∧k≠g4∧k≠g5):OwnsS e w' base v n xs:=by
 have hlt:=h.lt
 obtain ⟨h1,h2⟩:=h
 refine ⟨h1,?_⟩
 rcases h2 with h2|⟨g,cap,cur,hv,hb,hh,r⟩
 ·exact Or.inl h2
 ·subst hv
  obtain ⟨q2,q3,q4,q5⟩:=hg g rfl
  exact Or.inr ⟨g,cap,cur,rfl,hb,by rw [hw g (hlt g rfl).2 q2 q3 q4 q5];exact hh,r⟩
theorem iR.pJ {w w':World} {base:Nat} {a:IaD} {v:Value} {g2 g3 g4 g5:Nat} (h:iR w base a v) (hw:Bj w w' g2 g3 g4 g5) (l3:g2<g3) (l4:g3<g4) (l5:g4<g5) (hb:g5<base):iR w' base a v:=by
 obtain ⟨k2,k3,k4,k5,e,l2,h3,h4,h5,o2,o3,o4,o5⟩:=h
 exact ⟨k2,k3,k4,k5,e,l2,h3,h4,h5,o2.pJ hw (fun k hk=>by cases hk;simp only;omega),o3.pJ hw (fun k hk=>by cases hk;simp only;omega),o4.pJ hw (fun k hk=>by cases hk;simp only;omega),o5.pJ hw (fun k hk=>by cases hk;simp only;omega)⟩
theorem zg (k0:Int) (st it:Int) (g2 g3 g4 g5:Nat) (ins outs ah:List Int) (steps:List St) (base:Nat) (w:World) (hk0:0≤k0) (hk1:k0≤68719476736) (b2:base≤g2) (l3:g2<g3) (l4:g3<g4) (l5:g4<g5) (hbase:base≤w.heap.size)
  (o2:aj w base (.slice (some ⟨g2,0,none⟩) ins.length ins.length) ins.length ins) (o3:aj w base (.slice (some ⟨g3,0,none⟩) outs.length outs.length) outs.length outs) (o4:aj w base (.slice (some ⟨g4,0,none⟩) ah.length ah.length) ah.length ah)
  (o5:OwnsS 77 w base (.slice (some ⟨g5,0,none⟩) steps.length steps.length) steps.length steps) (f2:ins.length≤1073741824) (f3:outs.length≤1073741824) (f4:ah.length≤1073741824) (f5:steps.length≤1073741824) :
  Calls Tryz.prog 27 #[.agg #[.int .i64 st,.int .i64 it,.slice (some ⟨g2,0,none⟩) ins.length ins.length,.slice (some ⟨g3,0,none⟩) outs.length outs.length,.slice (some ⟨g4,0,none⟩) ah.length ah.length,.slice (some ⟨g5,0,none⟩) steps.length steps.length],.int .i64 k0] w fun e w'=>∃ r:Int,0≤r∧r≤k0+(ins.length:Int)+(outs.length:Int)+(ah.length:Int)+3*(steps.length:Int)∧e=.returned (.int .i64 r)∧Below base w w'∧Bj w w' g2 g3 g4 g5:=by
 have lt5:=(o5.lt g5 rfl).2
 have O2:=Lib.hid (o2.alloc (.cells #[.int .i64 st,.int .i64 it,.slice (some ⟨g2,0,none⟩) ins.length ins.length,.slice (some ⟨g3,0,none⟩) outs.length outs.length,.slice (some ⟨g4,0,none⟩) ah.length ah.length,.slice (some ⟨g5,0,none⟩) steps.length steps.length] 27))
 have O3:=Lib.hid (o3.alloc (.cells #[.int .i64 st,.int .i64 it,.slice (some ⟨g2,0,none⟩) ins.length ins.length,.slice (some ⟨g3,0,none⟩) outs.length outs.length,.slice (some ⟨g4,0,none⟩) ah.length ah.length,.slice (some ⟨g5,0,none⟩) steps.length steps.length] 27))
 have O4:=Lib.hid (o4.alloc (.cells #[.int .i64 st,.int .i64 it,.slice (some ⟨g2,0,none⟩) ins.length ins.length,.slice (some ⟨g3,0,none⟩) outs.length outs.length,.slice (some ⟨g4,0,none⟩) ah.length ah.length,.slice (some ⟨g5,0,none⟩) steps.length steps.length] 27))
 have O5:=Lib.hid (o5.alloc (.cells #[.int .i64 st,.int .i64 it,.slice (some ⟨g2,0,none⟩) ins.length ins.length,.slice (some ⟨g3,0,none⟩) outs.length outs.length,.slice (some ⟨g4,0,none⟩) ah.length ah.length,.slice (some ⟨g5,0,none⟩) steps.length steps.length] 27))
 have V0:=Lib.hid (ae.new w #[.int .i64 st,.int .i64 it,.slice (some ⟨g2,0,none⟩) ins.length ins.length,.slice (some ⟨g3,0,none⟩) outs.length outs.length,.slice (some ⟨g4,0,none⟩) ah.length ah.length,.slice (some ⟨g5,0,none⟩) steps.length steps.length] 27 rfl)
 have B0:Hid (∀ o,Below base w (w.alloc o)):=fun o=>(Below.refl _ _).alloc hbase _
 have K0:Hid (∀ o k,k<w.heap.size→(w.alloc o).heap[k]?=w.heap[k]?):=fun o k hk=>Below.heap_alloc w o k hk
 clear o2 o3 o4 o5
 go_enter Tryz.func27,Tryz.ntmps27
 go_wp2_with fail
 refine (qY _ ins.length base k0 ins _ O2.out (by omega) (by omega) (by omega)).mono ?_
 rintro e w1 ⟨rfl,_,hg0⟩
 have hg:World.grownBy _ w1 (some g2):=hg0
 clear hg0
 have V1:=Lib.hid (V0.out.Dw hg (by omega))
 have O3a:=Lib.hid (nD O3.out hg (by omega))
 have O4a:=Lib.hid (nD O4.out hg (by omega))
 have O5a:=Lib.hid (rJ O5.out hg (by omega))
 have K1:Hid (∀ k,k<w.heap.size→k≠g2→w1.heap[k]?=w.heap[k]?):=fun k hk h=>(hg.block k (Nat.lt_of_lt_of_le hk (B0.out _).size) (fun e=>h (Option.some.inj e))).trans (K0.out _ k hk)
 have B1:Hid (Below base w w1):=(B0.out _).grown hg (Nat.le_trans hbase (B0.out _).size) (fun k h=>by cases h;exact b2)
 clear hg
 have k1:=V1.out.cell (j:=3) rfl
 go_wp2_with fail
 clear k1
 refine (qY _ outs.length base _ outs _ O3a.out (by omega) (by omega) (by omega)).mono ?_
 rintro e w2 ⟨rfl,_,hg0⟩
 have hg:World.grownBy _ w2 (some g3):=hg0
 clear hg0
 have V2:=Lib.hid (V1.out.Dw hg (by omega))
 have O4b:=Lib.hid (nD O4a.out hg (by omega))
 have O5b:=Lib.hid (rJ O5a.out hg (by omega))
 have K2:Hid (∀ k,k<w.heap.size→k≠g2→k≠g3→w2.heap[k]?=w.heap[k]?):=fun k hk h2 h3=>(hg.block k (Nat.lt_of_lt_of_le hk B1.out.size) (fun e=>h3 (Option.some.inj e))).trans (K1.out k hk h2)
 have B2:Hid (Below base w w2):=B1.out.grown hg (Nat.le_trans hbase B1.out.size) (fun k h=>by cases h;show base≤g3;omega)
 clear hg
 have k1:=V2.out.cell (j:=4) rfl
 go_wp2_with fail
 clear k1
 refine (qY _ ah.length base _ ah _ O4b.out (by omega) (by omega) (by omega)).mono ?_
 rintro e w3 ⟨rfl,_,hg0⟩
 have hg:World.grownBy _ w3 (some g4):=hg0
 clear hg0
 have V3:=Lib.hid (V2.out.Dw hg (by omega))
 have O5c:=Lib.hid (rJ O5b.out hg (by omega))
 have K3:Hid (∀ k,k<w.heap.size→k≠g2→k≠g3→k≠g4→w3.heap[k]?=w.heap[k]?):=fun k hk h2 h3 h4=>(hg.block k (Nat.lt_of_lt_of_le hk B2.out.size) (fun e=>h4 (Option.some.inj e))).trans (K2.out k hk h2 h3)
 have B3:Hid (Below base w w3):=B2.out.grown hg (Nat.le_trans hbase B2.out.size) (fun k h=>by cases h;show base≤g4;omega)
 clear hg
 have k1:=V3.out.cell (j:=5) rfl
 go_wp2_with fail
 clear k1
 refine (BU _ steps.length base _ steps _ O5c.out (by omega) (by omega) (by omega)).mono ?_
 rintro e w4 ⟨rfl,_,hg0⟩
 have hg:World.grownBy _ w4 (some g5):=hg0
 clear hg0
 have K4:Hid (∀ k,k<w.heap.size→k≠g2→k≠g3→k≠g4→k≠g5→w4.heap[k]?=w.heap[k]?):=fun k hk h2 h3 h4 h5=>(hg.block k (Nat.lt_of_lt_of_le hk B3.out.size) (fun e=>h5 (Option.some.inj e))).trans (K3.out k hk h2 h3 h4)
 have B4:Hid (Below base w w4):=B3.out.grown hg (Nat.le_trans hbase B3.out.size) (fun k h=>by cases h;show base≤g5;omega)
 clear hg
 go_wp2_with fail
 go_ret
 exact ⟨_,by omega,by omega,rfl,B4.out,K4.out⟩
open Go.RowKit
theorem Cf:∀ {L P:List St},L.Pairwise Ahead→(∀ u∈L,u∈P)→L.length≤P.length
 | [],_,_,_=>Nat.zero_le _
 | x :: r,P,h,hs=>by
  obtain ⟨h1,h2⟩:=List.pairwise_cons.1 h
  have hx:=hs x (by simp)
  have h3:=Cf (P:=P.erase x) h2 (fun u hu=>(List.mem_erase_of_ne (h1 u hu).ne.symm).2 (hs u (by simp [hu])))
  have h4:=List.length_erase_of_mem hx
  have h5:=List.length_pos_of_mem hx
  simp only [List.length_cons]
  omega
theorem AP (w:World) (A j:Nat) (u:Value):w.grownBy (w.setCell ⟨A,j,none⟩ u) (some A) :=
 ⟨rfl,rfl,rfl,by simp [World.setCell],fun k _ hk=>Below.heap_setCell _ _ _ _ (fun e=>hk (by simp [e]))⟩
def Good (PL J L:List St):Prop:=L.Pairwise Ahead∧(∀ s∈L,qm s)∧(∀ u,u∈L↔u∈J)∧∀ u∈L,u∈PL
theorem Good.start (PL:List St):Good PL [] []:=⟨List.Pairwise.nil,(fun s hs=>by cases hs),(fun _=>Iff.rfl),(fun u hu=>by cases hu)⟩
theorem Good.put {PL J L L':List St} {t:St} (h:Good PL J L) (h1:∀ s∈L',qm s) (h2:L.Pairwise Ahead→L'.Pairwise Ahead∧∀ u,u∈L'↔u∈L∨u=t) (ht:t∈PL):Good PL (J++[t]) L':=by
 obtain ⟨k1,k2⟩:=h2 h.1
 refine ⟨k1,h1,fun u=>?_,fun u hu=>?_⟩
 ·rw [k2 u,h.2.2.1 u];simp
 ·rcases (k2 u).1 hu with hu|rfl
  ·exact h.2.2.2 u hu
  ·exact ht
theorem Good.len {PL J L:List St} (h:Good PL J L):L.length≤PL.length:=Cf h.1 h.2.2.2
structure PS (w W:World) (bo:Nat) (A B:Array Value) (s0 s1:Int) (SH:Value) (sn:Nat) (sh:List Int) (x2 x3 x4:Value) (X2 X3 X4:List Int) (v5:Value) (L:List St):Prop where
 bel:Below w.heap.size w W
 ba:ae W w.heap.size A 27
 bb:ae W (w.heap.size+1) B 27
 res:ae W (w.heap.size+2) #[.int .i64 0,.int .i64 0,.slice none 0 0,.slice none 0 0,.slice none 0 0,.slice none 0 0] 27
 osh:aj W w.heap.size SH sn sh
 box:ae W bo #[.int .i64 s0,.int .i64 s1,x2,x3,x4,v5] 27
 o2:aj W w.heap.size x2 X2.length X2
 o3:aj W w.heap.size x3 X3.length X3
 o4:aj W w.heap.size x4 X4.length X4
 o5:OwnsS 77 W w.heap.size v5 L.length L
 lt:w.heap.size+2<bo
section
variable {w W W':World} {bo:Nat} {A B:Array Value} {s0 s1:Int} {SH:Value} {sn:Nat} {sh:List Int} {x2 x3 x4:Value} {X2 X3 X4:List Int} {v5:Value} {L:List St}
theorem PS.below (h:PS w W bo A B s0 s1 SH sn sh x2 x3 x4 X2 X3 X4 v5 L) (hb:Below W.heap.size W W'):PS w W' bo A B s0 s1 SH sn sh x2 x3 x4 X2 X3 X4 v5 L :=
 ⟨h.bel.trans (hb.mono h.bel.size),h.ba.below hb,h.bb.below hb,h.res.below hb,h.osh.below hb,h.box.below hb,h.o2.below hb,h.o3.below hb,h.o4.below hb,h.o5.below hb,h.lt⟩
theorem PS.alloc (h:PS w W bo A B s0 s1 SH sn sh x2 x3 x4 X2 X3 X4 v5 L) (o:Obj):PS w (W.alloc o) bo A B s0 s1 SH sn sh x2 x3 x4 X2 X3 X4 v5 L :=
 h.below ((Below.refl _ _).alloc (Nat.le_refl _) _)
theorem PS.drew (h:PS w W bo A B s0 s1 SH sn sh x2 x3 x4 X2 X3 X4 v5 L):PS w W.drew bo A B s0 s1 SH sn sh x2 x3 x4 X2 X3 X4 v5 L :=
 ⟨h.bel.drew,h.ba,h.bb,h.res,h.osh,h.box,h.o2,h.o3,h.o4,h.o5,h.lt⟩
theorem PS.put {v':Value} {n':Nat} {L':List St} (h:PS w W bo A B s0 s1 SH sn sh x2 x3 x4 X2 X3 X4 v5 L) (hb:Below W.heap.size W W') (ho:OwnsS 77 W' w.heap.size v' n' L') :
  PS w (W'.setCell ⟨bo,5,none⟩ v') bo A B s0 s1 SH sn sh x2 x3 x4 X2 X3 X4 v' L':=by
 have k:=h.below hb
 have hg:=AP W' bo 5 v'
 have hlt:=k.lt
 have e:=ho.length
 rw [← e] at ho
 refine ⟨k.bel.setCell (show w.heap.size≤bo by omega) _,k.ba.other (by omega) _,k.bb.other (by omega) _,k.res.other (by omega) _,k.osh.keep hg (fun b hb' he=>iF k.osh k.box (by decide) (hb'.trans he)),k.box.set 5 v',k.o2.keep hg (fun b hb' he=>iF k.o2 k.box (by decide) (hb'.trans he)),
  k.o3.keep hg (fun b hb' he=>iF k.o3 k.box (by decide) (hb'.trans he)),k.o4.keep hg (fun b hb' he=>iF k.o4 k.box (by decide) (hb'.trans he)),ho.keep hg (fun b hb' he=>iF ho k.box (by decide) (hb'.trans he)),k.lt⟩
end
open Go.RowKit
def bM (w:World) (base:Nat) (a:IaD) (v:Value):Prop :=
 ∃ x2 x3 x4 x5:Value,v=.agg #[.int .i64 a.states,.int .i64 a.init,x2,x3,x4,x5]∧aj w base x2 a.ins.length a.ins∧aj w base x3 a.outs.length a.outs∧aj w base x4 a.ah.length a.ah∧OwnsS 77 w base x5 a.steps.length a.steps
theorem Ci (w:World) (base:Nat):bM w base ja (.agg #[.int .i64 0,.int .i64 0,.slice none 0 0,.slice none 0 0,.slice none 0 0,.slice none 0 0]) :=
 ⟨_,_,_,_,rfl,World.ownsRow_nil _ _ _ _,World.ownsRow_nil _ _ _ _,World.ownsRow_nil _ _ _ _,World.ownsRow_nil _ _ _ _⟩
theorem bM.rowOf {w:World} {base:Nat} {a:IaD} {v:Value} (h:bM w base a v):∃ (a2:Option Addr) (c2:Nat) (a3:Option Addr) (c3:Nat) (a4:Option Addr) (c4:Nat) (a5:Option Addr) (c5:Nat),v=.agg #[.int .i64 a.states,.int .i64 a.init,.slice a2 a.ins.length c2,.slice a3 a.outs.length c3,.slice a4 a.ah.length c4,.slice a5 a.steps.length c5]∧aB w a v:=by
 obtain ⟨x2,x3,x4,x5,rfl,o2,o3,o4,o5⟩:=h
 obtain ⟨b2,d2,rfl⟩:=o2.form
 obtain ⟨b3,d3,rfl⟩:=o3.form
 obtain ⟨b4,d4,rfl⟩:=o4.form
 obtain ⟨b5,d5,rfl⟩:=o5.form
 exact ⟨b2,d2,b3,d3,b4,d4,b5,d5,rfl,_,_,_,_,_,_,_,_,_,_,_,_,rfl,o2.row.2.2.2,o3.row.2.2.2,o4.row.2.2.2,o5.row.2.2.2⟩
theorem dS.Jc {w:World} {base:Nat} {a:IaD} {v:Value} (h:dS w base a v):∃ (a2:Option Addr) (c2:Nat) (a3:Option Addr) (c3:Nat) (a4:Option Addr) (c4:Nat) (a5:Option Addr) (c5:Nat),v=.agg #[.int .i64 a.states,.int .i64 a.init,.slice a2 a.ins.length c2,.slice a3 a.outs.length c3,.slice a4 a.ah.length c4,.slice a5 a.steps.length c5]:=by
 obtain ⟨x2,x3,x4,x5,rfl,o2,o3,o4,o5,_⟩:=h
 obtain ⟨b2,d2,rfl⟩:=o2.form
 obtain ⟨b3,d3,rfl⟩:=o3.form
 obtain ⟨b4,d4,rfl⟩:=o4.form
 obtain ⟨b5,d5,rfl⟩:=o5.form
 exact ⟨b2,d2,b3,d3,b4,d4,b5,d5,rfl⟩
theorem dS.apart {w:World} {base b:Nat} {a:IaD} {v:Value} (h:dS w base a v) (hb:w.heap.size≤b):∀ y0 y1 y2 y3 y4 y5:Value,v=.agg #[y0,y1,y2,y3,y4,y5]→y2.ownBlock≠some b∧y3.ownBlock≠some b∧y4.ownBlock≠some b∧y5.ownBlock≠some b:=by
 obtain ⟨x2,x3,x4,x5,rfl,o2,o3,o4,o5,p⟩:=h
 intro y0 y1 y2 y3 y4 y5 e
 obtain ⟨rfl,rfl,rfl,rfl,rfl,rfl⟩:Value.int .i64 a.states=y0∧Value.int .i64 a.init=y1∧x2=y2∧x3=y3∧x4=y4∧x5=y5:=by simpa using e
 exact ⟨fun h=>by have:=(o2.lt _ h).2;omega,fun h=>by have:=(o3.lt _ h).2;omega,fun h=>by have:=(o4.lt _ h).2;omega,fun h=>by have:=(o5.lt _ h).2;omega⟩
theorem dS.Gl {w w':World} {base g2 g3 g4 g5:Nat} {a:IaD} {v:Value} (h:dS w base a v) (hw:Bj w w' g2 g3 g4 g5) (l2:g2<base) (l3:g3<base) (l4:g4<base) (l5:g5<base):dS w' base a v:=by
 obtain ⟨x2,x3,x4,x5,e,o2,o3,o4,o5,p⟩:=h
 exact ⟨x2,x3,x4,x5,e,o2.pJ hw (fun k hk=>by have:=(o2.lt k hk).1;omega),o3.pJ hw (fun k hk=>by have:=(o3.lt k hk).1;omega),o4.pJ hw (fun k hk=>by have:=(o4.lt k hk).1;omega),o5.pJ hw (fun k hk=>by have:=(o5.lt k hk).1;omega),p⟩
theorem bM.yJ {w:World} {base:Nat} {a:IaD} {v:Value} (h:bM w base a v):aB w a v:=by
 obtain ⟨_,_,_,_,_,_,_,_,_,hr⟩:=h.rowOf
 exact hr
theorem bM.below {w w':World} {base:Nat} {a:IaD} {v:Value} (h:bM w base a v) (hb:Below w.heap.size w w'):bM w' base a v:=by
 obtain ⟨x2,x3,x4,x5,e,o2,o3,o4,o5⟩:=h
 exact ⟨x2,x3,x4,x5,e,o2.below hb,o3.below hb,o4.below hb,o5.below hb⟩
theorem bM.mono {w:World} {base base':Nat} {a:IaD} {v:Value} (h:bM w base' a v) (hb:base≤base'):bM w base a v:=by
 obtain ⟨x2,x3,x4,x5,e,o2,o3,o4,o5⟩:=h
 exact ⟨x2,x3,x4,x5,e,o2.mono hb,o3.mono hb,o4.mono hb,o5.mono hb⟩
theorem dS.high {w:World} {base:Nat} {a:IaD} {v:Value} (h:dS w base a v):bM w base a v:=by
 obtain ⟨x2,x3,x4,x5,e,o2,o3,o4,o5,_⟩:=h
 exact ⟨x2,x3,x4,x5,e,o2,o3,o4,o5⟩
theorem bM.az {W W':World} {base b:Nat} {a:IaD} {v:Value} {E:Array Value} (h:bM W base a v) (hv:ae W b E 27) (hg:W.grownBy W' (some b)):bM W' base a v:=by
 obtain ⟨x2,x3,x4,x5,e,o2,o3,o4,o5⟩:=h
 exact ⟨x2,x3,x4,x5,e,o2.az hv (by decide) hg,o3.az hv (by decide) hg,o4.az hv (by decide) hg,o5.keep hg (fun k hk he=>iF o5 hv (by decide) (hk.trans he))⟩
theorem dS.az {W W':World} {base b:Nat} {a:IaD} {v:Value} {E:Array Value} (h:dS W base a v) (hv:ae W b E 27) (hg:W.grownBy W' (some b)):dS W' base a v:=by
 obtain ⟨x2,x3,x4,x5,e,o2,o3,o4,o5,p⟩:=h
 exact ⟨x2,x3,x4,x5,e,o2.az hv (by decide) hg,o3.az hv (by decide) hg,o4.az hv (by decide) hg,o5.keep hg (fun k hk he=>iF o5 hv (by decide) (hk.trans he)),p⟩
open Go.RowKit
theorem BJ {x y z:Int} (h1 : -1000000≤x∧x≤1000000) (h2 : -1000000≤y∧y≤1000000) (h3 : -1000000≤z∧z≤1000000):qm (x,y,z):=by
 unfold qm
 simp only
 omega
theorem Gm {a:IaD} (h:aJ a=true):∀ x∈a.steps,0≤x.2.1∧x.2.1≤11:=by
 intro x hx
 obtain ⟨s1,s2,s3⟩:=pX h
 rcases (dH h x hx).2.2 with k|k|k
 ·exact dO s1 _ k
 ·exact dO s2 _ k
 ·exact dO s3 _ k
def NoNil (v:Value):Prop:=∃ (g2 n2 c2 g3 n3 c3 g4 n4 c4:Nat) (x0 x1 x5:Value),v=.agg #[x0,x1,.slice (some ⟨g2,0,none⟩) n2 c2,.slice (some ⟨g3,0,none⟩) n3 c3,.slice (some ⟨g4,0,none⟩) n4 c4,x5]
def KC (b:Bool) (v:Value):Prop:=b=true→NoNil v
theorem uC (a b:IaD) (v u:Value) (w:World) (h:aB w a v) (k:aB w b u) (fa:Small a) (fb:Small b) :
  Calls Tryz.prog 55 #[v,u] w fun e w'=>∃ v',e=.returned (.tuple #[v',.bool (fQ a b)])∧bM w' w.heap.size (gI a b) v'∧KC (fQ a b) v'∧Below w.heap.size w w':=by
 have CF:Hid (∀ W,Below w.heap.size w W→Calls Tryz.prog 101 #[v,u] W fun e w'=>e=.returned (.bool (iH a b))∧Below W.heap.size W w'):=fun W hW=>vg a b v u W (h.below hW) (k.below hW) fa fb
 have zJ:Hid (∀ W,Below w.heap.size w W→Calls Tryz.prog 102 #[v,u] W (dE W W.heap.size (iU a b))):=fun W hW=>vW a b v u W (h.below hW) (k.below hW) fa fb
 obtain ⟨q,hq⟩:∃ q,q=iH a b:=⟨_,rfl⟩
 have HOK:Hid (q=true→aJ a=true∧aJ b=true∧a.states*b.states≤40):=fun e=>iQ (by rw [← hq];exact e)
 have HSL:Hid (q=true→(aY a b).length≤12):=fun e=>DW (iQ (by rw [← hq];exact e)).1
 have HSE:Hid (q=true→iU a b=aY a b):=fun e=>by unfold iU;rw [← hq,e];rfl
 obtain ⟨PL,hPL⟩:∃ l,l=nN a b:=⟨_,rfl⟩
 obtain ⟨PT,hPT⟩:∃ l,l=mZ a b:=⟨_,rfl⟩
 have HPT:Hid (q=true→PT.Pairwise Ahead):=fun e=>by rw [hPT];exact qx (by rw [← hq];exact e)
 have HPM:Hid (∀ u,u∈PT↔u∈PL):=fun u=>by rw [hPT,hPL];exact sN
 have HPN:Hid (PT.length=PL.length):=by unfold Hid;rw [hPT,hPL];exact rX _
 have HPS:Hid (q=true→∀ u,u∈gJ (aY a b) b.states b.states.toNat a.steps b.steps++cu (aY a b) b.states a.states.toNat b.steps↔u∈PL):=fun e u=>by rw [hPL];exact Ja (by rw [← hq];exact e) u
 have HNL:Hid (q=true→PL.length≤192000):=fun e=>by
  obtain ⟨h1,h2,_⟩:=HOK.out e
  have s1:=aN h1
  have s2:=aN h2
  have l1:=dD h1
  have l2:=dD h2
  have m1:=tH (aY a b) b.states b.states.toNat a.steps
  have m2:=tJ (aY a b) b.states a.states.toNat b.steps
  have m3:=oV (aY a b) b.states b.steps a.steps
  have p1:a.steps.length*b.states.toNat≤400*40:=Nat.mul_le_mul l1 (by omega)
  have p2:b.steps.length*a.states.toNat≤400*40:=Nat.mul_le_mul l2 (by omega)
  have p3:a.steps.length*b.steps.length≤400*400:=Nat.mul_le_mul l1 l2
  rw [hPL]
  unfold nN
  rw [List.length_append,List.length_append]
  omega
 obtain ⟨ok,hok⟩:∃ r,r=fQ a b:=⟨_,rfl⟩
 obtain ⟨I,hI⟩:∃ I,I=gI a b:=⟨_,rfl⟩
 have HI:Hid (I=if ok then ⟨a.states*b.states,fJ b.states (a.init,b.init),dK (aT a.ins b.ins) (aY a b),dK (aT a.outs b.outs) (aY a b),aT (aT a.ah b.ah) (aY a b),PT⟩ else ja):=by unfold Hid;rw [hI,hok,hPT];rfl
 have HB_:Hid (ok=(q&&decide (PL.length≤400))):=by unfold Hid;rw [hok,hq,hPL];rfl
 rw [← hok,← hI]
 rw [← hq] at CF
 clear hq hok hI hPL hPT
 obtain ⟨a2,n2,c2,a3,n3,c3,a4,n4,c4,a5,n5,c5,rfl,r2,r3,r4,r5⟩:=h
 obtain ⟨b2,m2,d2,b3,m3,d3,b4,m4,d4,b5,m5,d5,rfl,q2,q3,q4,q5⟩:=k
 obtain ⟨st,it,ins,outs,ah,steps⟩:=a
 obtain ⟨su,iu,jns,aF,aG,ax⟩:=b
 obtain ⟨f2,f3,f4,f5⟩:=fa
 obtain ⟨g2,g3,g4,g5⟩:=fb
 simp only at r2 r3 r4 r5 q2 q3 q4 q5 f2 f3 f4 f5 g2 g3 g4 g5
 have HA:Hid (∀ W,Below w.heap.size w W→aB W ⟨st,it,ins,outs,ah,steps⟩ (.agg #[.int .i64 st,.int .i64 it,.slice a2 n2 c2,.slice a3 n3 c3,.slice a4 n4 c4,.slice a5 n5 c5])):=fun W hW=>aB.below ⟨a2,n2,c2,a3,n3,c3,a4,n4,c4,a5,n5,c5,rfl,r2,r3,r4,r5⟩ hW
 have HB:Hid (∀ W,Below w.heap.size w W→aB W ⟨su,iu,jns,aF,aG,ax⟩ (.agg #[.int .i64 su,.int .i64 iu,.slice b2 m2 d2,.slice b3 m3 d3,.slice b4 m4 d4,.slice b5 m5 d5])):=fun W hW=>aB.below ⟨b2,m2,d2,b3,m3,d3,b4,m4,d4,b5,m5,d5,rfl,q2,q3,q4,q5⟩ hW
 have S0:=Lib.hid (aI.start w (iaC st it a2 n2 c2 a3 n3 c3 a4 n4 c4 a5 n5 c5) (iaC su iu b2 m2 d2 b3 m3 d3 b4 m4 d4 b5 m5 d5) 27)
 have e2:=r2.1
 have e3:=r3.1
 have e4:=r4.1
 have k2:=q2.1
 have k3:=q3.1
 have k4:=q4.1
 rw [e2] at f2
 rw [e3] at f3
 rw [e4] at f4
 rw [k2] at g2
 rw [k3] at g3
 rw [k4] at g4
 have R2:=Lib.hid r2
 have R3:=Lib.hid r3
 have R4:=Lib.hid r4
 have R5:=Lib.hid r5
 have Q2:=Lib.hid q2
 have Q3:=Lib.hid q3
 have Q4:=Lib.hid q4
 have Q5:=Lib.hid q5
 clear r2 r3 r4 r5 q2 q3 q4 q5
 clear HA HB
 simp only at HOK HSL HSE HI HPS zJ
 obtain ⟨sh,hsh⟩:∃ l,l=aY ⟨st,it,ins,outs,ah,steps⟩ ⟨su,iu,jns,aF,aG,ax⟩:=⟨_,rfl⟩
 rw [← hsh] at HSL HSE HI HPS
 clear hsh
 have S0x:=S0.out.alloc (.cells #[.int .i64 0,.int .i64 0,.slice none 0 0,.slice none 0 0,.slice none 0 0,.slice none 0 0] 27)
 have S0:=Lib.hid S0x
 have TZ:Hid (ae (((w.alloc (.cells #[.int .i64 st,.int .i64 it,.slice a2 n2 c2,.slice a3 n3 c3,.slice a4 n4 c4,.slice a5 n5 c5] 27)).alloc (.cells #[.int .i64 su,.int .i64 iu,.slice b2 m2 d2,.slice b3 m3 d3,.slice b4 m4 d4,.slice b5 m5 d5] 27)).alloc (.cells #[.int .i64 0,.int .i64 0,.slice none 0 0,.slice none 0 0,.slice none 0 0,.slice none 0 0] 27)) (w.heap.size+2) #[.int .i64 0,.int .i64 0,.slice none 0 0,.slice none 0 0,.slice none 0 0,.slice none 0 0] 27):=ae.new ((w.alloc (.cells #[.int .i64 st,.int .i64 it,.slice a2 n2 c2,.slice a3 n3 c3,.slice a4 n4 c4,.slice a5 n5 c5] 27)).alloc (.cells #[.int .i64 su,.int .i64 iu,.slice b2 m2 d2,.slice b3 m3 d3,.slice b4 m4 d4,.slice b5 m5 d5] 27)) #[.int .i64 0,.int .i64 0,.slice none 0 0,.slice none 0 0,.slice none 0 0,.slice none 0 0] 27 (by simp)
 clear S0x
 obtain ⟨ca0,ca1,ca2,ca3,ca4,ca5⟩:=S0.out.2.1.aO
 obtain ⟨cb0,cb1,cb2,cb3,cb4,cb5⟩:=S0.out.2.2.aO
 go_enter Tryz.func55,Tryz.ntmps55
 go_wp2_with fail
 clear ca0 ca1 ca2 ca3 ca4 ca5 cb0 cb1 cb2 cb3 cb4 cb5
 refine (CF.out _ S0.out.1).mono ?_
 rintro e w1 ⟨rfl,hb⟩
 have S1:=Lib.hid (S0.out.below hb)
 have T1:=Lib.hid (TZ.out.below hb)
 clear hb S0 TZ CF
 cases q with
 | false =>
  have HOF:ok=false:=by rw [HB_.out];rfl
  subst HOF
  have THX:Hid (w1.there (w.heap.size+2) 0 6):=T1.out.there rfl
  have RGX:Hid ((w1.setCells (w.heap.size+2) 0 [.int .i64 0,.int .i64 0,.slice none 0 0,.slice none 0 0,.slice none 0 0,.slice none 0 0]).rangeAt (w.heap.size+2) 0 [.int .i64 0,.int .i64 0,.slice none 0 0,.slice none 0 0,.slice none 0 0,.slice none 0 0]):=World.rangeAt_setCells_same w1 (w.heap.size+2) 0 [.int .i64 0,.int .i64 0,.slice none 0 0,.slice none 0 0,.slice none 0 0,.slice none 0 0] (by simpa using THX.out)
  have GX:=Lib.hid (aA (w.heap.size+2) [.int .i64 0,.int .i64 0,.slice none 0 0,.slice none 0 0,.slice none 0 0,.slice none 0 0] 0 w1)
  have BX:Hid (Below w.heap.size w (w1.setCells (w.heap.size+2) 0 [.int .i64 0,.int .i64 0,.slice none 0 0,.slice none 0 0,.slice none 0 0,.slice none 0 0])):=S1.out.1.grown GX.out S1.out.1.size (fun q hq=>by have h1:=Option.some.inj hq;omega)
  have HIN:Hid (I=ja):=HI.out
  go_wp2_with (refine wpList_store_mid rfl _ _ _ rfl (w.heap.size+2) 0 #[.int .i64 0,.int .i64 0,.slice none 0 0,.slice none 0 0,.slice none 0 0,.slice none 0 0] rfl rfl THX.out (by kernel_rfl) (di _ _ _ _ _ _ _ _ _ _ _ _ _ _) ?_)
  refine bodyPost_ret (v:=.tuple #[.agg #[.int .i64 0,.int .i64 0,.slice none 0 0,.slice none 0 0,.slice none 0 0,.slice none 0 0],.bool false]) ?_ rfl ⟨.agg #[.int .i64 0,.int .i64 0,.slice none 0 0,.slice none 0 0,.slice none 0 0,.slice none 0 0],rfl,by rw [HIN.out];exact Ci _ _,(fun e=>by cases e),BX.out⟩
  have HC0:=RGX.out 0 _ rfl
  have HC1:=RGX.out 1 _ rfl
  have HC2:=RGX.out 2 _ rfl
  have HC3:=RGX.out 3 _ rfl
  have HC4:=RGX.out 4 _ rfl
  have HC5:=RGX.out 5 _ rfl
  simp only [Nat.zero_add] at HC0 HC1 HC2 HC3 HC4 HC5
  simp [results,Tryz.results55,go_sem,HC0,HC1,HC2,HC3,HC4,HC5]
 | true =>
  have hok:=HOK.out (by simp)
  have hsl:=HSL.out (by simp)
  have hnl:=HNL.out (by simp)
  have BH:=Lib.hid (HPS.out (by simp))
  have HPT2:=Lib.hid (HPT.out (by simp))
  have HSE2:=Lib.hid (HSE.out (by simp))
  have hsA:=aN hok.1
  have hsB:=aN hok.2.1
  have hiA:=gV hok.1
  have hiB:=gV hok.2.1
  have hlA:=dD hok.1
  have hlB:=dD hok.2.1
  have HEA:=Lib.hid (dH hok.1)
  have HEB:=Lib.hid (dH hok.2.1)
  have HTA:=Lib.hid (Gm hok.1)
  have HTB:=Lib.hid (Gm hok.2.1)
  simp only at hsA hsB hiA hiB hlA hlB HEA HEB HTA HTB
  have HMUL:0≤st*su∧st*su≤1600:=mX (by omega) (by omega)
  have HMUI:(0≤it*su∧it*su≤1600)∧0≤iu∧iu≤40:=⟨mX (by omega) (by omega),by omega⟩
  clear HOK HSL HNL hok HPS HPT HSE
  obtain ⟨ca0,ca1,ca2,ca3,ca4,ca5⟩:=S1.out.2.1.aO
  obtain ⟨cb0,cb1,cb2,cb3,cb4,cb5⟩:=S1.out.2.2.aO
  go_wp2_with fail
  clear ca0 ca1 ca2 ca3 ca4 ca5 cb0 cb1 cb2 cb3 cb4 cb5
  obtain ⟨sn,hsn⟩:∃ n,n=sh.length:=⟨_,rfl⟩
  have CSH:Hid (∀ W,Below w.heap.size w W→Calls Tryz.prog 102 #[.agg #[.int .i64 st,.int .i64 it,.slice a2 n2 c2,.slice a3 n3 c3,.slice a4 n4 c4,.slice a5 n5 c5],.agg #[.int .i64 su,.int .i64 iu,.slice b2 m2 d2,.slice b3 m3 d3,.slice b4 m4 d4,.slice b5 m5 d5]] W fun e w'=>∃ g c,e=.returned (.slice (some ⟨g,0,none⟩) sn c)∧aj w' W.heap.size (.slice (some ⟨g,0,none⟩) sn c) sn sh∧Below W.heap.size W w'):=fun W hW=>by
   have:=zJ.out W hW
   rw [HSE2.out] at this
   rw [hsn]
   exact this
  rw [← hsn] at hsl
  refine (CSH.out _ S1.out.1).mono ?_
  rintro e w2 ⟨gs,cs,rfl,ho,hb⟩
  have S2:=Lib.hid (S1.out.below hb)
  have T2:=Lib.hid (T1.out.below hb)
  have P2:=Lib.hid (ho.mono (base:=w.heap.size) S1.out.1.size)
  obtain ⟨ini,zM⟩:∃ x,x=it*su+iu:=⟨_,rfl⟩
  have HINI:=Lib.hid zM
  have HIN0:Hid (ok=false→I=ja):=fun e=>by
   have h1:=HI.out
   rw [e] at h1
   exact h1
  have HIT:Hid (ok=true→I=⟨st*su,ini,dK (aT ins jns) sh,dK (aT outs aF) sh,aT (aT ah aG) sh,PT⟩):=fun e=>by
   have h1:=HI.out
   rw [e] at h1
   rw [zM]
   exact h1
  obtain ⟨LJ1,hLJ1⟩:∃ l,l=aT ins jns:=⟨_,rfl⟩
  obtain ⟨LJ2,hLJ2⟩:∃ l,l=aT outs aF:=⟨_,rfl⟩
  obtain ⟨LJ3,hLJ3⟩:∃ l,l=aT ah aG:=⟨_,rfl⟩
  rw [← hLJ1,← hLJ2,← hLJ3] at HIT
  obtain ⟨LX2,hLX2⟩:∃ l,l=dK LJ1 sh:=⟨_,rfl⟩
  obtain ⟨LX3,hLX3⟩:∃ l,l=dK LJ2 sh:=⟨_,rfl⟩
  obtain ⟨LX4,hLX4⟩:∃ l,l=aT LJ3 sh:=⟨_,rfl⟩
  rw [← hLX2,← hLX3,← hLX4] at HIT
  have hl1:LJ1.length≤2097152:=by rw [hLJ1];have:=iT ins jns;omega
  have hl2:LJ2.length≤2097152:=by rw [hLJ2];have:=iT outs aF;omega
  have hl3:LJ3.length≤2097152:=by rw [hLJ3];have:=iT ah aG;omega
  clear hb ho hsn S1 T1 zJ CSH HSE2 zM HI
  have CJ1:Hid (∀ W,aI w W w.heap.size (w.heap.size+1) 27 (iaC st it a2 n2 c2 a3 n3 c3 a4 n4 c4 a5 n5 c5) (iaC su iu b2 m2 d2 b3 m3 d3 b4 m4 d4 b5 m5 d5)→Calls Tryz.prog 104 #[.slice a2 n2 c2,.slice b2 m2 d2] W fun e w'=>∃ g cc,e=.returned (.slice (some ⟨g,0,none⟩) LJ1.length cc)∧aj w' W.heap.size (.slice (some ⟨g,0,none⟩) LJ1.length cc) LJ1.length LJ1∧Below W.heap.size W w'):=fun W hW=>by
   rw [hLJ1]
   exact fE a2 b2 n2 c2 m2 d2 ins jns W (R2.out.below hW.1) (Q2.out.below hW.1) (by omega) (by omega)
  have CJ2:Hid (∀ W,aI w W w.heap.size (w.heap.size+1) 27 (iaC st it a2 n2 c2 a3 n3 c3 a4 n4 c4 a5 n5 c5) (iaC su iu b2 m2 d2 b3 m3 d3 b4 m4 d4 b5 m5 d5)→Calls Tryz.prog 104 #[.slice a3 n3 c3,.slice b3 m3 d3] W fun e w'=>∃ g cc,e=.returned (.slice (some ⟨g,0,none⟩) LJ2.length cc)∧aj w' W.heap.size (.slice (some ⟨g,0,none⟩) LJ2.length cc) LJ2.length LJ2∧Below W.heap.size W w'):=fun W hW=>by
   rw [hLJ2]
   exact fE a3 b3 n3 c3 m3 d3 outs aF W (R3.out.below hW.1) (Q3.out.below hW.1) (by omega) (by omega)
  have CJ3:Hid (∀ W,aI w W w.heap.size (w.heap.size+1) 27 (iaC st it a2 n2 c2 a3 n3 c3 a4 n4 c4 a5 n5 c5) (iaC su iu b2 m2 d2 b3 m3 d3 b4 m4 d4 b5 m5 d5)→Calls Tryz.prog 104 #[.slice a4 n4 c4,.slice b4 m4 d4] W fun e w'=>∃ g cc,e=.returned (.slice (some ⟨g,0,none⟩) LJ3.length cc)∧aj w' W.heap.size (.slice (some ⟨g,0,none⟩) LJ3.length cc) LJ3.length LJ3∧Below W.heap.size W w'):=fun W hW=>by
   rw [hLJ3]
   exact fE a4 b4 n4 c4 m4 d4 ah aG W (R4.out.below hW.1) (Q4.out.below hW.1) (by omega) (by omega)
  have CL1:Hid (∀ W g cc,aj W w.heap.size (.slice (some ⟨g,0,none⟩) LJ1.length cc) LJ1.length LJ1→aj W w.heap.size (.slice (some ⟨gs,0,none⟩) sn cs) sn sh→Calls Tryz.prog 103 #[.slice (some ⟨g,0,none⟩) LJ1.length cc,.slice (some ⟨gs,0,none⟩) sn cs] W fun e w'=>∃ g cc,e=.returned (.slice (some ⟨g,0,none⟩) LX2.length cc)∧aj w' W.heap.size (.slice (some ⟨g,0,none⟩) LX2.length cc) LX2.length LX2∧Below W.heap.size W w'):=fun W g cc h1 h2=>by
   rw [hLX2]
   exact uK (some ⟨g,0,none⟩) (some ⟨gs,0,none⟩) LJ1.length cc sn cs LJ1 sh W h1.row.2.2.2 h2.row.2.2.2 (by omega) (by omega)
  have CL2:Hid (∀ W g cc,aj W w.heap.size (.slice (some ⟨g,0,none⟩) LJ2.length cc) LJ2.length LJ2→aj W w.heap.size (.slice (some ⟨gs,0,none⟩) sn cs) sn sh→Calls Tryz.prog 103 #[.slice (some ⟨g,0,none⟩) LJ2.length cc,.slice (some ⟨gs,0,none⟩) sn cs] W fun e w'=>∃ g cc,e=.returned (.slice (some ⟨g,0,none⟩) LX3.length cc)∧aj w' W.heap.size (.slice (some ⟨g,0,none⟩) LX3.length cc) LX3.length LX3∧Below W.heap.size W w'):=fun W g cc h1 h2=>by
   rw [hLX3]
   exact uK (some ⟨g,0,none⟩) (some ⟨gs,0,none⟩) LJ2.length cc sn cs LJ2 sh W h1.row.2.2.2 h2.row.2.2.2 (by omega) (by omega)
  have CL3:Hid (∀ W g cc,aj W w.heap.size (.slice (some ⟨g,0,none⟩) LJ3.length cc) LJ3.length LJ3→aj W w.heap.size (.slice (some ⟨gs,0,none⟩) sn cs) sn sh→Calls Tryz.prog 104 #[.slice (some ⟨g,0,none⟩) LJ3.length cc,.slice (some ⟨gs,0,none⟩) sn cs] W fun e w'=>∃ g cc,e=.returned (.slice (some ⟨g,0,none⟩) LX4.length cc)∧aj w' W.heap.size (.slice (some ⟨g,0,none⟩) LX4.length cc) LX4.length LX4∧Below W.heap.size W w'):=fun W g cc h1 h2=>by
   rw [hLX4]
   exact fE (some ⟨g,0,none⟩) (some ⟨gs,0,none⟩) LJ3.length cc sn cs LJ3 sh W h1.row.2.2.2 h2.row.2.2.2 (by omega) (by omega)
  clear hLJ1 hLJ2 hLJ3 hLX2 hLX3 hLX4
  go_wp2_with fail
  have SD:=S2.out.drew
  have TD:Hid (ae w2.drew (w.heap.size+2) #[.int .i64 0,.int .i64 0,.slice none 0 0,.slice none 0 0,.slice none 0 0,.slice none 0 0] 27):=T2.out
  have PD:Hid (aj w2.drew w.heap.size (.slice (some ⟨gs,0,none⟩) sn cs) sn sh):=P2.out
  clear S2 T2 P2
  refine fK (S:=fun w'=>aI w w' w.heap.size (w.heap.size+1) 27 (iaC st it a2 n2 c2 a3 n3 c3 a4 n4 c4 a5 n5 c5) (iaC su iu b2 m2 d2 b3 m3 d3 b4 m4 d4 b5 m5 d5)) 37 (by kernel_rfl) (by kernel_rfl) (by kernel_rfl) SD (fun hHeld=>?_)
  refine aZ 0 24 (.pointer (some ⟨w.heap.size,0,none⟩)) (.tmp 2) (.pointer (some ⟨w.heap.size,0,none⟩)) (fuel:=36) rfl rfl (by kernel_rfl) (fun _ _ _ h=>h) (by kernel_rfl) (by kernel_rfl) (fun ρ hr0 _ w hSw=>by simp [go_sem,hr0]) hHeld (tf 1 37) (by kernel_rfl) (fun K hK=>?_)
  go_big_move
  refine hK.out _ ?_
  clear hK K
  refine aZ 1 25 (.int .i64 st) (.tmp 24) (.pointer (some ⟨w.heap.size,0,none⟩)) (fuel:=35) rfl rfl (by kernel_rfl) (fun _ _ _ h=>h) (by kernel_rfl) (by kernel_rfl) (fun ρ hr0 _ w hSw=>by have m:=hSw.2.1.cell (j:=0) (u:=.int .i64 st) rfl;simp [go_sem,hr0,m]) hHeld (tf 3 37) (by kernel_rfl) (fun K hK=>?_)
  go_big_move
  refine hK.out _ ?_
  clear hK K
  refine aZ 2 26 (.pointer (some ⟨w.heap.size+1,0,none⟩)) (.tmp 3) (.pointer (some ⟨w.heap.size+1,0,none⟩)) (fuel:=34) rfl rfl (by kernel_rfl) (fun _ _ _ h=>h) (by kernel_rfl) (by kernel_rfl) (fun ρ hr0 _ w hSw=>by simp [go_sem,hr0]) hHeld (tf 7 37) (by kernel_rfl) (fun K hK=>?_)
  go_big_move
  refine hK.out _ ?_
  clear hK K
  refine aZ 3 27 (.int .i64 su) (.tmp 26) (.pointer (some ⟨w.heap.size+1,0,none⟩)) (fuel:=33) rfl rfl (by kernel_rfl) (fun _ _ _ h=>h) (by kernel_rfl) (by kernel_rfl) (fun ρ hr0 _ w hSw=>by have m:=hSw.2.2.cell (j:=0) (u:=.int .i64 su) rfl;simp [go_sem,hr0,m]) hHeld (tf 15 37) (by kernel_rfl) (fun K hK=>?_)
  go_big_move
  refine hK.out _ ?_
  clear hK K
  refine ku 4 28 (.int .i64 (st*su)) (.tmp 25) (.int .i64 st) (.tmp 27) (.int .i64 su) (fuel:=32) rfl rfl (by kernel_rfl) (fun _ _ _ h=>h) (by kernel_rfl) (by kernel_rfl) (by kernel_rfl) (fun ρ hr0 hr1 _ w hSw=>by simp [go_sem,hr0,hr1];exact Go.IntWalk.i64_in _ (by have h1:=HMUL;omega)) hHeld (tf 31 37) (by kernel_rfl) (fun K hK=>?_)
  go_big_move
  refine hK.out _ ?_
  clear hK K
  refine aZ 5 29 (.pointer (some ⟨w.heap.size,1,none⟩)) (.tmp 2) (.pointer (some ⟨w.heap.size,0,none⟩)) (fuel:=31) rfl rfl (by kernel_rfl) (fun _ _ _ h=>h) (by kernel_rfl) (by kernel_rfl) (fun ρ hr0 _ w hSw=>by simp [go_sem,hr0]) hHeld (tf 63 37) (by kernel_rfl) (fun K hK=>?_)
  go_big_move
  refine hK.out _ ?_
  clear hK K
  refine aZ 6 30 (.int .i64 it) (.tmp 29) (.pointer (some ⟨w.heap.size,1,none⟩)) (fuel:=30) rfl rfl (by kernel_rfl) (fun _ _ _ h=>h) (by kernel_rfl) (by kernel_rfl) (fun ρ hr0 _ w hSw=>by have m:=hSw.2.1.cell (j:=1) (u:=.int .i64 it) rfl;simp [go_sem,hr0,m]) hHeld (tf 127 37) (by kernel_rfl) (fun K hK=>?_)
  go_big_move
  refine hK.out _ ?_
  clear hK K
  refine aZ 7 31 (.pointer (some ⟨w.heap.size+1,0,none⟩)) (.tmp 3) (.pointer (some ⟨w.heap.size+1,0,none⟩)) (fuel:=29) rfl rfl (by kernel_rfl) (fun _ _ _ h=>h) (by kernel_rfl) (by kernel_rfl) (fun ρ hr0 _ w hSw=>by simp [go_sem,hr0]) hHeld (tf 255 37) (by kernel_rfl) (fun K hK=>?_)
  go_big_move
  refine hK.out _ ?_
  clear hK K
  refine aZ 8 32 (.int .i64 su) (.tmp 31) (.pointer (some ⟨w.heap.size+1,0,none⟩)) (fuel:=28) rfl rfl (by kernel_rfl) (fun _ _ _ h=>h) (by kernel_rfl) (by kernel_rfl) (fun ρ hr0 _ w hSw=>by have m:=hSw.2.2.cell (j:=0) (u:=.int .i64 su) rfl;simp [go_sem,hr0,m]) hHeld (tf 511 37) (by kernel_rfl) (fun K hK=>?_)
  go_big_move
  refine hK.out _ ?_
  clear hK K
  refine ku 9 33 (.int .i64 (it*su)) (.tmp 30) (.int .i64 it) (.tmp 32) (.int .i64 su) (fuel:=27) rfl rfl (by kernel_rfl) (fun _ _ _ h=>h) (by kernel_rfl) (by kernel_rfl) (by kernel_rfl) (fun ρ hr0 hr1 _ w hSw=>by simp [go_sem,hr0,hr1];exact Go.IntWalk.i64_in _ (by have h1:=HMUI;omega)) hHeld (tf 1023 37) (by kernel_rfl) (fun K hK=>?_)
  go_big_move
  refine hK.out _ ?_
  clear hK K
  refine aZ 10 34 (.pointer (some ⟨w.heap.size+1,1,none⟩)) (.tmp 3) (.pointer (some ⟨w.heap.size+1,0,none⟩)) (fuel:=26) rfl rfl (by kernel_rfl) (fun _ _ _ h=>h) (by kernel_rfl) (by kernel_rfl) (fun ρ hr0 _ w hSw=>by simp [go_sem,hr0]) hHeld (tf 2047 37) (by kernel_rfl) (fun K hK=>?_)
  go_big_move
  refine hK.out _ ?_
  clear hK K
  refine aZ 11 35 (.int .i64 iu) (.tmp 34) (.pointer (some ⟨w.heap.size+1,1,none⟩)) (fuel:=25) rfl rfl (by kernel_rfl) (fun _ _ _ h=>h) (by kernel_rfl) (by kernel_rfl) (fun ρ hr0 _ w hSw=>by have m:=hSw.2.2.cell (j:=1) (u:=.int .i64 iu) rfl;simp [go_sem,hr0,m]) hHeld (tf 4095 37) (by kernel_rfl) (fun K hK=>?_)
  go_big_move
  refine hK.out _ ?_
  clear hK K
  refine ku 12 36 (.int .i64 ini) (.tmp 33) (.int .i64 (it*su)) (.tmp 35) (.int .i64 iu) (fuel:=24) rfl rfl (by kernel_rfl) (fun _ _ _ h=>h) (by kernel_rfl) (by kernel_rfl) (by kernel_rfl) (fun ρ hr0 hr1 _ w hSw=>by simp [go_sem,hr0,hr1];rw [HINI.out];exact Go.IntWalk.i64_in _ (by have h1:=HMUI;omega)) hHeld (tf 8191 37) (by kernel_rfl) (fun K hK=>?_)
  go_big_move
  refine hK.out _ ?_
  clear hK K
  refine aZ 13 37 (.pointer (some ⟨w.heap.size,2,none⟩)) (.tmp 2) (.pointer (some ⟨w.heap.size,0,none⟩)) (fuel:=23) rfl rfl (by kernel_rfl) (fun _ _ _ h=>h) (by kernel_rfl) (by kernel_rfl) (fun ρ hr0 _ w hSw=>by simp [go_sem,hr0]) hHeld (tf 16383 37) (by kernel_rfl) (fun K hK=>?_)
  go_big_move
  refine hK.out _ ?_
  clear hK K
  refine aZ 14 38 (.slice a2 n2 c2) (.tmp 37) (.pointer (some ⟨w.heap.size,2,none⟩)) (fuel:=22) rfl rfl (by kernel_rfl) (fun _ _ _ h=>h) (by kernel_rfl) (by kernel_rfl) (fun ρ hr0 _ w hSw=>by have m:=hSw.2.1.cell (j:=2) (u:=.slice a2 n2 c2) rfl;simp [go_sem,hr0,m]) hHeld (tf 32767 37) (by kernel_rfl) (fun K hK=>?_)
  go_big_move
  refine hK.out _ ?_
  clear hK K
  refine aZ 15 39 (.pointer (some ⟨w.heap.size+1,2,none⟩)) (.tmp 3) (.pointer (some ⟨w.heap.size+1,0,none⟩)) (fuel:=21) rfl rfl (by kernel_rfl) (fun _ _ _ h=>h) (by kernel_rfl) (by kernel_rfl) (fun ρ hr0 _ w hSw=>by simp [go_sem,hr0]) hHeld (tf 65535 37) (by kernel_rfl) (fun K hK=>?_)
  go_big_move
  refine hK.out _ ?_
  clear hK K
  refine aZ 16 40 (.slice b2 m2 d2) (.tmp 39) (.pointer (some ⟨w.heap.size+1,2,none⟩)) (fuel:=20) rfl rfl (by kernel_rfl) (fun _ _ _ h=>h) (by kernel_rfl) (by kernel_rfl) (fun ρ hr0 _ w hSw=>by have m:=hSw.2.2.cell (j:=2) (u:=.slice b2 m2 d2) rfl;simp [go_sem,hr0,m]) hHeld (tf 131071 37) (by kernel_rfl) (fun K hK=>?_)
  go_big_move
  refine hK.out _ ?_
  clear hK K
  refine aW 18 42 (.slice (some ⟨gs,0,none⟩) sn cs) (.tmp 6) (fuel:=19) rfl rfl (by kernel_rfl) (fun _ _ _ h=>h) (by kernel_rfl) (by kernel_rfl) (by first|exact Or.inl rfl|exact Or.inr rfl) hHeld (tf 393215 37) (by kernel_rfl) (fun K hK=>?_)
  go_big_move
  refine hK.out _ ?_
  clear hK K
  refine aZ 20 44 (.pointer (some ⟨w.heap.size,3,none⟩)) (.tmp 2) (.pointer (some ⟨w.heap.size,0,none⟩)) (fuel:=18) rfl rfl (by kernel_rfl) (fun _ _ _ h=>h) (by kernel_rfl) (by kernel_rfl) (fun ρ hr0 _ w hSw=>by simp [go_sem,hr0]) hHeld (tf 1441791 37) (by kernel_rfl) (fun K hK=>?_)
  go_big_move
  refine hK.out _ ?_
  clear hK K
  refine aZ 21 45 (.slice a3 n3 c3) (.tmp 44) (.pointer (some ⟨w.heap.size,3,none⟩)) (fuel:=17) rfl rfl (by kernel_rfl) (fun _ _ _ h=>h) (by kernel_rfl) (by kernel_rfl) (fun ρ hr0 _ w hSw=>by have m:=hSw.2.1.cell (j:=3) (u:=.slice a3 n3 c3) rfl;simp [go_sem,hr0,m]) hHeld (tf 3538943 37) (by kernel_rfl) (fun K hK=>?_)
  go_big_move
  refine hK.out _ ?_
  clear hK K
  refine aZ 22 46 (.pointer (some ⟨w.heap.size+1,3,none⟩)) (.tmp 3) (.pointer (some ⟨w.heap.size+1,0,none⟩)) (fuel:=16) rfl rfl (by kernel_rfl) (fun _ _ _ h=>h) (by kernel_rfl) (by kernel_rfl) (fun ρ hr0 _ w hSw=>by simp [go_sem,hr0]) hHeld (tf 7733247 37) (by kernel_rfl) (fun K hK=>?_)
  go_big_move
  refine hK.out _ ?_
  clear hK K
  refine aZ 23 47 (.slice b3 m3 d3) (.tmp 46) (.pointer (some ⟨w.heap.size+1,3,none⟩)) (fuel:=15) rfl rfl (by kernel_rfl) (fun _ _ _ h=>h) (by kernel_rfl) (by kernel_rfl) (fun ρ hr0 _ w hSw=>by have m:=hSw.2.2.cell (j:=3) (u:=.slice b3 m3 d3) rfl;simp [go_sem,hr0,m]) hHeld (tf 16121855 37) (by kernel_rfl) (fun K hK=>?_)
  go_big_move
  refine hK.out _ ?_
  clear hK K
  refine aW 25 49 (.slice (some ⟨gs,0,none⟩) sn cs) (.tmp 6) (fuel:=14) rfl rfl (by kernel_rfl) (fun _ _ _ h=>h) (by kernel_rfl) (by kernel_rfl) (by first|exact Or.inl rfl|exact Or.inr rfl) hHeld (tf 49676287 37) (by kernel_rfl) (fun K hK=>?_)
  go_big_move
  refine hK.out _ ?_
  clear hK K
  refine aZ 27 51 (.pointer (some ⟨w.heap.size,4,none⟩)) (.tmp 2) (.pointer (some ⟨w.heap.size,0,none⟩)) (fuel:=13) rfl rfl (by kernel_rfl) (fun _ _ _ h=>h) (by kernel_rfl) (by kernel_rfl) (fun ρ hr0 _ w hSw=>by simp [go_sem,hr0]) hHeld (tf 183894015 37) (by kernel_rfl) (fun K hK=>?_)
  go_big_move
  refine hK.out _ ?_
  clear hK K
  refine aZ 28 52 (.slice a4 n4 c4) (.tmp 51) (.pointer (some ⟨w.heap.size,4,none⟩)) (fuel:=12) rfl rfl (by kernel_rfl) (fun _ _ _ h=>h) (by kernel_rfl) (by kernel_rfl) (fun ρ hr0 _ w hSw=>by have m:=hSw.2.1.cell (j:=4) (u:=.slice a4 n4 c4) rfl;simp [go_sem,hr0,m]) hHeld (tf 452329471 37) (by kernel_rfl) (fun K hK=>?_)
  go_big_move
  refine hK.out _ ?_
  clear hK K
  refine aZ 29 53 (.pointer (some ⟨w.heap.size+1,4,none⟩)) (.tmp 3) (.pointer (some ⟨w.heap.size+1,0,none⟩)) (fuel:=11) rfl rfl (by kernel_rfl) (fun _ _ _ h=>h) (by kernel_rfl) (by kernel_rfl) (fun ρ hr0 _ w hSw=>by simp [go_sem,hr0]) hHeld (tf 989200383 37) (by kernel_rfl) (fun K hK=>?_)
  go_big_move
  refine hK.out _ ?_
  clear hK K
  refine aZ 30 54 (.slice b4 m4 d4) (.tmp 53) (.pointer (some ⟨w.heap.size+1,4,none⟩)) (fuel:=10) rfl rfl (by kernel_rfl) (fun _ _ _ h=>h) (by kernel_rfl) (by kernel_rfl) (fun ρ hr0 _ w hSw=>by have m:=hSw.2.2.cell (j:=4) (u:=.slice b4 m4 d4) rfl;simp [go_sem,hr0,m]) hHeld (tf 2062942207 37) (by kernel_rfl) (fun K hK=>?_)
  go_big_move
  refine hK.out _ ?_
  clear hK K
  refine aW 32 56 (.slice (some ⟨gs,0,none⟩) sn cs) (.tmp 6) (fuel:=9) rfl rfl (by kernel_rfl) (fun _ _ _ h=>h) (by kernel_rfl) (by kernel_rfl) (by first|exact Or.inl rfl|exact Or.inr rfl) hHeld (tf 6357909503 37) (by kernel_rfl) (fun K hK=>?_)
  go_big_move
  refine hK.out _ ?_
  clear hK K
  refine zO (ι:=Nat × Nat × Nat × Nat × Nat × Nat × Nat × Nat × Nat × Nat × Nat × Nat × Nat) (fun i=>⟨#[.agg #[.int .i64 st,.int .i64 it,.slice a2 n2 c2,.slice a3 n3 c3,.slice a4 n4 c4,.slice a5 n5 c5],.agg #[.int .i64 su,.int .i64 iu,.slice b2 m2 d2,.slice b3 m3 d3,.slice b4 m4 d4,.slice b5 m5 d5],.pointer (some ⟨w.heap.size,0,none⟩),.pointer (some ⟨w.heap.size+1,0,none⟩),.pointer (some ⟨w.heap.size+2,0,none⟩),.bool false,.slice (some ⟨gs,0,none⟩) sn cs,.pointer (some ⟨i.1,0,none⟩),undef,undef,undef,undef,undef,undef,undef,undef,.agg #[.int .i64 st,.int .i64 it,.slice a2 n2 c2,.slice a3 n3 c3,.slice a4 n4 c4,.slice a5 n5 c5],.agg #[.int .i64 su,.int .i64 iu,.slice b2 m2 d2,.slice b3 m3 d3,.slice b4 m4 d4,.slice b5 m5 d5],.bool true,.bool false,undef,.agg #[.int .i64 st,.int .i64 it,.slice a2 n2 c2,.slice a3 n3 c3,.slice a4 n4 c4,.slice a5 n5 c5],.agg #[.int .i64 su,.int .i64 iu,.slice b2 m2 d2,.slice b3 m3 d3,.slice b4 m4 d4,.slice b5 m5 d5],.slice (some ⟨gs,0,none⟩) sn cs,.pointer (some ⟨w.heap.size,0,none⟩),.int .i64 st,.pointer (some ⟨w.heap.size+1,0,none⟩),.int .i64 su,.int .i64 (st*su),.pointer (some ⟨w.heap.size,1,none⟩),.int .i64 it,.pointer (some ⟨w.heap.size+1,0,none⟩),.int .i64 su,.int .i64 (it*su),.pointer (some ⟨w.heap.size+1,1,none⟩),.int .i64 iu,.int .i64 ini,.pointer (some ⟨w.heap.size,2,none⟩),.slice a2 n2 c2,.pointer (some ⟨w.heap.size+1,2,none⟩),.slice b2 m2 d2,.slice (some ⟨i.2.1,0,none⟩) LJ1.length i.2.2.1,.slice (some ⟨gs,0,none⟩) sn cs,.slice (some ⟨i.2.2.2.1,0,none⟩) LX2.length i.2.2.2.2.1,.pointer (some ⟨w.heap.size,3,none⟩),.slice a3 n3 c3,.pointer (some ⟨w.heap.size+1,3,none⟩),.slice b3 m3 d3,.slice (some ⟨i.2.2.2.2.2.1,0,none⟩) LJ2.length i.2.2.2.2.2.2.1,.slice (some ⟨gs,0,none⟩) sn cs,.slice (some ⟨i.2.2.2.2.2.2.2.1,0,none⟩) LX3.length i.2.2.2.2.2.2.2.2.1,.pointer (some ⟨w.heap.size,4,none⟩),.slice a4 n4 c4,.pointer (some ⟨w.heap.size+1,4,none⟩),.slice b4 m4 d4,.slice (some ⟨i.2.2.2.2.2.2.2.2.2.1,0,none⟩) LJ3.length i.2.2.2.2.2.2.2.2.2.2.1,.slice (some ⟨gs,0,none⟩) sn cs,.slice (some ⟨i.2.2.2.2.2.2.2.2.2.2.2.1,0,none⟩) LX4.length i.2.2.2.2.2.2.2.2.2.2.2.2,.agg #[.int .i64 (st*su),.int .i64 ini,.slice (some ⟨i.2.2.2.1,0,none⟩) LX2.length i.2.2.2.2.1,.slice (some ⟨i.2.2.2.2.2.2.2.1,0,none⟩) LX3.length i.2.2.2.2.2.2.2.2.1,.slice (some ⟨i.2.2.2.2.2.2.2.2.2.2.2.1,0,none⟩) LX4.length i.2.2.2.2.2.2.2.2.2.2.2.2,.slice none 0 0],undef,undef,undef,undef,undef,undef,undef,undef,undef,undef,undef,undef,undef,undef,undef,undef,undef,undef,undef,undef,undef,undef,undef,undef,undef,undef,undef,undef,undef,undef,undef,undef,undef,undef,undef,undef,undef,undef,undef,undef,undef,undef,undef,undef,undef,undef,undef,undef,undef,undef,undef,undef,undef,undef,undef,undef,undef,undef,undef,undef,undef,undef,undef,undef,undef,undef,undef,undef,undef,undef,undef,undef,undef,undef,undef,undef,undef,undef,undef,undef,undef,undef,undef,undef,undef,undef,undef,undef,undef,undef,undef,undef,undef,undef,undef,undef,undef,undef,undef,undef,undef,undef,undef,undef,undef,undef,undef,undef,undef,undef,undef,undef,undef,undef,undef,undef,undef,undef,undef,undef,undef,undef,undef,undef,undef,undef,undef,undef,undef,undef,undef],[]⟩) (fun i we=>aI w we w.heap.size (w.heap.size+1) 27 (iaC st it a2 n2 c2 a3 n3 c3 a4 n4 c4 a5 n5 c5) (iaC su iu b2 m2 d2 b3 m3 d3 b4 m4 d4 b5 m5 d5)∧ae we (w.heap.size+2) #[.int .i64 0,.int .i64 0,.slice none 0 0,.slice none 0 0,.slice none 0 0,.slice none 0 0] 27∧aj we w.heap.size (.slice (some ⟨gs,0,none⟩) sn cs) sn sh∧ae we i.1 #[.int .i64 (st*su),.int .i64 ini,.slice (some ⟨i.2.2.2.1,0,none⟩) LX2.length i.2.2.2.2.1,.slice (some ⟨i.2.2.2.2.2.2.2.1,0,none⟩) LX3.length i.2.2.2.2.2.2.2.2.1,.slice (some ⟨i.2.2.2.2.2.2.2.2.2.2.2.1,0,none⟩) LX4.length i.2.2.2.2.2.2.2.2.2.2.2.2,.slice none 0 0] 27∧aj we w.heap.size (.slice (some ⟨i.2.2.2.1,0,none⟩) LX2.length i.2.2.2.2.1) LX2.length LX2∧aj we w.heap.size (.slice (some ⟨i.2.2.2.2.2.2.2.1,0,none⟩) LX3.length i.2.2.2.2.2.2.2.2.1) LX3.length LX3∧aj we w.heap.size (.slice (some ⟨i.2.2.2.2.2.2.2.2.2.2.2.1,0,none⟩) LX4.length i.2.2.2.2.2.2.2.2.2.2.2.2) LX4.length LX4∧w.heap.size+2<i.1) ?_ (fun REST=>?_)
  ·rintro ⟨bo,j1g,j1c,g2,e2x,j2g,j2c,g3,e3x,j3g,j3c,g4,e4x⟩ we ⟨hS,hr,hs,hv,h2,h3,h4,hbo⟩
   simp only at hS hr hs hv h2 h3 h4 hbo ⊢
   clear hHeld SD TD PD CJ1 CJ2 CJ3 CL1 CL2 CL3
   have BE:=Lib.hid hS.1
   obtain ⟨AA,hAA⟩:∃ x,x=(iaC st it a2 n2 c2 a3 n3 c3 a4 n4 c4 a5 n5 c5):=⟨_,rfl⟩
   obtain ⟨BB,hBB⟩:∃ x,x=(iaC su iu b2 m2 d2 b3 m3 d3 b4 m4 d4 b5 m5 d5):=⟨_,rfl⟩
   have HA5:Hid (AA[5]?=some (.slice a5 n5 c5)):=by unfold Hid;rw [hAA];rfl
   have HA0:Hid (AA[0]?=some (.int .i64 st)):=by unfold Hid;rw [hAA];rfl
   have HB0:Hid (BB[0]?=some (.int .i64 su)):=by unfold Hid;rw [hBB];rfl
   have HB1:Hid (BB[1]?=some (.int .i64 iu)):=by unfold Hid;rw [hBB];rfl
   have HB2:Hid (BB[2]?=some (.slice b2 m2 d2)):=by unfold Hid;rw [hBB];rfl
   have HB3:Hid (BB[3]?=some (.slice b3 m3 d3)):=by unfold Hid;rw [hBB];rfl
   have HB4:Hid (BB[4]?=some (.slice b4 m4 d4)):=by unfold Hid;rw [hBB];rfl
   have HB5:Hid (BB[5]?=some (.slice b5 m5 d5)):=by unfold Hid;rw [hBB];rfl
   rw [← hAA,← hBB] at hS
   have P0:Hid (PS w we bo AA BB (st*su) ini (.slice (some ⟨gs,0,none⟩) sn cs) sn sh (.slice (some ⟨g2,0,none⟩) LX2.length e2x) (.slice (some ⟨g3,0,none⟩) LX3.length e3x) (.slice (some ⟨g4,0,none⟩) LX4.length e4x) LX2 LX3 LX4 (.slice none 0 0) []):=⟨hS.1,hS.2.1,hS.2.2,hr,hs,hv,h2,h3,h4,World.ownsRow_nil _ _ _ _,hbo⟩
   clear hAA hBB hS hr hs hv h2 h3 h4 hbo BE
   obtain ⟨nA,hnA⟩:∃ n:Nat,n=st.toNat:=⟨_,rfl⟩
   obtain ⟨nB,hnB⟩:∃ n:Nat,n=su.toNat:=⟨_,rfl⟩
   rw [← hnA,← hnB] at BH
   have DY:nA≤40:=by omega
   have Bv:nB≤40:=by omega
   have HNA:=Lib.hid hnA
   have HNB:=Lib.hid hnB
   have HMA:Hid (∀ x∈steps,∀ q:Nat,q<nB→∀ u∈ni sh su ax x (q:Int),u∈PL):=fun x hx q hq u hu=>(BH.out u).1 (List.mem_append.2 (.inl (by
    unfold gJ
    rw [List.mem_flatMap]
    exact ⟨x,hx,rU.2 ⟨q,hq,hu⟩⟩)))
   have HMB:Hid (∀ y∈ax,hasB sh y.2.1=false→∀ q:Nat,q<nA→((q:Int)*su+y.1,y.2.1,(q:Int)*su+y.2.2)∈PL):=fun y hy hs q hq=>(BH.out _).1 (List.mem_append.2 (.inr (qj.2 ⟨y,hy,hs,jE.2 ⟨q,hq,rfl⟩⟩)))
   clear hnA hnB
   have pa5:=P0.out.ba.cell (j:=5) HA5.out
   go_wp2_with fail
   clear pa5
   go_loopw [8] (fun iv wr=>∃ (k:Nat) (v5:Value) (L:List St),k≤n5∧iv=.int .i64 (k:Int)∧Hid (PS w wr bo AA BB (st*su) ini (.slice (some ⟨gs,0,none⟩) sn cs) sn sh (.slice (some ⟨g2,0,none⟩) LX2.length e2x) (.slice (some ⟨g3,0,none⟩) LX3.length e3x) (.slice (some ⟨g4,0,none⟩) LX4.length e4x) LX2 LX3 LX4 (v5) L)∧Hid (Good PL (gJ sh su nB (steps.take k) ax) L)) (fun iv _=>n5 - (intOf iv).toNat)
   case atStart=>exact ⟨0,_,[],Nat.zero_le _,rfl,P0.out,Good.start PL⟩
   case round =>
    clear P0
    obtain ⟨k,v5,L,hk,rfl,HP,HG⟩:=hrel
    by_cases hlt:k<n5
    ·obtain ⟨b,off,rfl,hbx,hcell⟩:=R5.out.2 (by omega)
     have hkx:k<steps.length:=by rw [R5.out.1];exact hlt
     obtain ⟨⟨xf,xa,xt⟩,hs⟩:∃ t,t=steps[k]:=⟨_,rfl⟩
     obtain ⟨e0,e1,e2⟩:=hcell k steps[k] (List.getElem?_eq_getElem hkx)
     have hin:=HEA.out steps[k] (List.getElem_mem hkx)
     have hact:=HTA.out steps[k] (List.getElem_mem hkx)
     have HMX:=Lib.hid (HMA.out steps[k] (List.getElem_mem hkx))
     rw [← hs] at e0 e1 e2 hin hact HMX
     simp only at hin hact
     have g0:=(HP.out.bel.cell (p:=⟨b,off+k*3,none⟩) hbx).trans e0
     have g1:=(HP.out.bel.cell (p:=⟨b,off+k*3+1,none⟩) hbx).trans e1
     have g2:=(HP.out.bel.cell (p:=⟨b,off+k*3+2,none⟩) hbx).trans e2
     simp only at g0 g1 g2
     have pa5:=HP.out.ba.cell (j:=5) HA5.out
     have P1:=Lib.hid (HP.out.alloc (.cells #[.int .i64 xf,.int .i64 xa,.int .i64 xt] 77))
     have X1:=Lib.hid (ae.new wr #[.int .i64 xf,.int .i64 xa,.int .i64 xt] 77 rfl)
     have HBO:Hid (bo<wr.heap.size):=HP.out.box.lt
     obtain ⟨w8,hw8⟩:∃ x,x=wr:=⟨_,rfl⟩
     have HW8:=Lib.hid hw8
     clear hw8
     have HJ:Hid (gJ sh su nB (steps.take (k+1)) ax=gJ sh su nB (steps.take k) ax++fG sh su ax (xf,xa,xt) nB):=by unfold Hid;rw [GU hkx,← hs]
     have HMXF:0≤xf*su∧xf*su≤1600:=mX (by omega) (by omega)
     have HMXT:0≤xt*su∧xt*su≤1600:=mX (by omega) (by omega)
     clear e0 e1 e2 hs hcell
     go_wp2_with fail
     clear pa5 g0 g1 g2
     go_loopw [10] (fun qv wr2=>∃ (q:Nat) (v5:Value) (L:List St),q≤nB∧qv=.int .i64 (q:Int)∧Hid (PS w wr2 bo AA BB (st*su) ini (.slice (some ⟨gs,0,none⟩) sn cs) sn sh (.slice (some ⟨g2,0,none⟩) LX2.length e2x) (.slice (some ⟨g3,0,none⟩) LX3.length e3x) (.slice (some ⟨g4,0,none⟩) LX4.length e4x) LX2 LX3 LX4 (v5) L)∧Hid (Good PL (gJ sh su nB (steps.take k) ax++fG sh su ax (xf,xa,xt) q) L)∧Hid (ae wr2 wr.heap.size #[.int .i64 xf,.int .i64 xa,.int .i64 xt] 77)) (fun qv _=>nB - (intOf qv).toNat)
     case atStart=>exact ⟨0,v5,L,Nat.zero_le _,rfl,P1.out,by unfold Hid fG;simpa using HG.out,X1.out⟩
     case round =>
      clear P1 X1 HP HG
      obtain ⟨q,v5,L,hq,rfl,HP,HG,HX⟩:=hrel
      have pb0:=HP.out.bb.cell (j:=0) HB0.out
      by_cases hltq:(q:Int)<su
      ·have hqn:q<nB:=by have h1:=HNB.out;omega
       obtain ⟨sb,hsb⟩:∃ s,s=hasB sh xa:=⟨_,rfl⟩
       have CHS:Hid (∀ W,Row W (some ⟨gs,0,none⟩) sn sh→Calls Tryz.prog 57 #[.slice (some ⟨gs,0,none⟩) sn cs,.int .i64 xa] W fun e w'=>e=.returned (.bool sb)∧W=w'):=fun W hW=>by
        rw [hsb]
        exact (bz (some ⟨gs,0,none⟩) sn cs xa sh W hW (by omega)).mono fun e w' h=>⟨h.1,h.2.symm⟩
       have HSB:=Lib.hid hsb
       clear hsb
       have xc0:=HX.out.cell (j:=0) (u:=.int .i64 xf) rfl
       have xc1:=HX.out.cell (j:=1) (u:=.int .i64 xa) rfl
       have xc2:=HX.out.cell (j:=2) (u:=.int .i64 xt) rfl
       have po5:=HP.out.box.cell (j:=5) (u:=v5) rfl
       go_wp2_with fail
       refine (CHS.out _ HP.out.osh.row.2.2.2).mono ?_
       rintro e wq ⟨rfl,rfl⟩
       cases sb with
       | false =>
        have HJ2:Hid (fG sh su ax (xf,xa,xt) (q+1)=fG sh su ax (xf,xa,xt) q++[(xf*su+(q:Int),xa,xt*su+(q:Int))]):=by
         unfold Hid
         rw [yl]
         unfold ni
         rw [← HSB.out]
         rfl
        have hmem:(xf*su+(q:Int),xa,xt*su+(q:Int))∈PL:=HMX.out q hqn _ (by unfold ni;rw [← HSB.out];simp)
        have CLS:Hid (∀ W,Below wr.heap.size wr W→Calls Tryz.prog 105 #[v5,.agg #[.int .i64 (xf*su+(q:Int)),.int .i64 xa,.int .i64 (xt*su+(q:Int))]] W (wu W w.heap.size L (xf*su+(q:Int),xa,xt*su+(q:Int)))):=fun W hW=>vH v5 L.length L _ _ _ w.heap.size W (HP.out.below hW).o5 (BJ (by omega) (by omega) (by omega)) HG.out.2.1 (by have h1:=HG.out.len;omega) (HP.out.below hW).bel.size
        go_wp2_with fail
        clear pb0 xc0 xc1 xc2 po5
        refine (CLS.out _ (Below.refl _ _)).mono ?_
        rintro e w3 ⟨v6,n6,L6,rfl,ho,wZ,hput,hb⟩
        obtain ⟨a6,c6,rfl⟩:=ho.form
        have PX:=Lib.hid (HP.out.put hb ho)
        have GX:=Lib.hid (HG.out.put wZ hput hmem)
        have XX:=Lib.hid ((HX.out.below hb).other (j:=5) (Nat.ne_of_gt HBO.out) (.slice a6 n6 c6))
        have fz:=(HP.out.below hb).box.frozen 5
        have c5n:=(HP.out.below hb).box.cell (j:=5) rfl
        clear hb ho wZ hput CLS
        have GX2:Hid (Good PL (gJ sh su nB (steps.take k) ax++fG sh su ax (xf,xa,xt) (q+1)) L6):=by unfold Hid;rw [HJ2.out,← List.append_assoc];exact GX.out
        go_wp2_with fail
        go_roundw
        case rel=>exact ⟨q+1,_,L6,by omega,by go_num,PX.out,GX2.out,XX.out⟩
        case measure=>simp [intOf];omega
       | true =>
        obtain rfl:=HW8.out
        obtain ⟨T,hT⟩:∃ l,l=jK ax (q:Int) xa:=⟨_,rfl⟩
        have HJ2:Hid (fG sh su ax (xf,xa,xt) (q+1)=fG sh su ax (xf,xa,xt) q++T.map fun t=>(xf*su+(q:Int),xa,xt*su+t)):=by
         unfold Hid
         rw [yl]
         unfold ni
         rw [← HSB.out,hT]
         rfl
        have HMQ:Hid (∀ t∈T,(xf*su+(q:Int),xa,xt*su+t)∈PL):=fun t ht=>HMX.out q hqn _ (by
         unfold ni
         rw [← HSB.out]
         simp only [if_true,List.mem_map]
         exact ⟨t,by rw [← hT];exact ht,rfl⟩)
        have HTL:Hid (∀ t∈T,0≤t∧t≤40):=fun t ht=>by
         rw [hT,wX] at ht
         have:=(HEB.out _ ht).2.1
         simp only at this
         omega
        obtain ⟨lt,hlt8⟩:∃ n,n=T.length:=⟨_,rfl⟩
        have CAF:Hid (∀ W,Below w.heap.size w W→Calls Tryz.prog 106 #[.agg #[.int .i64 su,.int .i64 iu,.slice b2 m2 d2,.slice b3 m3 d3,.slice b4 m4 d4,.slice b5 m5 d5],.int .i64 (q:Int),.int .i64 xa] W fun e w'=>∃ g c,e=.returned (.slice (some ⟨g,0,none⟩) lt c)∧aj w' W.heap.size (.slice (some ⟨g,0,none⟩) lt c) lt T∧Below W.heap.size W w'):=fun W hW=>by
         rw [hlt8,hT]
         exact IA su iu q xa _ _ _ b5 m5 d5 ax W (Q5.out.below hW) (by have h1:=Q5.out.1;omega)
        have hltb:lt≤400:=by
         rw [hlt8,hT]
         unfold jK
         have h1:=nK ((ax.filter fun x=>decide (x.1=(q:Int))&&decide (x.2.1=xa)).map fun x=>x.2.2) []
         have h2:=List.length_filter_le (fun x:St=>decide (x.1=(q:Int))&&decide (x.2.1=xa)) ax
         simp only [List.length_nil,List.length_map] at h1
         omega
        have HLT8:=Lib.hid hlt8
        clear hT hlt8
        have cb0:=HP.out.bb.cell (j:=0) HB0.out
        have cb1:=HP.out.bb.cell (j:=1) HB1.out
        have cb2:=HP.out.bb.cell (j:=2) HB2.out
        have cb3:=HP.out.bb.cell (j:=3) HB3.out
        have cb4:=HP.out.bb.cell (j:=4) HB4.out
        have cb5:=HP.out.bb.cell (j:=5) HB5.out
        go_wp2_with fail
        clear pb0 cb0 cb1 cb2 cb3 cb4 cb5 xc0 xc1 xc2 po5
        refine (CAF.out _ HP.out.bel).mono ?_
        rintro e w3 ⟨gT,cT,rfl,ho,hb⟩
        have P3:=Lib.hid (HP.out.below hb)
        have X3:=Lib.hid (HX.out.below hb)
        have T3:=Lib.hid (ho.mono (base:=w.heap.size) HP.out.bel.size)
        clear ho hb HP HX CAF CHS
        go_wp2_with fail
        go_loopw [12] (fun kv wr3=>∃ (m:Nat) (v5:Value) (L:List St),m≤lt∧kv=.int .i64 (m:Int)∧Hid (PS w wr3 bo AA BB (st*su) ini (.slice (some ⟨gs,0,none⟩) sn cs) sn sh (.slice (some ⟨g2,0,none⟩) LX2.length e2x) (.slice (some ⟨g3,0,none⟩) LX3.length e3x) (.slice (some ⟨g4,0,none⟩) LX4.length e4x) LX2 LX3 LX4 (v5) L)∧Hid (Good PL ((gJ sh su nB (steps.take k) ax++fG sh su ax (xf,xa,xt) q)++(T.take m).map fun t=>(xf*su+(q:Int),xa,xt*su+t)) L)∧Hid (ae wr3 w8.heap.size #[.int .i64 xf,.int .i64 xa,.int .i64 xt] 77)∧Hid (aj wr3 w.heap.size (.slice (some ⟨gT,0,none⟩) lt cT) lt T)) (fun kv _=>lt - (intOf kv).toNat)
        case atStart=>exact ⟨0,v5,L,Nat.zero_le _,rfl,P3.out,by unfold Hid;simpa using HG.out,X3.out,T3.out⟩
        case round =>
         clear P3 X3 T3 HG
         obtain ⟨m,v5,L,hm,rfl,HP,HG,HX,HTO⟩:=hrel
         by_cases hmt:m<lt
         ·have hmT:m<T.length:=by rw [← HLT8.out];exact hmt
          obtain ⟨t,htt⟩:∃ t,t=T[m]:=⟨_,rfl⟩
          have htb:0≤t∧t≤40:=by rw [htt];exact HTL.out _ (List.getElem_mem hmT)
          have hmem:(xf*su+(q:Int),xa,xt*su+t)∈PL:=HMQ.out t (by rw [htt];exact List.getElem_mem hmT)
          have HTT:=Lib.hid htt
          clear htt
          have CLS:Hid (Calls Tryz.prog 105 #[v5,.agg #[.int .i64 (xf*su+(q:Int)),.int .i64 xa,.int .i64 (xt*su+t)]] wr.drew (wu wr.drew w.heap.size L (xf*su+(q:Int),xa,xt*su+t))):=vH v5 L.length L _ _ _ w.heap.size wr.drew HP.out.drew.o5 (BJ (by omega) (by omega) (by omega)) HG.out.2.1 (by have h1:=HG.out.len;omega) HP.out.drew.bel.size
          have po5:=HP.out.drew.box.cell (j:=5) (u:=v5) rfl
          have SD8:ae wr.drew w8.heap.size #[.int .i64 xf,.int .i64 xa,.int .i64 xt] 77∧ae wr.drew (w.heap.size+1) BB 27∧wr.drew.cell? ⟨gT,m,none⟩=some (.int .i64 t):=⟨HX.out.drew,HP.out.drew.bb,by
           have:=HTO.out.cells.2 m hmt
           rw [getD_eq T m hmT,← HTT.out] at this
           exact this⟩
          go_wp2_with fail
          refine fK (S:=fun w'=>ae w' w8.heap.size #[.int .i64 xf,.int .i64 xa,.int .i64 xt] 77∧ae w' (w.heap.size+1) BB 27∧w'.cell? ⟨gT,m,none⟩=some (.int .i64 t)) 25 (by kernel_rfl) (by kernel_rfl) (by kernel_rfl) SD8 (fun hHeld=>?_)
          refine aZ 0 114 (.pointer (some ⟨bo,5,none⟩)) (.tmp 7) (.pointer (some ⟨bo,0,none⟩)) (fuel:=24) rfl rfl (by kernel_rfl) (fun _ _ _ h=>h) (by kernel_rfl) (by kernel_rfl) (fun ρ hr0 _ w hSw=>by simp [go_sem,hr0]) hHeld (tf 1 25) (by kernel_rfl) (fun K hK=>?_)
          go_big_move
          refine hK.out _ ?_
          clear hK K
          refine aZ 2 116 (.pointer (some ⟨w8.heap.size,0,none⟩)) (.tmp 9) (.pointer (some ⟨w8.heap.size,0,none⟩)) (fuel:=23) rfl rfl (by kernel_rfl) (fun _ _ _ h=>h) (by kernel_rfl) (by kernel_rfl) (fun ρ hr0 _ w hSw=>by simp [go_sem,hr0]) hHeld (tf 5 25) (by kernel_rfl) (fun K hK=>?_)
          go_big_move
          refine hK.out _ ?_
          clear hK K
          refine aZ 3 117 (.int .i64 xf) (.tmp 116) (.pointer (some ⟨w8.heap.size,0,none⟩)) (fuel:=22) rfl rfl (by kernel_rfl) (fun _ _ _ h=>h) (by kernel_rfl) (by kernel_rfl) (fun ρ hr0 _ w hSw=>by have m:=hSw.1.cell (j:=0) (u:=.int .i64 xf) rfl;simp [go_sem,hr0,m]) hHeld (tf 13 25) (by kernel_rfl) (fun K hK=>?_)
          go_big_move
          refine hK.out _ ?_
          clear hK K
          refine aZ 4 118 (.pointer (some ⟨w.heap.size+1,0,none⟩)) (.tmp 3) (.pointer (some ⟨w.heap.size+1,0,none⟩)) (fuel:=21) rfl rfl (by kernel_rfl) (fun _ _ _ h=>h) (by kernel_rfl) (by kernel_rfl) (fun ρ hr0 _ w hSw=>by simp [go_sem,hr0]) hHeld (tf 29 25) (by kernel_rfl) (fun K hK=>?_)
          go_big_move
          refine hK.out _ ?_
          clear hK K
          refine aZ 5 119 (.int .i64 su) (.tmp 118) (.pointer (some ⟨w.heap.size+1,0,none⟩)) (fuel:=20) rfl rfl (by kernel_rfl) (fun _ _ _ h=>h) (by kernel_rfl) (by kernel_rfl) (fun ρ hr0 _ w hSw=>by have m:=hSw.2.1.cell (j:=0) HB0.out;simp [go_sem,hr0,m]) hHeld (tf 61 25) (by kernel_rfl) (fun K hK=>?_)
          go_big_move
          refine hK.out _ ?_
          clear hK K
          refine ku 6 120 (.int .i64 (xf*su)) (.tmp 117) (.int .i64 xf) (.tmp 119) (.int .i64 su) (fuel:=19) rfl rfl (by kernel_rfl) (fun _ _ _ h=>h) (by kernel_rfl) (by kernel_rfl) (by kernel_rfl) (fun ρ hr0 hr1 _ w hSw=>by simp [go_sem,hr0,hr1];exact Go.IntWalk.i64_in _ (by have h1:=HMXF;have h2:=HMXT;have h3:=htb;omega)) hHeld (tf 125 25) (by kernel_rfl) (fun K hK=>?_)
          go_big_move
          refine hK.out _ ?_
          clear hK K
          refine aW 7 121 (.int .i64 (q:Int)) (.tmp 10) (fuel:=18) rfl rfl (by kernel_rfl) (fun _ _ _ h=>h) (by kernel_rfl) (by kernel_rfl) (by first|exact Or.inl rfl|exact Or.inr rfl) hHeld (tf 253 25) (by kernel_rfl) (fun K hK=>?_)
          go_big_move
          refine hK.out _ ?_
          clear hK K
          refine ku 8 122 (.int .i64 (xf*su+(q:Int))) (.tmp 120) (.int .i64 (xf*su)) (.tmp 121) (.int .i64 (q:Int)) (fuel:=17) rfl rfl (by kernel_rfl) (fun _ _ _ h=>h) (by kernel_rfl) (by kernel_rfl) (by kernel_rfl) (fun ρ hr0 hr1 _ w hSw=>by simp [go_sem,hr0,hr1];exact Go.IntWalk.i64_in _ (by have h1:=HMXF;have h2:=HMXT;have h3:=htb;omega)) hHeld (tf 509 25) (by kernel_rfl) (fun K hK=>?_)
          go_big_move
          refine hK.out _ ?_
          clear hK K
          refine aZ 9 123 (.pointer (some ⟨w8.heap.size,1,none⟩)) (.tmp 9) (.pointer (some ⟨w8.heap.size,0,none⟩)) (fuel:=16) rfl rfl (by kernel_rfl) (fun _ _ _ h=>h) (by kernel_rfl) (by kernel_rfl) (fun ρ hr0 _ w hSw=>by simp [go_sem,hr0]) hHeld (tf 1021 25) (by kernel_rfl) (fun K hK=>?_)
          go_big_move
          refine hK.out _ ?_
          clear hK K
          refine aZ 10 124 (.int .i64 xa) (.tmp 123) (.pointer (some ⟨w8.heap.size,1,none⟩)) (fuel:=15) rfl rfl (by kernel_rfl) (fun _ _ _ h=>h) (by kernel_rfl) (by kernel_rfl) (fun ρ hr0 _ w hSw=>by have m:=hSw.1.cell (j:=1) (u:=.int .i64 xa) rfl;simp [go_sem,hr0,m]) hHeld (tf 2045 25) (by kernel_rfl) (fun K hK=>?_)
          go_big_move
          refine hK.out _ ?_
          clear hK K
          refine aZ 11 125 (.pointer (some ⟨w8.heap.size,2,none⟩)) (.tmp 9) (.pointer (some ⟨w8.heap.size,0,none⟩)) (fuel:=14) rfl rfl (by kernel_rfl) (fun _ _ _ h=>h) (by kernel_rfl) (by kernel_rfl) (fun ρ hr0 _ w hSw=>by simp [go_sem,hr0]) hHeld (tf 4093 25) (by kernel_rfl) (fun K hK=>?_)
          go_big_move
          refine hK.out _ ?_
          clear hK K
          refine aZ 12 126 (.int .i64 xt) (.tmp 125) (.pointer (some ⟨w8.heap.size,2,none⟩)) (fuel:=13) rfl rfl (by kernel_rfl) (fun _ _ _ h=>h) (by kernel_rfl) (by kernel_rfl) (fun ρ hr0 _ w hSw=>by have m:=hSw.1.cell (j:=2) (u:=.int .i64 xt) rfl;simp [go_sem,hr0,m]) hHeld (tf 8189 25) (by kernel_rfl) (fun K hK=>?_)
          go_big_move
          refine hK.out _ ?_
          clear hK K
          refine aZ 13 127 (.pointer (some ⟨w.heap.size+1,0,none⟩)) (.tmp 3) (.pointer (some ⟨w.heap.size+1,0,none⟩)) (fuel:=12) rfl rfl (by kernel_rfl) (fun _ _ _ h=>h) (by kernel_rfl) (by kernel_rfl) (fun ρ hr0 _ w hSw=>by simp [go_sem,hr0]) hHeld (tf 16381 25) (by kernel_rfl) (fun K hK=>?_)
          go_big_move
          refine hK.out _ ?_
          clear hK K
          refine aZ 14 128 (.int .i64 su) (.tmp 127) (.pointer (some ⟨w.heap.size+1,0,none⟩)) (fuel:=11) rfl rfl (by kernel_rfl) (fun _ _ _ h=>h) (by kernel_rfl) (by kernel_rfl) (fun ρ hr0 _ w hSw=>by have m:=hSw.2.1.cell (j:=0) HB0.out;simp [go_sem,hr0,m]) hHeld (tf 32765 25) (by kernel_rfl) (fun K hK=>?_)
          go_big_move
          refine hK.out _ ?_
          clear hK K
          refine ku 15 129 (.int .i64 (xt*su)) (.tmp 126) (.int .i64 xt) (.tmp 128) (.int .i64 su) (fuel:=10) rfl rfl (by kernel_rfl) (fun _ _ _ h=>h) (by kernel_rfl) (by kernel_rfl) (by kernel_rfl) (fun ρ hr0 hr1 _ w hSw=>by simp [go_sem,hr0,hr1];exact Go.IntWalk.i64_in _ (by have h1:=HMXF;have h2:=HMXT;have h3:=htb;omega)) hHeld (tf 65533 25) (by kernel_rfl) (fun K hK=>?_)
          go_big_move
          refine hK.out _ ?_
          clear hK K
          refine aW 16 130 (.slice (some ⟨gT,0,none⟩) lt cT) (.tmp 11) (fuel:=9) rfl rfl (by kernel_rfl) (fun _ _ _ h=>h) (by kernel_rfl) (by kernel_rfl) (by first|exact Or.inl rfl|exact Or.inr rfl) hHeld (tf 131069 25) (by kernel_rfl) (fun K hK=>?_)
          go_big_move
          refine hK.out _ ?_
          clear hK K
          refine aW 17 131 (.int .i64 (m:Int)) (.tmp 12) (fuel:=8) rfl rfl (by kernel_rfl) (fun _ _ _ h=>h) (by kernel_rfl) (by kernel_rfl) (by first|exact Or.inl rfl|exact Or.inr rfl) hHeld (tf 262141 25) (by kernel_rfl) (fun K hK=>?_)
          go_big_move
          refine hK.out _ ?_
          clear hK K
          refine ku 18 132 (.pointer (some ⟨gT,m,none⟩)) (.tmp 130) (.slice (some ⟨gT,0,none⟩) lt cT) (.tmp 131) (.int .i64 (m:Int)) (fuel:=7) rfl rfl (by kernel_rfl) (fun _ _ _ h=>h) (by kernel_rfl) (by kernel_rfl) (by kernel_rfl) (fun ρ hr0 hr1 _ w hSw=>by have h1:(m:Int)<(lt:Int):=(by omega);simp [go_sem,hr0,hr1,h1]) hHeld (tf 524285 25) (by kernel_rfl) (fun K hK=>?_)
          go_big_move
          refine hK.out _ ?_
          clear hK K
          refine aZ 19 133 (.int .i64 t) (.tmp 132) (.pointer (some ⟨gT,m,none⟩)) (fuel:=6) rfl rfl (by kernel_rfl) (fun _ _ _ h=>h) (by kernel_rfl) (by kernel_rfl) (fun ρ hr0 _ w hSw=>by have m:=hSw.2.2;simp [go_sem,hr0,m]) hHeld (tf 1048573 25) (by kernel_rfl) (fun K hK=>?_)
          go_big_move
          refine hK.out _ ?_
          clear hK K
          refine ku 20 134 (.int .i64 (xt*su+t)) (.tmp 129) (.int .i64 (xt*su)) (.tmp 133) (.int .i64 t) (fuel:=5) rfl rfl (by kernel_rfl) (fun _ _ _ h=>h) (by kernel_rfl) (by kernel_rfl) (by kernel_rfl) (fun ρ hr0 hr1 _ w hSw=>by simp [go_sem,hr0,hr1];exact Go.IntWalk.i64_in _ (by have h1:=HMXF;have h2:=HMXT;have h3:=htb;omega)) hHeld (tf 2097149 25) (by kernel_rfl) (fun K hK=>?_)
          go_big_move
          refine hK.out _ ?_
          clear hK K
          refine uQ 21 135 (.agg #[.int .i64 (xf*su+(q:Int)),.int .i64 xa,.int .i64 (xt*su+t)]) (fuel:=4) (fun ρ=>ρ (.tmp 122)=.int .i64 (xf*su+(q:Int))∧ρ (.tmp 124)=.int .i64 xa∧ρ (.tmp 134)=.int .i64 (xt*su+t)) rfl rfl (by kernel_rfl) (fun _ _ _ h=>h) (by kernel_rfl) ⟨by kernel_rfl,by kernel_rfl,by kernel_rfl⟩ (fun ρ hF _ w hSw=>by obtain ⟨hr0,hr1,hr2⟩:=hF;simp [go_sem,hr0,hr1,hr2]) hHeld (tf 4194301 25) (by kernel_rfl) (fun K hK=>?_)
          go_big_move
          refine hK.out _ ?_
          clear hK K
          refine wpAnyH_ready (rs:=[1]) (fuel:=3) (by kernel_rfl) (by simp) ?_
          refine aC rfl (by kernel_rfl) (tf 4194303 25) (by kernel_rfl) (fun K hK=>?_) AllReadyH.nil
          simp only [sI3,sI4,sI5]
          go_big_op
          refine hK.out _ _ hHeld (fun hHeld=>?_)
          clear hK K
          refine wpAnyH_ready (rs:=[22]) (fuel:=2) (by kernel_rfl) (by simp) ?_
          refine aC rfl (by kernel_rfl) (tf 8388607 25) (by kernel_rfl) (fun K hK=>?_) AllReadyH.nil
          simp only [sI3,sI4,sI5]
          go_big_op
          refine (CLS.out).mono ?_
          rintro e w6 ⟨v6,n6,L6,rfl,ho,wZ,hput,hb⟩
          obtain ⟨a6,c6,rfl⟩:=ho.form
          have PX:=Lib.hid (HP.out.drew.put hb ho)
          have GX:=Lib.hid (HG.out.put wZ hput hmem)
          have XXn:=Lib.hid ((HX.out.drew.below hb).other (j:=5) (Nat.ne_of_gt HBO.out) (.slice a6 n6 c6))
          have fz:=(HP.out.drew.below hb).box.frozen 5
          have c5n:=(HP.out.drew.below hb).box.cell (j:=5) rfl
          have TXn:=Lib.hid ((aj.below (show aj wr.drew w.heap.size (.slice (some ⟨gT,0,none⟩) lt cT) lt T from HTO.out) hb).keep (AP w6 bo 5 (.slice a6 n6 c6)) (fun b hb' he=>iF (aj.below (show aj wr.drew w.heap.size (.slice (some ⟨gT,0,none⟩) lt cT) lt T from HTO.out) hb) (HP.out.drew.below hb).box (by decide) (hb'.trans he)))
          have hS6:ae w6 w8.heap.size #[.int .i64 xf,.int .i64 xa,.int .i64 xt] 77∧ae w6 (w.heap.size+1) BB 27∧w6.cell? ⟨gT,m,none⟩=some (.int .i64 t):=⟨HX.out.drew.below hb,(HP.out.drew.below hb).bb,by rw [(aj.below (show aj wr.drew w.heap.size (.slice (some ⟨gT,0,none⟩) lt cT) lt T from HTO.out) hb).cells.2 m hmt,getD_eq T m hmT,← HTT.out]⟩
          have hS9:ae (w6.setCell ⟨bo,5,none⟩ (.slice a6 n6 c6)) w8.heap.size #[.int .i64 xf,.int .i64 xa,.int .i64 xt] 77∧ae (w6.setCell ⟨bo,5,none⟩ (.slice a6 n6 c6)) (w.heap.size+1) BB 27∧(w6.setCell ⟨bo,5,none⟩ (.slice a6 n6 c6)).cell? ⟨gT,m,none⟩=some (.int .i64 t):=⟨XXn.out,PX.out.bb,by rw [TXn.out.cells.2 m hmt,getD_eq T m hmT,← HTT.out]⟩
          clear hb ho
          refine hK.out _ _ hS6 (fun hHeld=>?_)
          clear hK K
          refine aZ 23 137 (.pointer (some ⟨bo,5,none⟩)) (.tmp 7) (.pointer (some ⟨bo,0,none⟩)) (fuel:=1) rfl rfl (by kernel_rfl) (fun _ _ _ h=>h) (by kernel_rfl) (by kernel_rfl) (fun ρ hr0 _ w hSw=>by simp [go_sem,hr0]) hHeld (tf 16777215 25) (by kernel_rfl) (fun K hK=>?_)
          go_big_move
          refine hK.out _ ?_
          clear hK K
          refine wpAnyH_ready (rs:=[24]) (fuel:=0) (by kernel_rfl) (by simp) ?_
          refine aC rfl (by kernel_rfl) (tf 33554431 25) (by kernel_rfl) (fun K hK=>?_) AllReadyH.nil
          simp only [sI3,sI4,sI5]
          go_big_op
          refine hK.out _ _ hS9 (fun hHeld=>?_)
          clear hK K
          refine wpAnyH_done (by kernel_rfl) ?_ _
          have GX2:Hid (Good PL ((gJ sh su nB (steps.take k) ax++fG sh su ax (xf,xa,xt) q)++(T.take (m+1)).map fun t=>(xf*su+(q:Int),xa,xt*su+t)) L6):=by
           unfold Hid
           rw [List.take_succ_eq_append_getElem hmT,List.map_append,← List.append_assoc,← HTT.out]
           exact GX.out
          clear hHeld SD8
          go_wp2_with fail
          go_roundw
          case rel=>exact ⟨m+1,_,L6,by omega,by go_num,PX.out,GX2.out,XXn.out,TXn.out⟩
          case measure=>simp [intOf];omega
         ·have GX:Hid (Good PL (gJ sh su nB (steps.take k) ax++fG sh su ax (xf,xa,xt) (q+1)) L):=by
           have h1:=HG.out
           rw [List.take_of_length_le (l:=T) (by rw [← HLT8.out];omega)] at h1
           unfold Hid
           rw [HJ2.out,← List.append_assoc]
           exact h1
          go_wp2_with fail
          go_roundw
          case rel=>exact ⟨q+1,v5,L,by omega,by go_num,HP.out,GX.out,HX.out⟩
          case measure=>simp [intOf];omega
      ·obtain rfl:nB=q:=by have h1:=HNB.out;omega
       have GX:Hid (Good PL (gJ sh su nB (steps.take (k+1)) ax) L):=by unfold Hid;rw [HJ.out];exact HG.out
       go_wp2_with fail
       go_roundw
       case rel=>exact ⟨k+1,v5,L,by omega,by go_num,HP.out,GX.out⟩
       case measure=>simp [intOf];omega
    ·have HGA:Hid (Good PL (gJ sh su nB steps ax) L):=by
      have h1:=HG.out
      rw [List.take_of_length_le (by rw [R5.out.1];omega)] at h1
      exact h1
     have pa5:=HP.out.ba.cell (j:=5) HA5.out
     have pb5:=HP.out.bb.cell (j:=5) HB5.out
     go_wp2_with fail
     clear pa5 pb5
     go_loopw [13] (fun iv wr=>∃ (k:Nat) (v5:Value) (L:List St),k≤m5∧iv=.int .i64 (k:Int)∧Hid (PS w wr bo AA BB (st*su) ini (.slice (some ⟨gs,0,none⟩) sn cs) sn sh (.slice (some ⟨g2,0,none⟩) LX2.length e2x) (.slice (some ⟨g3,0,none⟩) LX3.length e3x) (.slice (some ⟨g4,0,none⟩) LX4.length e4x) LX2 LX3 LX4 (v5) L)∧Hid (Good PL (gJ sh su nB steps ax++cu sh su nA (ax.take k)) L)) (fun iv _=>m5 - (intOf iv).toNat)
     case atStart=>exact ⟨0,v5,L,Nat.zero_le _,rfl,HP.out,by unfold Hid cu;simpa using HGA.out⟩
     case round =>
      clear HP HG HGA
      obtain ⟨k,v5,L,hk,rfl,HP,HG⟩:=hrel
      have pb5:=HP.out.bb.cell (j:=5) HB5.out
      by_cases hlt:k<m5
      ·obtain ⟨b,off,rfl,hbx,hcell⟩:=Q5.out.2 (by omega)
       have hkx:k<ax.length:=by rw [Q5.out.1];exact hlt
       obtain ⟨⟨xf,xa,xt⟩,hs⟩:∃ t,t=ax[k]:=⟨_,rfl⟩
       obtain ⟨e0,e1,e2⟩:=hcell k ax[k] (List.getElem?_eq_getElem hkx)
       have hin:=HEB.out ax[k] (List.getElem_mem hkx)
       have hact:=HTB.out ax[k] (List.getElem_mem hkx)
       have HMX:=Lib.hid (HMB.out ax[k] (List.getElem_mem hkx))
       rw [← hs] at e0 e1 e2 hin hact HMX
       simp only at hin hact HMX
       have g0:=(HP.out.bel.cell (p:=⟨b,off+k*3,none⟩) hbx).trans e0
       have g1:=(HP.out.bel.cell (p:=⟨b,off+k*3+1,none⟩) hbx).trans e1
       have g2:=(HP.out.bel.cell (p:=⟨b,off+k*3+2,none⟩) hbx).trans e2
       simp only at g0 g1 g2
       have P1:=Lib.hid (HP.out.alloc (.cells #[.int .i64 xf,.int .i64 xa,.int .i64 xt] 77))
       have X1:=Lib.hid (ae.new wr #[.int .i64 xf,.int .i64 xa,.int .i64 xt] 77 rfl)
       have HBO:Hid (bo<wr.heap.size):=HP.out.box.lt
       obtain ⟨sb,hsb⟩:∃ s,s=hasB sh xa:=⟨_,rfl⟩
       have HJ:Hid (cu sh su nA (ax.take (k+1))=cu sh su nA (ax.take k)++if sb then [] else dA su nA (xf,xa,xt)):=by
        unfold Hid cu
        rw [List.take_succ_eq_append_getElem hkx,← hs,List.flatMap_append,List.flatMap_singleton,hsb]
       have CHS:Hid (∀ W,Row W (some ⟨gs,0,none⟩) sn sh→Calls Tryz.prog 57 #[.slice (some ⟨gs,0,none⟩) sn cs,.int .i64 xa] W fun e w'=>e=.returned (.bool sb)∧W=w'):=fun W hW=>by
        rw [hsb]
        exact (bz (some ⟨gs,0,none⟩) sn cs xa sh W hW (by omega)).mono fun e w' h=>⟨h.1,h.2.symm⟩
       have HSB:=Lib.hid hsb
       clear e0 e1 e2 hs hcell hsb
       go_wp2_with fail
       clear pb5 g0 g1 g2
       go_loopw [15] (fun qv wr2=>∃ (q:Nat) (v5:Value) (L:List St),q≤nA∧qv=.int .i64 (q:Int)∧Hid (PS w wr2 bo AA BB (st*su) ini (.slice (some ⟨gs,0,none⟩) sn cs) sn sh (.slice (some ⟨g2,0,none⟩) LX2.length e2x) (.slice (some ⟨g3,0,none⟩) LX3.length e3x) (.slice (some ⟨g4,0,none⟩) LX4.length e4x) LX2 LX3 LX4 (v5) L)∧Hid (Good PL ((gJ sh su nB steps ax++cu sh su nA (ax.take k))++dA su q (xf,xa,xt)) L)∧Hid (ae wr2 wr.heap.size #[.int .i64 xf,.int .i64 xa,.int .i64 xt] 77)∧Hid (0<q→sb=false)) (fun qv _=>nA - (intOf qv).toNat)
       case atStart=>exact ⟨0,v5,L,Nat.zero_le _,rfl,P1.out,by unfold Hid dA;simpa using HG.out,X1.out,fun h=>absurd h (by omega)⟩
       case round =>
        clear P1 X1 HP HG
        obtain ⟨q,v5,L,hq,rfl,HP,HG,HX,HQ⟩:=hrel
        have pa0:=HP.out.ba.cell (j:=0) HA0.out
        have pb0:=HP.out.bb.cell (j:=0) HB0.out
        have xc0:=HX.out.cell (j:=0) (u:=.int .i64 xf) rfl
        have xc1:=HX.out.cell (j:=1) (u:=.int .i64 xa) rfl
        have xc2:=HX.out.cell (j:=2) (u:=.int .i64 xt) rfl
        have po5:=HP.out.box.cell (j:=5) (u:=v5) rfl
        by_cases hltq:(q:Int)<st
        ·have hqn:q<nA:=by have h1:=HNA.out;omega
         have HMQF:0≤(q:Int)*su∧(q:Int)*su≤1600:=mX (by omega) (by omega)
         go_wp2_with fail
         refine (CHS.out _ HP.out.osh.row.2.2.2).mono ?_
         rintro e wq ⟨rfl,rfl⟩
         cases sb with
         | true =>
          have hq0:q=0:=by
           apply Classical.byContradiction
           intro hne
           have:=HQ.out (by omega)
           cases this
          have GX:Hid (Good PL (gJ sh su nB steps ax++cu sh su nA (ax.take (k+1))) L):=by
           have h1:=HG.out
           rw [hq0] at h1
           unfold Hid
           rw [HJ.out]
           simpa [dA] using h1
          go_wp2_with fail
          go_roundw
          case rel=>exact ⟨k+1,v5,L,by omega,by go_num,HP.out,GX.out⟩
          case measure=>simp [intOf];omega
         | false =>
          have hmem:((q:Int)*su+xf,xa,(q:Int)*su+xt)∈PL:=HMX.out HSB.out.symm q hqn
          have CLS:Hid (∀ W,Below wr.heap.size wr W→Calls Tryz.prog 105 #[v5,.agg #[.int .i64 ((q:Int)*su+xf),.int .i64 xa,.int .i64 ((q:Int)*su+xt)]] W (wu W w.heap.size L ((q:Int)*su+xf,xa,(q:Int)*su+xt))):=fun W hW=>vH v5 L.length L _ _ _ w.heap.size W (HP.out.below hW).o5 (BJ (by omega) (by omega) (by omega)) HG.out.2.1 (by have h1:=HG.out.len;omega) (HP.out.below hW).bel.size
          go_wp2_with fail
          clear pa0 pb0 xc0 xc1 xc2 po5
          refine (CLS.out _ (Below.refl _ _)).mono ?_
          rintro e w3 ⟨v6,n6,L6,rfl,ho,wZ,hput,hb⟩
          obtain ⟨a6,c6,rfl⟩:=ho.form
          have PX:=Lib.hid (HP.out.put hb ho)
          have GX:=Lib.hid (HG.out.put wZ hput hmem)
          have XX:=Lib.hid ((HX.out.below hb).other (j:=5) (Nat.ne_of_gt HBO.out) (.slice a6 n6 c6))
          have fz:=(HP.out.below hb).box.frozen 5
          have c5n:=(HP.out.below hb).box.cell (j:=5) rfl
          clear hb ho wZ hput CLS
          have GX2:Hid (Good PL ((gJ sh su nB steps ax++cu sh su nA (ax.take k))++dA su (q+1) (xf,xa,xt)) L6):=by
           have h1:dA su (q+1) (xf,xa,xt)=dA su q (xf,xa,xt)++[((q:Int)*su+xf,xa,(q:Int)*su+xt)]:=by
            unfold dA
            rw [List.range_succ,List.map_append]
            rfl
           unfold Hid
           rw [h1,← List.append_assoc]
           exact GX.out
          go_wp2_with fail
          go_roundw
          case rel=>exact ⟨q+1,_,L6,by omega,by go_num,PX.out,GX2.out,XX.out,fun _=>by trivial⟩
          case measure=>simp [intOf];omega
        ·have hqn:q=nA:=by have h1:=HNA.out;omega
         have hsbf:sb=false:=HQ.out (by have h1:=HNA.out;omega)
         have GX:Hid (Good PL (gJ sh su nB steps ax++cu sh su nA (ax.take (k+1))) L):=by
          have h1:=HG.out
          rw [hqn] at h1
          unfold Hid
          rw [HJ.out,hsbf,← List.append_assoc]
          exact h1
         clear hsbf
         go_wp2_with fail
         go_roundw
         case rel=>exact ⟨k+1,v5,L,by omega,by go_num,HP.out,GX.out⟩
         case measure=>simp [intOf];omega
      ·have HGL:Hid (L=PT):=by
        have h1:=HG.out
        rw [List.take_of_length_le (by rw [Q5.out.1];omega)] at h1
        exact DR h1.1 HPT2.out (fun u=>by rw [h1.2.2.1 u,BH.out u,HPM.out u])
       obtain rfl:=HGL.out
       have hLn:L.length=PL.length:=HPN.out
       obtain ⟨a6,c6,rfl⟩:=HP.out.o5.form
       have po5:=HP.out.box.cell (j:=5) (u:=.slice a6 L.length c6) rfl
       by_cases hlen:L.length≤400
       ·have hd:decide ((L.length:Int) > 400)=false:=by simp;omega
        have HOT:ok=true:=by rw [HB_.out];simp;omega
        have HIF:=Lib.hid (HIT.out HOT)
        subst HOT
        have RGO:Hid (wr.rangeAt bo 0 [.int .i64 (st*su),.int .i64 ini,.slice (some ⟨g2,0,none⟩) LX2.length e2x,.slice (some ⟨g3,0,none⟩) LX3.length e3x,.slice (some ⟨g4,0,none⟩) LX4.length e4x,.slice a6 L.length c6]):=HP.out.box.range
        have THR:Hid (wr.there (w.heap.size+2) 0 6):=HP.out.res.there rfl
        have G9:=Lib.hid (aA (w.heap.size+2) [.int .i64 (st*su),.int .i64 ini,.slice (some ⟨g2,0,none⟩) LX2.length e2x,.slice (some ⟨g3,0,none⟩) LX3.length e3x,.slice (some ⟨g4,0,none⟩) LX4.length e4x,.slice a6 L.length c6] 0 wr)
        have RG9:Hid ((wr.setCells (w.heap.size+2) 0 [.int .i64 (st*su),.int .i64 ini,.slice (some ⟨g2,0,none⟩) LX2.length e2x,.slice (some ⟨g3,0,none⟩) LX3.length e3x,.slice (some ⟨g4,0,none⟩) LX4.length e4x,.slice a6 L.length c6]).rangeAt (w.heap.size+2) 0 [.int .i64 (st*su),.int .i64 ini,.slice (some ⟨g2,0,none⟩) LX2.length e2x,.slice (some ⟨g3,0,none⟩) LX3.length e3x,.slice (some ⟨g4,0,none⟩) LX4.length e4x,.slice a6 L.length c6]):=World.rangeAt_setCells_same wr (w.heap.size+2) 0 [.int .i64 (st*su),.int .i64 ini,.slice (some ⟨g2,0,none⟩) LX2.length e2x,.slice (some ⟨g3,0,none⟩) LX3.length e3x,.slice (some ⟨g4,0,none⟩) LX4.length e4x,.slice a6 L.length c6] (by simpa using THR.out)
        clear hLn hlen
        go_wp2_with (first|refine wpList_load_mid rfl _ _ rfl bo 0 rfl [.int .i64 (st*su),.int .i64 ini,.slice (some ⟨g2,0,none⟩) LX2.length e2x,.slice (some ⟨g3,0,none⟩) LX3.length e3x,.slice (some ⟨g4,0,none⟩) LX4.length e4x,.slice a6 L.length c6] _ RGO.out Tryz.underlying27 rfl (by kernel_rfl) ?_|refine wpList_store_mid rfl _ _ _ rfl (w.heap.size+2) 0 #[.int .i64 (st*su),.int .i64 ini,.slice (some ⟨g2,0,none⟩) LX2.length e2x,.slice (some ⟨g3,0,none⟩) LX3.length e3x,.slice (some ⟨g4,0,none⟩) LX4.length e4x,.slice a6 L.length c6] rfl rfl THR.out (by kernel_rfl) (di _ _ _ _ _ _ _ _ _ _ _ _ _ _) ?_)
        refine bodyPost_ret (v:=.tuple #[.agg #[.int .i64 (st*su),.int .i64 ini,.slice (some ⟨g2,0,none⟩) LX2.length e2x,.slice (some ⟨g3,0,none⟩) LX3.length e3x,.slice (some ⟨g4,0,none⟩) LX4.length e4x,.slice a6 L.length c6],.bool true]) ?_ rfl ⟨.agg #[.int .i64 (st*su),.int .i64 ini,.slice (some ⟨g2,0,none⟩) LX2.length e2x,.slice (some ⟨g3,0,none⟩) LX3.length e3x,.slice (some ⟨g4,0,none⟩) LX4.length e4x,.slice a6 L.length c6],rfl,?_,(fun _=>⟨_,_,_,_,_,_,_,_,_,_,_,_,rfl⟩),HP.out.bel.grown G9.out HP.out.bel.size (fun q hq=>by have h1:=Option.some.inj hq;omega)⟩
        ·have HC0:=RG9.out 0 _ rfl
         have HC1:=RG9.out 1 _ rfl
         have HC2:=RG9.out 2 _ rfl
         have HC3:=RG9.out 3 _ rfl
         have HC4:=RG9.out 4 _ rfl
         have HC5:=RG9.out 5 _ rfl
         simp only [Nat.zero_add] at HC0 HC1 HC2 HC3 HC4 HC5
         simp [results,Tryz.results55,go_sem,HC0,HC1,HC2,HC3,HC4,HC5]
        ·rw [HIF.out]
         exact ⟨_,_,_,_,rfl,HP.out.o2.az HP.out.res (by decide) G9.out,HP.out.o3.az HP.out.res (by decide) G9.out,HP.out.o4.az HP.out.res (by decide) G9.out,HP.out.o5.keep G9.out (fun k hk he=>iF HP.out.o5 HP.out.res (by decide) (hk.trans he))⟩
       ·have hd:decide ((L.length:Int) > 400)=true:=by simp;omega
        have HOF:ok=false:=by rw [HB_.out];simp;omega
        have HI:=Lib.hid (HIN0.out HOF)
        subst HOF
        clear hLn hlen
        have THX:Hid (wr.there (w.heap.size+2) 0 6):=HP.out.res.there rfl
        have RGX:Hid ((wr.setCells (w.heap.size+2) 0 [.int .i64 0,.int .i64 0,.slice none 0 0,.slice none 0 0,.slice none 0 0,.slice none 0 0]).rangeAt (w.heap.size+2) 0 [.int .i64 0,.int .i64 0,.slice none 0 0,.slice none 0 0,.slice none 0 0,.slice none 0 0]):=World.rangeAt_setCells_same wr (w.heap.size+2) 0 [.int .i64 0,.int .i64 0,.slice none 0 0,.slice none 0 0,.slice none 0 0,.slice none 0 0] (by simpa using THX.out)
        have GX:=Lib.hid (aA (w.heap.size+2) [.int .i64 0,.int .i64 0,.slice none 0 0,.slice none 0 0,.slice none 0 0,.slice none 0 0] 0 wr)
        have BX:Hid (Below w.heap.size w (wr.setCells (w.heap.size+2) 0 [.int .i64 0,.int .i64 0,.slice none 0 0,.slice none 0 0,.slice none 0 0,.slice none 0 0])):=HP.out.bel.grown GX.out HP.out.bel.size (fun q hq=>by have h1:=Option.some.inj hq;omega)
        have HIN:Hid (I=ja):=HI.out
        go_wp2_with (refine wpList_store_mid rfl _ _ _ rfl (w.heap.size+2) 0 #[.int .i64 0,.int .i64 0,.slice none 0 0,.slice none 0 0,.slice none 0 0,.slice none 0 0] rfl rfl THX.out (by kernel_rfl) (di _ _ _ _ _ _ _ _ _ _ _ _ _ _) ?_)
        refine bodyPost_ret (v:=.tuple #[.agg #[.int .i64 0,.int .i64 0,.slice none 0 0,.slice none 0 0,.slice none 0 0,.slice none 0 0],.bool false]) ?_ rfl ⟨.agg #[.int .i64 0,.int .i64 0,.slice none 0 0,.slice none 0 0,.slice none 0 0,.slice none 0 0],rfl,by rw [HIN.out];exact Ci _ _,(fun e=>by cases e),BX.out⟩
        have HC0:=RGX.out 0 _ rfl
        have HC1:=RGX.out 1 _ rfl
        have HC2:=RGX.out 2 _ rfl
        have HC3:=RGX.out 3 _ rfl
        have HC4:=RGX.out 4 _ rfl
        have HC5:=RGX.out 5 _ rfl
        simp only [Nat.zero_add] at HC0 HC1 HC2 HC3 HC4 HC5
        simp [results,Tryz.results55,go_sem,HC0,HC1,HC2,HC3,HC4,HC5]
  refine wpAnyH_ready (rs:=[17,35]) (fuel:=8) (by kernel_rfl) (by simp) ?_
  refine aC rfl (by kernel_rfl) (tf 6358040575 37) (by kernel_rfl) (fun K hK=>?_) ?_
  ·simp only [sI3,sI4,sI5]
   go_big_op
   refine (CJ1.out _ hHeld).mono ?_
   rintro e wp1 ⟨eY,fA,rfl,ho,hb⟩
   have s1:Hid (aj wp1 w.heap.size (.slice (some ⟨gs,0,none⟩) sn cs) sn sh):=PD.out.below (hb)
   have r1:Hid (ae wp1 (w.heap.size+2) #[.int .i64 0,.int .i64 0,.slice none 0 0,.slice none 0 0,.slice none 0 0,.slice none 0 0] 27):=TD.out.below (hb)
   have ja1:Hid (aj wp1 w.heap.size (.slice (some ⟨eY,0,none⟩) LJ1.length fA) LJ1.length LJ1):=ho.mono (base:=w.heap.size) hHeld.1.size
   have hS1:=hHeld.below hb
   clear hb ho
   refine hK.out _ _ hS1 (fun hHeld=>?_)
   clear hK K hS1
   refine wpAnyH_ready (rs:=[19,35]) (fuel:=7) (by kernel_rfl) (by simp) ?_
   refine aC rfl (by kernel_rfl) (tf 6358564863 37) (by kernel_rfl) (fun K hK=>?_) ?_
   ·simp only [sI3,sI4,sI5]
    go_big_op
    refine (CL1.out _ _ _ ja1.out s1.out).mono ?_
    rintro e wp2 ⟨bF,bG,rfl,ho,hb⟩
    have s2:Hid (aj wp2 w.heap.size (.slice (some ⟨gs,0,none⟩) sn cs) sn sh):=s1.out.below (hb)
    have r2:Hid (ae wp2 (w.heap.size+2) #[.int .i64 0,.int .i64 0,.slice none 0 0,.slice none 0 0,.slice none 0 0,.slice none 0 0] 27):=r1.out.below (hb)
    have ja2:Hid (aj wp2 w.heap.size (.slice (some ⟨eY,0,none⟩) LJ1.length fA) LJ1.length LJ1):=ja1.out.below (hb)
    have xa2:Hid (aj wp2 w.heap.size (.slice (some ⟨bF,0,none⟩) LX2.length bG) LX2.length LX2):=ho.mono (base:=w.heap.size) hHeld.1.size
    have hS2:=hHeld.below hb
    clear hb ho
    refine hK.out _ _ hS2 (fun hHeld=>?_)
    clear hK K hS2
    refine wpAnyH_ready (rs:=[24,35]) (fuel:=6) (by kernel_rfl) (by simp) ?_
    refine aC rfl (by kernel_rfl) (tf 6375342079 37) (by kernel_rfl) (fun K hK=>?_) ?_
    ·simp only [sI3,sI4,sI5]
     go_big_op
     refine (CJ2.out _ hHeld).mono ?_
     rintro e wp3 ⟨kQ,kR,rfl,ho,hb⟩
     have s3:Hid (aj wp3 w.heap.size (.slice (some ⟨gs,0,none⟩) sn cs) sn sh):=s2.out.below (hb)
     have r3:Hid (ae wp3 (w.heap.size+2) #[.int .i64 0,.int .i64 0,.slice none 0 0,.slice none 0 0,.slice none 0 0,.slice none 0 0] 27):=r2.out.below (hb)
     have ja3:Hid (aj wp3 w.heap.size (.slice (some ⟨eY,0,none⟩) LJ1.length fA) LJ1.length LJ1):=ja2.out.below (hb)
     have xa3:Hid (aj wp3 w.heap.size (.slice (some ⟨bF,0,none⟩) LX2.length bG) LX2.length LX2):=xa2.out.below (hb)
     have jb3:Hid (aj wp3 w.heap.size (.slice (some ⟨kQ,0,none⟩) LJ2.length kR) LJ2.length LJ2):=ho.mono (base:=w.heap.size) hHeld.1.size
     have hS3:=hHeld.below hb
     clear hb ho
     refine hK.out _ _ hS3 (fun hHeld=>?_)
     clear hK K hS3
     refine wpAnyH_ready (rs:=[26,35]) (fuel:=5) (by kernel_rfl) (by simp) ?_
     refine aC rfl (by kernel_rfl) (tf 6442450943 37) (by kernel_rfl) (fun K hK=>?_) ?_
     ·simp only [sI3,sI4,sI5]
      go_big_op
      refine (CL2.out _ _ _ jb3.out s3.out).mono ?_
      rintro e wp4 ⟨fB,fC,rfl,ho,hb⟩
      have s4:Hid (aj wp4 w.heap.size (.slice (some ⟨gs,0,none⟩) sn cs) sn sh):=s3.out.below (hb)
      have r4:Hid (ae wp4 (w.heap.size+2) #[.int .i64 0,.int .i64 0,.slice none 0 0,.slice none 0 0,.slice none 0 0,.slice none 0 0] 27):=r3.out.below (hb)
      have ja4:Hid (aj wp4 w.heap.size (.slice (some ⟨eY,0,none⟩) LJ1.length fA) LJ1.length LJ1):=ja3.out.below (hb)
      have xa4:Hid (aj wp4 w.heap.size (.slice (some ⟨bF,0,none⟩) LX2.length bG) LX2.length LX2):=xa3.out.below (hb)
      have jb4:Hid (aj wp4 w.heap.size (.slice (some ⟨kQ,0,none⟩) LJ2.length kR) LJ2.length LJ2):=jb3.out.below (hb)
      have xb4:Hid (aj wp4 w.heap.size (.slice (some ⟨fB,0,none⟩) LX3.length fC) LX3.length LX3):=ho.mono (base:=w.heap.size) hHeld.1.size
      have hS4:=hHeld.below hb
      clear hb ho
      refine hK.out _ _ hS4 (fun hHeld=>?_)
      clear hK K hS4
      refine wpAnyH_ready (rs:=[31,35]) (fuel:=4) (by kernel_rfl) (by simp) ?_
      refine aC rfl (by kernel_rfl) (tf 8589934591 37) (by kernel_rfl) (fun K hK=>?_) ?_
      ·simp only [sI3,sI4,sI5]
       go_big_op
       refine (CJ3.out _ hHeld).mono ?_
       rintro e wp5 ⟨zS,zT,rfl,ho,hb⟩
       have s5:Hid (aj wp5 w.heap.size (.slice (some ⟨gs,0,none⟩) sn cs) sn sh):=s4.out.below (hb)
       have r5:Hid (ae wp5 (w.heap.size+2) #[.int .i64 0,.int .i64 0,.slice none 0 0,.slice none 0 0,.slice none 0 0,.slice none 0 0] 27):=r4.out.below (hb)
       have ja5:Hid (aj wp5 w.heap.size (.slice (some ⟨eY,0,none⟩) LJ1.length fA) LJ1.length LJ1):=ja4.out.below (hb)
       have xa5:Hid (aj wp5 w.heap.size (.slice (some ⟨bF,0,none⟩) LX2.length bG) LX2.length LX2):=xa4.out.below (hb)
       have jb5:Hid (aj wp5 w.heap.size (.slice (some ⟨kQ,0,none⟩) LJ2.length kR) LJ2.length LJ2):=jb4.out.below (hb)
       have xb5:Hid (aj wp5 w.heap.size (.slice (some ⟨fB,0,none⟩) LX3.length fC) LX3.length LX3):=xb4.out.below (hb)
       have jc5:Hid (aj wp5 w.heap.size (.slice (some ⟨zS,0,none⟩) LJ3.length zT) LJ3.length LJ3):=ho.mono (base:=w.heap.size) hHeld.1.size
       have hS5:=hHeld.below hb
       clear hb ho
       refine hK.out _ _ hS5 (fun hHeld=>?_)
       clear hK K hS5
       refine wpAnyH_ready (rs:=[33,35]) (fuel:=3) (by kernel_rfl) (by simp) ?_
       refine aC rfl (by kernel_rfl) (tf 17179869183 37) (by kernel_rfl) (fun K hK=>?_) ?_
       ·simp only [sI3,sI4,sI5]
        go_big_op
        refine (CL3.out _ _ _ jc5.out s5.out).mono ?_
        rintro e wp6 ⟨vI,vJ,rfl,ho,hb⟩
        have s6:Hid (aj wp6 w.heap.size (.slice (some ⟨gs,0,none⟩) sn cs) sn sh):=s5.out.below (hb)
        have r6:Hid (ae wp6 (w.heap.size+2) #[.int .i64 0,.int .i64 0,.slice none 0 0,.slice none 0 0,.slice none 0 0,.slice none 0 0] 27):=r5.out.below (hb)
        have ja6:Hid (aj wp6 w.heap.size (.slice (some ⟨eY,0,none⟩) LJ1.length fA) LJ1.length LJ1):=ja5.out.below (hb)
        have xa6:Hid (aj wp6 w.heap.size (.slice (some ⟨bF,0,none⟩) LX2.length bG) LX2.length LX2):=xa5.out.below (hb)
        have jb6:Hid (aj wp6 w.heap.size (.slice (some ⟨kQ,0,none⟩) LJ2.length kR) LJ2.length LJ2):=jb5.out.below (hb)
        have xb6:Hid (aj wp6 w.heap.size (.slice (some ⟨fB,0,none⟩) LX3.length fC) LX3.length LX3):=xb5.out.below (hb)
        have jc6:Hid (aj wp6 w.heap.size (.slice (some ⟨zS,0,none⟩) LJ3.length zT) LJ3.length LJ3):=jc5.out.below (hb)
        have xc6:Hid (aj wp6 w.heap.size (.slice (some ⟨vI,0,none⟩) LX4.length vJ) LX4.length LX4):=ho.mono (base:=w.heap.size) hHeld.1.size
        have hS6:=hHeld.below hb
        clear hb ho
        refine hK.out _ _ hS6 (fun hHeld=>?_)
        clear hK K hS6
        refine uQ 34 58 (.agg #[.int .i64 (st*su),.int .i64 ini,.slice (some ⟨bF,0,none⟩) LX2.length bG,.slice (some ⟨fB,0,none⟩) LX3.length fC,.slice (some ⟨vI,0,none⟩) LX4.length vJ,.slice none 0 0]) (fuel:=2) (fun ρ=>ρ (.tmp 28)=.int .i64 (st*su)∧ρ (.tmp 36)=.int .i64 ini∧ρ (.tmp 43)=.slice (some ⟨bF,0,none⟩) LX2.length bG∧ρ (.tmp 50)=.slice (some ⟨fB,0,none⟩) LX3.length fC∧ρ (.tmp 57)=.slice (some ⟨vI,0,none⟩) LX4.length vJ) rfl rfl (by kernel_rfl) (fun _ _ _ h=>h) (by kernel_rfl) ⟨by kernel_rfl,by kernel_rfl,by kernel_rfl,by kernel_rfl,by kernel_rfl⟩ (fun ρ hF _ w hSw=>by obtain ⟨hr0,hr1,hr2,hr3,hr4⟩:=hF;simp [go_sem,hr0,hr1,hr2,hr3,hr4]) hHeld (tf 34359738367 37) (by kernel_rfl) (fun K hK=>?_)
        go_big_move
        refine hK.out _ ?_
        clear hK K
        refine wpAnyH_ready (rs:=[35]) (fuel:=1) (by kernel_rfl) (by simp) ?_
        refine aC rfl (by kernel_rfl) (tf 68719476735 37) (by kernel_rfl) (fun K hK=>?_) AllReadyH.nil
        have s7:Hid (aj (wp6.alloc (.cells #[.int .i64 0,.int .i64 0,.slice none 0 0,.slice none 0 0,.slice none 0 0,.slice none 0 0] 27)) w.heap.size (.slice (some ⟨gs,0,none⟩) sn cs) sn sh):=s6.out.below ((Below.refl _ wp6).alloc (Nat.le_refl _) (.cells #[.int .i64 0,.int .i64 0,.slice none 0 0,.slice none 0 0,.slice none 0 0,.slice none 0 0] 27))
        have r7:Hid (ae (wp6.alloc (.cells #[.int .i64 0,.int .i64 0,.slice none 0 0,.slice none 0 0,.slice none 0 0,.slice none 0 0] 27)) (w.heap.size+2) #[.int .i64 0,.int .i64 0,.slice none 0 0,.slice none 0 0,.slice none 0 0,.slice none 0 0] 27):=r6.out.below ((Below.refl _ wp6).alloc (Nat.le_refl _) (.cells #[.int .i64 0,.int .i64 0,.slice none 0 0,.slice none 0 0,.slice none 0 0,.slice none 0 0] 27))
        have ja7:Hid (aj (wp6.alloc (.cells #[.int .i64 0,.int .i64 0,.slice none 0 0,.slice none 0 0,.slice none 0 0,.slice none 0 0] 27)) w.heap.size (.slice (some ⟨eY,0,none⟩) LJ1.length fA) LJ1.length LJ1):=ja6.out.below ((Below.refl _ wp6).alloc (Nat.le_refl _) (.cells #[.int .i64 0,.int .i64 0,.slice none 0 0,.slice none 0 0,.slice none 0 0,.slice none 0 0] 27))
        have xa7:Hid (aj (wp6.alloc (.cells #[.int .i64 0,.int .i64 0,.slice none 0 0,.slice none 0 0,.slice none 0 0,.slice none 0 0] 27)) w.heap.size (.slice (some ⟨bF,0,none⟩) LX2.length bG) LX2.length LX2):=xa6.out.below ((Below.refl _ wp6).alloc (Nat.le_refl _) (.cells #[.int .i64 0,.int .i64 0,.slice none 0 0,.slice none 0 0,.slice none 0 0,.slice none 0 0] 27))
        have jb7:Hid (aj (wp6.alloc (.cells #[.int .i64 0,.int .i64 0,.slice none 0 0,.slice none 0 0,.slice none 0 0,.slice none 0 0] 27)) w.heap.size (.slice (some ⟨kQ,0,none⟩) LJ2.length kR) LJ2.length LJ2):=jb6.out.below ((Below.refl _ wp6).alloc (Nat.le_refl _) (.cells #[.int .i64 0,.int .i64 0,.slice none 0 0,.slice none 0 0,.slice none 0 0,.slice none 0 0] 27))
        have xb7:Hid (aj (wp6.alloc (.cells #[.int .i64 0,.int .i64 0,.slice none 0 0,.slice none 0 0,.slice none 0 0,.slice none 0 0] 27)) w.heap.size (.slice (some ⟨fB,0,none⟩) LX3.length fC) LX3.length LX3):=xb6.out.below ((Below.refl _ wp6).alloc (Nat.le_refl _) (.cells #[.int .i64 0,.int .i64 0,.slice none 0 0,.slice none 0 0,.slice none 0 0,.slice none 0 0] 27))
        have jc7:Hid (aj (wp6.alloc (.cells #[.int .i64 0,.int .i64 0,.slice none 0 0,.slice none 0 0,.slice none 0 0,.slice none 0 0] 27)) w.heap.size (.slice (some ⟨zS,0,none⟩) LJ3.length zT) LJ3.length LJ3):=jc6.out.below ((Below.refl _ wp6).alloc (Nat.le_refl _) (.cells #[.int .i64 0,.int .i64 0,.slice none 0 0,.slice none 0 0,.slice none 0 0,.slice none 0 0] 27))
        have xc7:Hid (aj (wp6.alloc (.cells #[.int .i64 0,.int .i64 0,.slice none 0 0,.slice none 0 0,.slice none 0 0,.slice none 0 0] 27)) w.heap.size (.slice (some ⟨vI,0,none⟩) LX4.length vJ) LX4.length LX4):=xc6.out.below ((Below.refl _ wp6).alloc (Nat.le_refl _) (.cells #[.int .i64 0,.int .i64 0,.slice none 0 0,.slice none 0 0,.slice none 0 0,.slice none 0 0] 27))
        have BL:Hid (w.heap.size+2<wp6.heap.size):=by have h1:=r6.out.lt;(try simp at h1);unfold Hid;omega
        have vn7:Hid (ae (wp6.alloc (.cells #[.int .i64 0,.int .i64 0,.slice none 0 0,.slice none 0 0,.slice none 0 0,.slice none 0 0] 27)) (wp6.heap.size) #[.int .i64 0,.int .i64 0,.slice none 0 0,.slice none 0 0,.slice none 0 0,.slice none 0 0] 27):=ae.new wp6 #[.int .i64 0,.int .i64 0,.slice none 0 0,.slice none 0 0,.slice none 0 0,.slice none 0 0] 27 (by simp)
        simp only [sI3,sI4,sI5]
        go_big_op
        refine hK.out _ _ (hHeld.below ((Below.refl _ wp6).alloc (Nat.le_refl _) (.cells #[.int .i64 0,.int .i64 0,.slice none 0 0,.slice none 0 0,.slice none 0 0,.slice none 0 0] 27))) (fun hHeld=>?_)
        clear hK K
        have tZ:Hid ((wp6.alloc (.cells #[.int .i64 0,.int .i64 0,.slice none 0 0,.slice none 0 0,.slice none 0 0,.slice none 0 0] 27)).there (wp6.heap.size) 0 6):=vn7.out.there rfl
        have gZ:=Lib.hid (aA (wp6.heap.size) [.int .i64 (st*su),.int .i64 ini,.slice (some ⟨bF,0,none⟩) LX2.length bG,.slice (some ⟨fB,0,none⟩) LX3.length fC,.slice (some ⟨vI,0,none⟩) LX4.length vJ,.slice none 0 0] 0 (wp6.alloc (.cells #[.int .i64 0,.int .i64 0,.slice none 0 0,.slice none 0 0,.slice none 0 0,.slice none 0 0] 27)))
        have hSZ:Hid (aI w ((wp6.alloc (.cells #[.int .i64 0,.int .i64 0,.slice none 0 0,.slice none 0 0,.slice none 0 0,.slice none 0 0] 27)).setCells (wp6.heap.size) 0 [.int .i64 (st*su),.int .i64 ini,.slice (some ⟨bF,0,none⟩) LX2.length bG,.slice (some ⟨fB,0,none⟩) LX3.length fC,.slice (some ⟨vI,0,none⟩) LX4.length vJ,.slice none 0 0]) w.heap.size (w.heap.size+1) 27 (iaC st it a2 n2 c2 a3 n3 c3 a4 n4 c4 a5 n5 c5) (iaC su iu b2 m2 d2 b3 m3 d3 b4 m4 d4 b5 m5 d5)):=⟨hHeld.1.grown gZ.out hHeld.1.size (fun q hq=>by have h1:=Option.some.inj hq;have h2:=BL.out;omega),hHeld.2.1.grown gZ.out (fun e=>by have h1:=Option.some.inj e;have h2:=BL.out;omega),hHeld.2.2.grown gZ.out (fun e=>by have h1:=Option.some.inj e;have h2:=BL.out;omega)⟩
        have rZ:=Lib.hid (r7.out.grown gZ.out (fun e=>by have h1:=Option.some.inj e;have h2:=BL.out;omega))
        have vZ:Hid (ae ((wp6.alloc (.cells #[.int .i64 0,.int .i64 0,.slice none 0 0,.slice none 0 0,.slice none 0 0,.slice none 0 0] 27)).setCells (wp6.heap.size) 0 [.int .i64 (st*su),.int .i64 ini,.slice (some ⟨bF,0,none⟩) LX2.length bG,.slice (some ⟨fB,0,none⟩) LX3.length fC,.slice (some ⟨vI,0,none⟩) LX4.length vJ,.slice none 0 0]) (wp6.heap.size) #[.int .i64 (st*su),.int .i64 ini,.slice (some ⟨bF,0,none⟩) LX2.length bG,.slice (some ⟨fB,0,none⟩) LX3.length fC,.slice (some ⟨vI,0,none⟩) LX4.length vJ,.slice none 0 0] 27):=vn7.out.sets _ _ _ _ _ _
        have qs:=Lib.hid (s7.out.az vn7.out (by decide) gZ.out)
        have qxa:=Lib.hid (xa7.out.az vn7.out (by decide) gZ.out)
        have qxb:=Lib.hid (xb7.out.az vn7.out (by decide) gZ.out)
        have qxc:=Lib.hid (xc7.out.az vn7.out (by decide) gZ.out)
        refine wpAnyH_ready (rs:=[36]) (fuel:=0) (by kernel_rfl) (by simp) ?_
        refine aC rfl (by kernel_rfl) (tf 137438953471 37) (by kernel_rfl) (fun K hK=>?_) AllReadyH.nil
        refine wp_store_mid _ _ _ rfl (wp6.heap.size) 0 #[.int .i64 (st*su),.int .i64 ini,.slice (some ⟨bF,0,none⟩) LX2.length bG,.slice (some ⟨fB,0,none⟩) LX3.length fC,.slice (some ⟨vI,0,none⟩) LX4.length vJ,.slice none 0 0] rfl rfl tZ.out (by kernel_rfl) (di _ _ _ _ _ _ _ _ _ _ _ _ _ _) ?_
        refine hK.out _ _ hSZ.out (fun hHeld=>?_)
        clear hK K
        refine wpAnyH_done (by kernel_rfl) ?_ _
        exact REST.out (wp6.heap.size,eY,fA,bF,bG,kQ,kR,fB,fC,zS,zT,vI,vJ) _ ⟨hSZ.out,rZ.out,qs.out,vZ.out,qxa.out,qxb.out,qxc.out,BL.out⟩
       refine aC rfl (by kernel_rfl) (tf 42949672959 37) (by kernel_rfl) (fun K hK=>?_) AllReadyH.nil
       have s8:Hid (aj (wp5.alloc (.cells #[.int .i64 0,.int .i64 0,.slice none 0 0,.slice none 0 0,.slice none 0 0,.slice none 0 0] 27)) w.heap.size (.slice (some ⟨gs,0,none⟩) sn cs) sn sh):=s5.out.below ((Below.refl _ wp5).alloc (Nat.le_refl _) (.cells #[.int .i64 0,.int .i64 0,.slice none 0 0,.slice none 0 0,.slice none 0 0,.slice none 0 0] 27))
       have r8:Hid (ae (wp5.alloc (.cells #[.int .i64 0,.int .i64 0,.slice none 0 0,.slice none 0 0,.slice none 0 0,.slice none 0 0] 27)) (w.heap.size+2) #[.int .i64 0,.int .i64 0,.slice none 0 0,.slice none 0 0,.slice none 0 0,.slice none 0 0] 27):=r5.out.below ((Below.refl _ wp5).alloc (Nat.le_refl _) (.cells #[.int .i64 0,.int .i64 0,.slice none 0 0,.slice none 0 0,.slice none 0 0,.slice none 0 0] 27))
       have ja8:Hid (aj (wp5.alloc (.cells #[.int .i64 0,.int .i64 0,.slice none 0 0,.slice none 0 0,.slice none 0 0,.slice none 0 0] 27)) w.heap.size (.slice (some ⟨eY,0,none⟩) LJ1.length fA) LJ1.length LJ1):=ja5.out.below ((Below.refl _ wp5).alloc (Nat.le_refl _) (.cells #[.int .i64 0,.int .i64 0,.slice none 0 0,.slice none 0 0,.slice none 0 0,.slice none 0 0] 27))
       have xa8:Hid (aj (wp5.alloc (.cells #[.int .i64 0,.int .i64 0,.slice none 0 0,.slice none 0 0,.slice none 0 0,.slice none 0 0] 27)) w.heap.size (.slice (some ⟨bF,0,none⟩) LX2.length bG) LX2.length LX2):=xa5.out.below ((Below.refl _ wp5).alloc (Nat.le_refl _) (.cells #[.int .i64 0,.int .i64 0,.slice none 0 0,.slice none 0 0,.slice none 0 0,.slice none 0 0] 27))
       have jb8:Hid (aj (wp5.alloc (.cells #[.int .i64 0,.int .i64 0,.slice none 0 0,.slice none 0 0,.slice none 0 0,.slice none 0 0] 27)) w.heap.size (.slice (some ⟨kQ,0,none⟩) LJ2.length kR) LJ2.length LJ2):=jb5.out.below ((Below.refl _ wp5).alloc (Nat.le_refl _) (.cells #[.int .i64 0,.int .i64 0,.slice none 0 0,.slice none 0 0,.slice none 0 0,.slice none 0 0] 27))
       have xb8:Hid (aj (wp5.alloc (.cells #[.int .i64 0,.int .i64 0,.slice none 0 0,.slice none 0 0,.slice none 0 0,.slice none 0 0] 27)) w.heap.size (.slice (some ⟨fB,0,none⟩) LX3.length fC) LX3.length LX3):=xb5.out.below ((Below.refl _ wp5).alloc (Nat.le_refl _) (.cells #[.int .i64 0,.int .i64 0,.slice none 0 0,.slice none 0 0,.slice none 0 0,.slice none 0 0] 27))
       have jc8:Hid (aj (wp5.alloc (.cells #[.int .i64 0,.int .i64 0,.slice none 0 0,.slice none 0 0,.slice none 0 0,.slice none 0 0] 27)) w.heap.size (.slice (some ⟨zS,0,none⟩) LJ3.length zT) LJ3.length LJ3):=jc5.out.below ((Below.refl _ wp5).alloc (Nat.le_refl _) (.cells #[.int .i64 0,.int .i64 0,.slice none 0 0,.slice none 0 0,.slice none 0 0,.slice none 0 0] 27))
       have BL:Hid (w.heap.size+2<wp5.heap.size):=by have h1:=r5.out.lt;(try simp at h1);unfold Hid;omega
       have vn8:Hid (ae (wp5.alloc (.cells #[.int .i64 0,.int .i64 0,.slice none 0 0,.slice none 0 0,.slice none 0 0,.slice none 0 0] 27)) (wp5.heap.size) #[.int .i64 0,.int .i64 0,.slice none 0 0,.slice none 0 0,.slice none 0 0,.slice none 0 0] 27):=ae.new wp5 #[.int .i64 0,.int .i64 0,.slice none 0 0,.slice none 0 0,.slice none 0 0,.slice none 0 0] 27 (by simp)
       simp only [sI3,sI4,sI5]
       go_big_op
       refine hK.out _ _ (hHeld.below ((Below.refl _ wp5).alloc (Nat.le_refl _) (.cells #[.int .i64 0,.int .i64 0,.slice none 0 0,.slice none 0 0,.slice none 0 0,.slice none 0 0] 27))) (fun hHeld=>?_)
       clear hK K
       refine wpAnyH_ready (rs:=[33]) (fuel:=2) (by kernel_rfl) (by simp) ?_
       refine aC rfl (by kernel_rfl) (tf 51539607551 37) (by kernel_rfl) (fun K hK=>?_) AllReadyH.nil
       simp only [sI3,sI4,sI5]
       go_big_op
       refine (CL3.out _ _ _ jc8.out s8.out).mono ?_
       rintro e wp9 ⟨xe,xg,rfl,ho,hb⟩
       have s9:Hid (aj wp9 w.heap.size (.slice (some ⟨gs,0,none⟩) sn cs) sn sh):=s8.out.below (hb)
       have r9:Hid (ae wp9 (w.heap.size+2) #[.int .i64 0,.int .i64 0,.slice none 0 0,.slice none 0 0,.slice none 0 0,.slice none 0 0] 27):=r8.out.below (hb)
       have ja9:Hid (aj wp9 w.heap.size (.slice (some ⟨eY,0,none⟩) LJ1.length fA) LJ1.length LJ1):=ja8.out.below (hb)
       have xa9:Hid (aj wp9 w.heap.size (.slice (some ⟨bF,0,none⟩) LX2.length bG) LX2.length LX2):=xa8.out.below (hb)
       have jb9:Hid (aj wp9 w.heap.size (.slice (some ⟨kQ,0,none⟩) LJ2.length kR) LJ2.length LJ2):=jb8.out.below (hb)
       have xb9:Hid (aj wp9 w.heap.size (.slice (some ⟨fB,0,none⟩) LX3.length fC) LX3.length LX3):=xb8.out.below (hb)
       have jc9:Hid (aj wp9 w.heap.size (.slice (some ⟨zS,0,none⟩) LJ3.length zT) LJ3.length LJ3):=jc8.out.below (hb)
       have v9:Hid (ae wp9 (wp5.heap.size) #[.int .i64 0,.int .i64 0,.slice none 0 0,.slice none 0 0,.slice none 0 0,.slice none 0 0] 27):=vn8.out.below (hb)
       have xc9:Hid (aj wp9 w.heap.size (.slice (some ⟨xe,0,none⟩) LX4.length xg) LX4.length LX4):=ho.mono (base:=w.heap.size) hHeld.1.size
       have hS9:=hHeld.below hb
       clear hb ho
       refine hK.out _ _ hS9 (fun hHeld=>?_)
       clear hK K hS9
       refine uQ 34 58 (.agg #[.int .i64 (st*su),.int .i64 ini,.slice (some ⟨bF,0,none⟩) LX2.length bG,.slice (some ⟨fB,0,none⟩) LX3.length fC,.slice (some ⟨xe,0,none⟩) LX4.length xg,.slice none 0 0]) (fuel:=1) (fun ρ=>ρ (.tmp 28)=.int .i64 (st*su)∧ρ (.tmp 36)=.int .i64 ini∧ρ (.tmp 43)=.slice (some ⟨bF,0,none⟩) LX2.length bG∧ρ (.tmp 50)=.slice (some ⟨fB,0,none⟩) LX3.length fC∧ρ (.tmp 57)=.slice (some ⟨xe,0,none⟩) LX4.length xg) rfl rfl (by kernel_rfl) (fun _ _ _ h=>h) (by kernel_rfl) ⟨by kernel_rfl,by kernel_rfl,by kernel_rfl,by kernel_rfl,by kernel_rfl⟩ (fun ρ hF _ w hSw=>by obtain ⟨hr0,hr1,hr2,hr3,hr4⟩:=hF;simp [go_sem,hr0,hr1,hr2,hr3,hr4]) hHeld (tf 68719476735 37) (by kernel_rfl) (fun K hK=>?_)
       go_big_move
       refine hK.out _ ?_
       clear hK K
       have tZ:Hid (wp9.there (wp5.heap.size) 0 6):=v9.out.there rfl
       have gZ:=Lib.hid (aA (wp5.heap.size) [.int .i64 (st*su),.int .i64 ini,.slice (some ⟨bF,0,none⟩) LX2.length bG,.slice (some ⟨fB,0,none⟩) LX3.length fC,.slice (some ⟨xe,0,none⟩) LX4.length xg,.slice none 0 0] 0 wp9)
       have hSZ:Hid (aI w (wp9.setCells (wp5.heap.size) 0 [.int .i64 (st*su),.int .i64 ini,.slice (some ⟨bF,0,none⟩) LX2.length bG,.slice (some ⟨fB,0,none⟩) LX3.length fC,.slice (some ⟨xe,0,none⟩) LX4.length xg,.slice none 0 0]) w.heap.size (w.heap.size+1) 27 (iaC st it a2 n2 c2 a3 n3 c3 a4 n4 c4 a5 n5 c5) (iaC su iu b2 m2 d2 b3 m3 d3 b4 m4 d4 b5 m5 d5)):=⟨hHeld.1.grown gZ.out hHeld.1.size (fun q hq=>by have h1:=Option.some.inj hq;have h2:=BL.out;omega),hHeld.2.1.grown gZ.out (fun e=>by have h1:=Option.some.inj e;have h2:=BL.out;omega),hHeld.2.2.grown gZ.out (fun e=>by have h1:=Option.some.inj e;have h2:=BL.out;omega)⟩
       have rZ:=Lib.hid (r9.out.grown gZ.out (fun e=>by have h1:=Option.some.inj e;have h2:=BL.out;omega))
       have vZ:Hid (ae (wp9.setCells (wp5.heap.size) 0 [.int .i64 (st*su),.int .i64 ini,.slice (some ⟨bF,0,none⟩) LX2.length bG,.slice (some ⟨fB,0,none⟩) LX3.length fC,.slice (some ⟨xe,0,none⟩) LX4.length xg,.slice none 0 0]) (wp5.heap.size) #[.int .i64 (st*su),.int .i64 ini,.slice (some ⟨bF,0,none⟩) LX2.length bG,.slice (some ⟨fB,0,none⟩) LX3.length fC,.slice (some ⟨xe,0,none⟩) LX4.length xg,.slice none 0 0] 27):=v9.out.sets _ _ _ _ _ _
       have qs:=Lib.hid (s9.out.az v9.out (by decide) gZ.out)
       have qxa:=Lib.hid (xa9.out.az v9.out (by decide) gZ.out)
       have qxb:=Lib.hid (xb9.out.az v9.out (by decide) gZ.out)
       have qxc:=Lib.hid (xc9.out.az v9.out (by decide) gZ.out)
       refine wpAnyH_ready (rs:=[36]) (fuel:=0) (by kernel_rfl) (by simp) ?_
       refine aC rfl (by kernel_rfl) (tf 137438953471 37) (by kernel_rfl) (fun K hK=>?_) AllReadyH.nil
       refine wp_store_mid _ _ _ rfl (wp5.heap.size) 0 #[.int .i64 (st*su),.int .i64 ini,.slice (some ⟨bF,0,none⟩) LX2.length bG,.slice (some ⟨fB,0,none⟩) LX3.length fC,.slice (some ⟨xe,0,none⟩) LX4.length xg,.slice none 0 0] rfl rfl tZ.out (by kernel_rfl) (di _ _ _ _ _ _ _ _ _ _ _ _ _ _) ?_
       refine hK.out _ _ hSZ.out (fun hHeld=>?_)
       clear hK K
       refine wpAnyH_done (by kernel_rfl) ?_ _
       exact REST.out (wp5.heap.size,eY,fA,bF,bG,kQ,kR,fB,fC,zS,zT,xe,xg) _ ⟨hSZ.out,rZ.out,qs.out,vZ.out,qxa.out,qxb.out,qxc.out,BL.out⟩
      refine aC rfl (by kernel_rfl) (tf 40802189311 37) (by kernel_rfl) (fun K hK=>?_) AllReadyH.nil
      have s10:Hid (aj (wp4.alloc (.cells #[.int .i64 0,.int .i64 0,.slice none 0 0,.slice none 0 0,.slice none 0 0,.slice none 0 0] 27)) w.heap.size (.slice (some ⟨gs,0,none⟩) sn cs) sn sh):=s4.out.below ((Below.refl _ wp4).alloc (Nat.le_refl _) (.cells #[.int .i64 0,.int .i64 0,.slice none 0 0,.slice none 0 0,.slice none 0 0,.slice none 0 0] 27))
      have r10:Hid (ae (wp4.alloc (.cells #[.int .i64 0,.int .i64 0,.slice none 0 0,.slice none 0 0,.slice none 0 0,.slice none 0 0] 27)) (w.heap.size+2) #[.int .i64 0,.int .i64 0,.slice none 0 0,.slice none 0 0,.slice none 0 0,.slice none 0 0] 27):=r4.out.below ((Below.refl _ wp4).alloc (Nat.le_refl _) (.cells #[.int .i64 0,.int .i64 0,.slice none 0 0,.slice none 0 0,.slice none 0 0,.slice none 0 0] 27))
      have ja10:Hid (aj (wp4.alloc (.cells #[.int .i64 0,.int .i64 0,.slice none 0 0,.slice none 0 0,.slice none 0 0,.slice none 0 0] 27)) w.heap.size (.slice (some ⟨eY,0,none⟩) LJ1.length fA) LJ1.length LJ1):=ja4.out.below ((Below.refl _ wp4).alloc (Nat.le_refl _) (.cells #[.int .i64 0,.int .i64 0,.slice none 0 0,.slice none 0 0,.slice none 0 0,.slice none 0 0] 27))
      have xa10:Hid (aj (wp4.alloc (.cells #[.int .i64 0,.int .i64 0,.slice none 0 0,.slice none 0 0,.slice none 0 0,.slice none 0 0] 27)) w.heap.size (.slice (some ⟨bF,0,none⟩) LX2.length bG) LX2.length LX2):=xa4.out.below ((Below.refl _ wp4).alloc (Nat.le_refl _) (.cells #[.int .i64 0,.int .i64 0,.slice none 0 0,.slice none 0 0,.slice none 0 0,.slice none 0 0] 27))
      have jb10:Hid (aj (wp4.alloc (.cells #[.int .i64 0,.int .i64 0,.slice none 0 0,.slice none 0 0,.slice none 0 0,.slice none 0 0] 27)) w.heap.size (.slice (some ⟨kQ,0,none⟩) LJ2.length kR) LJ2.length LJ2):=jb4.out.below ((Below.refl _ wp4).alloc (Nat.le_refl _) (.cells #[.int .i64 0,.int .i64 0,.slice none 0 0,.slice none 0 0,.slice none 0 0,.slice none 0 0] 27))
      have xb10:Hid (aj (wp4.alloc (.cells #[.int .i64 0,.int .i64 0,.slice none 0 0,.slice none 0 0,.slice none 0 0,.slice none 0 0] 27)) w.heap.size (.slice (some ⟨fB,0,none⟩) LX3.length fC) LX3.length LX3):=xb4.out.below ((Below.refl _ wp4).alloc (Nat.le_refl _) (.cells #[.int .i64 0,.int .i64 0,.slice none 0 0,.slice none 0 0,.slice none 0 0,.slice none 0 0] 27))
      have BL:Hid (w.heap.size+2<wp4.heap.size):=by have h1:=r4.out.lt;(try simp at h1);unfold Hid;omega
      have zU:Hid (ae (wp4.alloc (.cells #[.int .i64 0,.int .i64 0,.slice none 0 0,.slice none 0 0,.slice none 0 0,.slice none 0 0] 27)) (wp4.heap.size) #[.int .i64 0,.int .i64 0,.slice none 0 0,.slice none 0 0,.slice none 0 0,.slice none 0 0] 27):=ae.new wp4 #[.int .i64 0,.int .i64 0,.slice none 0 0,.slice none 0 0,.slice none 0 0,.slice none 0 0] 27 (by simp)
      simp only [sI3,sI4,sI5]
      go_big_op
      refine hK.out _ _ (hHeld.below ((Below.refl _ wp4).alloc (Nat.le_refl _) (.cells #[.int .i64 0,.int .i64 0,.slice none 0 0,.slice none 0 0,.slice none 0 0,.slice none 0 0] 27))) (fun hHeld=>?_)
      clear hK K
      refine wpAnyH_ready (rs:=[31]) (fuel:=3) (by kernel_rfl) (by simp) ?_
      refine aC rfl (by kernel_rfl) (tf 42949672959 37) (by kernel_rfl) (fun K hK=>?_) AllReadyH.nil
      simp only [sI3,sI4,sI5]
      go_big_op
      refine (CJ3.out _ hHeld).mono ?_
      rintro e fD ⟨GV,GY,rfl,ho,hb⟩
      have s11:Hid (aj fD w.heap.size (.slice (some ⟨gs,0,none⟩) sn cs) sn sh):=s10.out.below (hb)
      have r11:Hid (ae fD (w.heap.size+2) #[.int .i64 0,.int .i64 0,.slice none 0 0,.slice none 0 0,.slice none 0 0,.slice none 0 0] 27):=r10.out.below (hb)
      have ja11:Hid (aj fD w.heap.size (.slice (some ⟨eY,0,none⟩) LJ1.length fA) LJ1.length LJ1):=ja10.out.below (hb)
      have xa11:Hid (aj fD w.heap.size (.slice (some ⟨bF,0,none⟩) LX2.length bG) LX2.length LX2):=xa10.out.below (hb)
      have jb11:Hid (aj fD w.heap.size (.slice (some ⟨kQ,0,none⟩) LJ2.length kR) LJ2.length LJ2):=jb10.out.below (hb)
      have xb11:Hid (aj fD w.heap.size (.slice (some ⟨fB,0,none⟩) LX3.length fC) LX3.length LX3):=xb10.out.below (hb)
      have v11:Hid (ae fD (wp4.heap.size) #[.int .i64 0,.int .i64 0,.slice none 0 0,.slice none 0 0,.slice none 0 0,.slice none 0 0] 27):=zU.out.below (hb)
      have jc11:Hid (aj fD w.heap.size (.slice (some ⟨GV,0,none⟩) LJ3.length GY) LJ3.length LJ3):=ho.mono (base:=w.heap.size) hHeld.1.size
      have rC:=hHeld.below hb
      clear hb ho
      refine hK.out _ _ rC (fun hHeld=>?_)
      clear hK K rC
      refine wpAnyH_ready (rs:=[33]) (fuel:=2) (by kernel_rfl) (by simp) ?_
      refine aC rfl (by kernel_rfl) (tf 51539607551 37) (by kernel_rfl) (fun K hK=>?_) AllReadyH.nil
      simp only [sI3,sI4,sI5]
      go_big_op
      refine (CL3.out _ _ _ jc11.out s11.out).mono ?_
      rintro e iI ⟨tK,tN,rfl,ho,hb⟩
      have s12:Hid (aj iI w.heap.size (.slice (some ⟨gs,0,none⟩) sn cs) sn sh):=s11.out.below (hb)
      have r12:Hid (ae iI (w.heap.size+2) #[.int .i64 0,.int .i64 0,.slice none 0 0,.slice none 0 0,.slice none 0 0,.slice none 0 0] 27):=r11.out.below (hb)
      have ja12:Hid (aj iI w.heap.size (.slice (some ⟨eY,0,none⟩) LJ1.length fA) LJ1.length LJ1):=ja11.out.below (hb)
      have xa12:Hid (aj iI w.heap.size (.slice (some ⟨bF,0,none⟩) LX2.length bG) LX2.length LX2):=xa11.out.below (hb)
      have jb12:Hid (aj iI w.heap.size (.slice (some ⟨kQ,0,none⟩) LJ2.length kR) LJ2.length LJ2):=jb11.out.below (hb)
      have xb12:Hid (aj iI w.heap.size (.slice (some ⟨fB,0,none⟩) LX3.length fC) LX3.length LX3):=xb11.out.below (hb)
      have v12:Hid (ae iI (wp4.heap.size) #[.int .i64 0,.int .i64 0,.slice none 0 0,.slice none 0 0,.slice none 0 0,.slice none 0 0] 27):=v11.out.below (hb)
      have jc12:Hid (aj iI w.heap.size (.slice (some ⟨GV,0,none⟩) LJ3.length GY) LJ3.length LJ3):=jc11.out.below (hb)
      have xc12:Hid (aj iI w.heap.size (.slice (some ⟨tK,0,none⟩) LX4.length tN) LX4.length LX4):=ho.mono (base:=w.heap.size) hHeld.1.size
      have rD:=hHeld.below hb
      clear hb ho
      refine hK.out _ _ rD (fun hHeld=>?_)
      clear hK K rD
      refine uQ 34 58 (.agg #[.int .i64 (st*su),.int .i64 ini,.slice (some ⟨bF,0,none⟩) LX2.length bG,.slice (some ⟨fB,0,none⟩) LX3.length fC,.slice (some ⟨tK,0,none⟩) LX4.length tN,.slice none 0 0]) (fuel:=1) (fun ρ=>ρ (.tmp 28)=.int .i64 (st*su)∧ρ (.tmp 36)=.int .i64 ini∧ρ (.tmp 43)=.slice (some ⟨bF,0,none⟩) LX2.length bG∧ρ (.tmp 50)=.slice (some ⟨fB,0,none⟩) LX3.length fC∧ρ (.tmp 57)=.slice (some ⟨tK,0,none⟩) LX4.length tN) rfl rfl (by kernel_rfl) (fun _ _ _ h=>h) (by kernel_rfl) ⟨by kernel_rfl,by kernel_rfl,by kernel_rfl,by kernel_rfl,by kernel_rfl⟩ (fun ρ hF _ w hSw=>by obtain ⟨hr0,hr1,hr2,hr3,hr4⟩:=hF;simp [go_sem,hr0,hr1,hr2,hr3,hr4]) hHeld (tf 68719476735 37) (by kernel_rfl) (fun K hK=>?_)
      go_big_move
      refine hK.out _ ?_
      clear hK K
      have tZ:Hid (iI.there (wp4.heap.size) 0 6):=v12.out.there rfl
      have gZ:=Lib.hid (aA (wp4.heap.size) [.int .i64 (st*su),.int .i64 ini,.slice (some ⟨bF,0,none⟩) LX2.length bG,.slice (some ⟨fB,0,none⟩) LX3.length fC,.slice (some ⟨tK,0,none⟩) LX4.length tN,.slice none 0 0] 0 iI)
      have hSZ:Hid (aI w (iI.setCells (wp4.heap.size) 0 [.int .i64 (st*su),.int .i64 ini,.slice (some ⟨bF,0,none⟩) LX2.length bG,.slice (some ⟨fB,0,none⟩) LX3.length fC,.slice (some ⟨tK,0,none⟩) LX4.length tN,.slice none 0 0]) w.heap.size (w.heap.size+1) 27 (iaC st it a2 n2 c2 a3 n3 c3 a4 n4 c4 a5 n5 c5) (iaC su iu b2 m2 d2 b3 m3 d3 b4 m4 d4 b5 m5 d5)):=⟨hHeld.1.grown gZ.out hHeld.1.size (fun q hq=>by have h1:=Option.some.inj hq;have h2:=BL.out;omega),hHeld.2.1.grown gZ.out (fun e=>by have h1:=Option.some.inj e;have h2:=BL.out;omega),hHeld.2.2.grown gZ.out (fun e=>by have h1:=Option.some.inj e;have h2:=BL.out;omega)⟩
      have rZ:=Lib.hid (r12.out.grown gZ.out (fun e=>by have h1:=Option.some.inj e;have h2:=BL.out;omega))
      have vZ:Hid (ae (iI.setCells (wp4.heap.size) 0 [.int .i64 (st*su),.int .i64 ini,.slice (some ⟨bF,0,none⟩) LX2.length bG,.slice (some ⟨fB,0,none⟩) LX3.length fC,.slice (some ⟨tK,0,none⟩) LX4.length tN,.slice none 0 0]) (wp4.heap.size) #[.int .i64 (st*su),.int .i64 ini,.slice (some ⟨bF,0,none⟩) LX2.length bG,.slice (some ⟨fB,0,none⟩) LX3.length fC,.slice (some ⟨tK,0,none⟩) LX4.length tN,.slice none 0 0] 27):=v12.out.sets _ _ _ _ _ _
      have qs:=Lib.hid (s12.out.az v12.out (by decide) gZ.out)
      have qxa:=Lib.hid (xa12.out.az v12.out (by decide) gZ.out)
      have qxb:=Lib.hid (xb12.out.az v12.out (by decide) gZ.out)
      have qxc:=Lib.hid (xc12.out.az v12.out (by decide) gZ.out)
      refine wpAnyH_ready (rs:=[36]) (fuel:=0) (by kernel_rfl) (by simp) ?_
      refine aC rfl (by kernel_rfl) (tf 137438953471 37) (by kernel_rfl) (fun K hK=>?_) AllReadyH.nil
      refine wp_store_mid _ _ _ rfl (wp4.heap.size) 0 #[.int .i64 (st*su),.int .i64 ini,.slice (some ⟨bF,0,none⟩) LX2.length bG,.slice (some ⟨fB,0,none⟩) LX3.length fC,.slice (some ⟨tK,0,none⟩) LX4.length tN,.slice none 0 0] rfl rfl tZ.out (by kernel_rfl) (di _ _ _ _ _ _ _ _ _ _ _ _ _ _) ?_
      refine hK.out _ _ hSZ.out (fun hHeld=>?_)
      clear hK K
      refine wpAnyH_done (by kernel_rfl) ?_ _
      exact REST.out (wp4.heap.size,eY,fA,bF,bG,kQ,kR,fB,fC,GV,GY,tK,tN) _ ⟨hSZ.out,rZ.out,qs.out,vZ.out,qxa.out,qxb.out,qxc.out,BL.out⟩
     refine aC rfl (by kernel_rfl) (tf 40735080447 37) (by kernel_rfl) (fun K hK=>?_) AllReadyH.nil
     have s13:Hid (aj (wp3.alloc (.cells #[.int .i64 0,.int .i64 0,.slice none 0 0,.slice none 0 0,.slice none 0 0,.slice none 0 0] 27)) w.heap.size (.slice (some ⟨gs,0,none⟩) sn cs) sn sh):=s3.out.below ((Below.refl _ wp3).alloc (Nat.le_refl _) (.cells #[.int .i64 0,.int .i64 0,.slice none 0 0,.slice none 0 0,.slice none 0 0,.slice none 0 0] 27))
     have r13:Hid (ae (wp3.alloc (.cells #[.int .i64 0,.int .i64 0,.slice none 0 0,.slice none 0 0,.slice none 0 0,.slice none 0 0] 27)) (w.heap.size+2) #[.int .i64 0,.int .i64 0,.slice none 0 0,.slice none 0 0,.slice none 0 0,.slice none 0 0] 27):=r3.out.below ((Below.refl _ wp3).alloc (Nat.le_refl _) (.cells #[.int .i64 0,.int .i64 0,.slice none 0 0,.slice none 0 0,.slice none 0 0,.slice none 0 0] 27))
     have ja13:Hid (aj (wp3.alloc (.cells #[.int .i64 0,.int .i64 0,.slice none 0 0,.slice none 0 0,.slice none 0 0,.slice none 0 0] 27)) w.heap.size (.slice (some ⟨eY,0,none⟩) LJ1.length fA) LJ1.length LJ1):=ja3.out.below ((Below.refl _ wp3).alloc (Nat.le_refl _) (.cells #[.int .i64 0,.int .i64 0,.slice none 0 0,.slice none 0 0,.slice none 0 0,.slice none 0 0] 27))
     have xa13:Hid (aj (wp3.alloc (.cells #[.int .i64 0,.int .i64 0,.slice none 0 0,.slice none 0 0,.slice none 0 0,.slice none 0 0] 27)) w.heap.size (.slice (some ⟨bF,0,none⟩) LX2.length bG) LX2.length LX2):=xa3.out.below ((Below.refl _ wp3).alloc (Nat.le_refl _) (.cells #[.int .i64 0,.int .i64 0,.slice none 0 0,.slice none 0 0,.slice none 0 0,.slice none 0 0] 27))
     have jb13:Hid (aj (wp3.alloc (.cells #[.int .i64 0,.int .i64 0,.slice none 0 0,.slice none 0 0,.slice none 0 0,.slice none 0 0] 27)) w.heap.size (.slice (some ⟨kQ,0,none⟩) LJ2.length kR) LJ2.length LJ2):=jb3.out.below ((Below.refl _ wp3).alloc (Nat.le_refl _) (.cells #[.int .i64 0,.int .i64 0,.slice none 0 0,.slice none 0 0,.slice none 0 0,.slice none 0 0] 27))
     have BL:Hid (w.heap.size+2<wp3.heap.size):=by have h1:=r3.out.lt;(try simp at h1);unfold Hid;omega
     have vn13:Hid (ae (wp3.alloc (.cells #[.int .i64 0,.int .i64 0,.slice none 0 0,.slice none 0 0,.slice none 0 0,.slice none 0 0] 27)) (wp3.heap.size) #[.int .i64 0,.int .i64 0,.slice none 0 0,.slice none 0 0,.slice none 0 0,.slice none 0 0] 27):=ae.new wp3 #[.int .i64 0,.int .i64 0,.slice none 0 0,.slice none 0 0,.slice none 0 0,.slice none 0 0] 27 (by simp)
     simp only [sI3,sI4,sI5]
     go_big_op
     refine hK.out _ _ (hHeld.below ((Below.refl _ wp3).alloc (Nat.le_refl _) (.cells #[.int .i64 0,.int .i64 0,.slice none 0 0,.slice none 0 0,.slice none 0 0,.slice none 0 0] 27))) (fun hHeld=>?_)
     clear hK K
     refine wpAnyH_ready (rs:=[26]) (fuel:=4) (by kernel_rfl) (by simp) ?_
     refine aC rfl (by kernel_rfl) (tf 40802189311 37) (by kernel_rfl) (fun K hK=>?_) AllReadyH.nil
     simp only [sI3,sI4,sI5]
     go_big_op
     refine (CL2.out _ _ _ jb13.out s13.out).mono ?_
     rintro e kC ⟨qA,qB,rfl,ho,hb⟩
     have s14:Hid (aj kC w.heap.size (.slice (some ⟨gs,0,none⟩) sn cs) sn sh):=s13.out.below (hb)
     have r14:Hid (ae kC (w.heap.size+2) #[.int .i64 0,.int .i64 0,.slice none 0 0,.slice none 0 0,.slice none 0 0,.slice none 0 0] 27):=r13.out.below (hb)
     have ja14:Hid (aj kC w.heap.size (.slice (some ⟨eY,0,none⟩) LJ1.length fA) LJ1.length LJ1):=ja13.out.below (hb)
     have xa14:Hid (aj kC w.heap.size (.slice (some ⟨bF,0,none⟩) LX2.length bG) LX2.length LX2):=xa13.out.below (hb)
     have jb14:Hid (aj kC w.heap.size (.slice (some ⟨kQ,0,none⟩) LJ2.length kR) LJ2.length LJ2):=jb13.out.below (hb)
     have v14:Hid (ae kC (wp3.heap.size) #[.int .i64 0,.int .i64 0,.slice none 0 0,.slice none 0 0,.slice none 0 0,.slice none 0 0] 27):=vn13.out.below (hb)
     have xb14:Hid (aj kC w.heap.size (.slice (some ⟨qA,0,none⟩) LX3.length qB) LX3.length LX3):=ho.mono (base:=w.heap.size) hHeld.1.size
     have zN:=hHeld.below hb
     clear hb ho
     refine hK.out _ _ zN (fun hHeld=>?_)
     clear hK K zN
     refine wpAnyH_ready (rs:=[31]) (fuel:=3) (by kernel_rfl) (by simp) ?_
     refine aC rfl (by kernel_rfl) (tf 42949672959 37) (by kernel_rfl) (fun K hK=>?_) AllReadyH.nil
     simp only [sI3,sI4,sI5]
     go_big_op
     refine (CJ3.out _ hHeld).mono ?_
     rintro e yu ⟨GZ,Ha,rfl,ho,hb⟩
     have s15:Hid (aj yu w.heap.size (.slice (some ⟨gs,0,none⟩) sn cs) sn sh):=s14.out.below (hb)
     have r15:Hid (ae yu (w.heap.size+2) #[.int .i64 0,.int .i64 0,.slice none 0 0,.slice none 0 0,.slice none 0 0,.slice none 0 0] 27):=r14.out.below (hb)
     have ja15:Hid (aj yu w.heap.size (.slice (some ⟨eY,0,none⟩) LJ1.length fA) LJ1.length LJ1):=ja14.out.below (hb)
     have xa15:Hid (aj yu w.heap.size (.slice (some ⟨bF,0,none⟩) LX2.length bG) LX2.length LX2):=xa14.out.below (hb)
     have jb15:Hid (aj yu w.heap.size (.slice (some ⟨kQ,0,none⟩) LJ2.length kR) LJ2.length LJ2):=jb14.out.below (hb)
     have v15:Hid (ae yu (wp3.heap.size) #[.int .i64 0,.int .i64 0,.slice none 0 0,.slice none 0 0,.slice none 0 0,.slice none 0 0] 27):=v14.out.below (hb)
     have xb15:Hid (aj yu w.heap.size (.slice (some ⟨qA,0,none⟩) LX3.length qB) LX3.length LX3):=xb14.out.below (hb)
     have jc15:Hid (aj yu w.heap.size (.slice (some ⟨GZ,0,none⟩) LJ3.length Ha) LJ3.length LJ3):=ho.mono (base:=w.heap.size) hHeld.1.size
     have hS15:=hHeld.below hb
     clear hb ho
     refine hK.out _ _ hS15 (fun hHeld=>?_)
     clear hK K hS15
     refine wpAnyH_ready (rs:=[33]) (fuel:=2) (by kernel_rfl) (by simp) ?_
     refine aC rfl (by kernel_rfl) (tf 51539607551 37) (by kernel_rfl) (fun K hK=>?_) AllReadyH.nil
     simp only [sI3,sI4,sI5]
     go_big_op
     refine (CL3.out _ _ _ jc15.out s15.out).mono ?_
     rintro e eu ⟨tV,tX,rfl,ho,hb⟩
     have s16:Hid (aj eu w.heap.size (.slice (some ⟨gs,0,none⟩) sn cs) sn sh):=s15.out.below (hb)
     have r16:Hid (ae eu (w.heap.size+2) #[.int .i64 0,.int .i64 0,.slice none 0 0,.slice none 0 0,.slice none 0 0,.slice none 0 0] 27):=r15.out.below (hb)
     have ja16:Hid (aj eu w.heap.size (.slice (some ⟨eY,0,none⟩) LJ1.length fA) LJ1.length LJ1):=ja15.out.below (hb)
     have xa16:Hid (aj eu w.heap.size (.slice (some ⟨bF,0,none⟩) LX2.length bG) LX2.length LX2):=xa15.out.below (hb)
     have jb16:Hid (aj eu w.heap.size (.slice (some ⟨kQ,0,none⟩) LJ2.length kR) LJ2.length LJ2):=jb15.out.below (hb)
     have v16:Hid (ae eu (wp3.heap.size) #[.int .i64 0,.int .i64 0,.slice none 0 0,.slice none 0 0,.slice none 0 0,.slice none 0 0] 27):=v15.out.below (hb)
     have xb16:Hid (aj eu w.heap.size (.slice (some ⟨qA,0,none⟩) LX3.length qB) LX3.length LX3):=xb15.out.below (hb)
     have jc16:Hid (aj eu w.heap.size (.slice (some ⟨GZ,0,none⟩) LJ3.length Ha) LJ3.length LJ3):=jc15.out.below (hb)
     have xc16:Hid (aj eu w.heap.size (.slice (some ⟨tV,0,none⟩) LX4.length tX) LX4.length LX4):=ho.mono (base:=w.heap.size) hHeld.1.size
     have yw:=hHeld.below hb
     clear hb ho
     refine hK.out _ _ yw (fun hHeld=>?_)
     clear hK K yw
     refine uQ 34 58 (.agg #[.int .i64 (st*su),.int .i64 ini,.slice (some ⟨bF,0,none⟩) LX2.length bG,.slice (some ⟨qA,0,none⟩) LX3.length qB,.slice (some ⟨tV,0,none⟩) LX4.length tX,.slice none 0 0]) (fuel:=1) (fun ρ=>ρ (.tmp 28)=.int .i64 (st*su)∧ρ (.tmp 36)=.int .i64 ini∧ρ (.tmp 43)=.slice (some ⟨bF,0,none⟩) LX2.length bG∧ρ (.tmp 50)=.slice (some ⟨qA,0,none⟩) LX3.length qB∧ρ (.tmp 57)=.slice (some ⟨tV,0,none⟩) LX4.length tX) rfl rfl (by kernel_rfl) (fun _ _ _ h=>h) (by kernel_rfl) ⟨by kernel_rfl,by kernel_rfl,by kernel_rfl,by kernel_rfl,by kernel_rfl⟩ (fun ρ hF _ w hSw=>by obtain ⟨hr0,hr1,hr2,hr3,hr4⟩:=hF;simp [go_sem,hr0,hr1,hr2,hr3,hr4]) hHeld (tf 68719476735 37) (by kernel_rfl) (fun K hK=>?_)
     go_big_move
     refine hK.out _ ?_
     clear hK K
     have tZ:Hid (eu.there (wp3.heap.size) 0 6):=v16.out.there rfl
     have gZ:=Lib.hid (aA (wp3.heap.size) [.int .i64 (st*su),.int .i64 ini,.slice (some ⟨bF,0,none⟩) LX2.length bG,.slice (some ⟨qA,0,none⟩) LX3.length qB,.slice (some ⟨tV,0,none⟩) LX4.length tX,.slice none 0 0] 0 eu)
     have hSZ:Hid (aI w (eu.setCells (wp3.heap.size) 0 [.int .i64 (st*su),.int .i64 ini,.slice (some ⟨bF,0,none⟩) LX2.length bG,.slice (some ⟨qA,0,none⟩) LX3.length qB,.slice (some ⟨tV,0,none⟩) LX4.length tX,.slice none 0 0]) w.heap.size (w.heap.size+1) 27 (iaC st it a2 n2 c2 a3 n3 c3 a4 n4 c4 a5 n5 c5) (iaC su iu b2 m2 d2 b3 m3 d3 b4 m4 d4 b5 m5 d5)):=⟨hHeld.1.grown gZ.out hHeld.1.size (fun q hq=>by have h1:=Option.some.inj hq;have h2:=BL.out;omega),hHeld.2.1.grown gZ.out (fun e=>by have h1:=Option.some.inj e;have h2:=BL.out;omega),hHeld.2.2.grown gZ.out (fun e=>by have h1:=Option.some.inj e;have h2:=BL.out;omega)⟩
     have rZ:=Lib.hid (r16.out.grown gZ.out (fun e=>by have h1:=Option.some.inj e;have h2:=BL.out;omega))
     have vZ:Hid (ae (eu.setCells (wp3.heap.size) 0 [.int .i64 (st*su),.int .i64 ini,.slice (some ⟨bF,0,none⟩) LX2.length bG,.slice (some ⟨qA,0,none⟩) LX3.length qB,.slice (some ⟨tV,0,none⟩) LX4.length tX,.slice none 0 0]) (wp3.heap.size) #[.int .i64 (st*su),.int .i64 ini,.slice (some ⟨bF,0,none⟩) LX2.length bG,.slice (some ⟨qA,0,none⟩) LX3.length qB,.slice (some ⟨tV,0,none⟩) LX4.length tX,.slice none 0 0] 27):=v16.out.sets _ _ _ _ _ _
     have qs:=Lib.hid (s16.out.az v16.out (by decide) gZ.out)
     have qxa:=Lib.hid (xa16.out.az v16.out (by decide) gZ.out)
     have qxb:=Lib.hid (xb16.out.az v16.out (by decide) gZ.out)
     have qxc:=Lib.hid (xc16.out.az v16.out (by decide) gZ.out)
     refine wpAnyH_ready (rs:=[36]) (fuel:=0) (by kernel_rfl) (by simp) ?_
     refine aC rfl (by kernel_rfl) (tf 137438953471 37) (by kernel_rfl) (fun K hK=>?_) AllReadyH.nil
     refine wp_store_mid _ _ _ rfl (wp3.heap.size) 0 #[.int .i64 (st*su),.int .i64 ini,.slice (some ⟨bF,0,none⟩) LX2.length bG,.slice (some ⟨qA,0,none⟩) LX3.length qB,.slice (some ⟨tV,0,none⟩) LX4.length tX,.slice none 0 0] rfl rfl tZ.out (by kernel_rfl) (di _ _ _ _ _ _ _ _ _ _ _ _ _ _) ?_
     refine hK.out _ _ hSZ.out (fun hHeld=>?_)
     clear hK K
     refine wpAnyH_done (by kernel_rfl) ?_ _
     exact REST.out (wp3.heap.size,eY,fA,bF,bG,kQ,kR,qA,qB,GZ,Ha,tV,tX) _ ⟨hSZ.out,rZ.out,qs.out,vZ.out,qxa.out,qxb.out,qxc.out,BL.out⟩
    refine aC rfl (by kernel_rfl) (tf 40718303231 37) (by kernel_rfl) (fun K hK=>?_) AllReadyH.nil
    have s17:Hid (aj (wp2.alloc (.cells #[.int .i64 0,.int .i64 0,.slice none 0 0,.slice none 0 0,.slice none 0 0,.slice none 0 0] 27)) w.heap.size (.slice (some ⟨gs,0,none⟩) sn cs) sn sh):=s2.out.below ((Below.refl _ wp2).alloc (Nat.le_refl _) (.cells #[.int .i64 0,.int .i64 0,.slice none 0 0,.slice none 0 0,.slice none 0 0,.slice none 0 0] 27))
    have r17:Hid (ae (wp2.alloc (.cells #[.int .i64 0,.int .i64 0,.slice none 0 0,.slice none 0 0,.slice none 0 0,.slice none 0 0] 27)) (w.heap.size+2) #[.int .i64 0,.int .i64 0,.slice none 0 0,.slice none 0 0,.slice none 0 0,.slice none 0 0] 27):=r2.out.below ((Below.refl _ wp2).alloc (Nat.le_refl _) (.cells #[.int .i64 0,.int .i64 0,.slice none 0 0,.slice none 0 0,.slice none 0 0,.slice none 0 0] 27))
    have ja17:Hid (aj (wp2.alloc (.cells #[.int .i64 0,.int .i64 0,.slice none 0 0,.slice none 0 0,.slice none 0 0,.slice none 0 0] 27)) w.heap.size (.slice (some ⟨eY,0,none⟩) LJ1.length fA) LJ1.length LJ1):=ja2.out.below ((Below.refl _ wp2).alloc (Nat.le_refl _) (.cells #[.int .i64 0,.int .i64 0,.slice none 0 0,.slice none 0 0,.slice none 0 0,.slice none 0 0] 27))
    have xa17:Hid (aj (wp2.alloc (.cells #[.int .i64 0,.int .i64 0,.slice none 0 0,.slice none 0 0,.slice none 0 0,.slice none 0 0] 27)) w.heap.size (.slice (some ⟨bF,0,none⟩) LX2.length bG) LX2.length LX2):=xa2.out.below ((Below.refl _ wp2).alloc (Nat.le_refl _) (.cells #[.int .i64 0,.int .i64 0,.slice none 0 0,.slice none 0 0,.slice none 0 0,.slice none 0 0] 27))
    have BL:Hid (w.heap.size+2<wp2.heap.size):=by have h1:=r2.out.lt;(try simp at h1);unfold Hid;omega
    have En:Hid (ae (wp2.alloc (.cells #[.int .i64 0,.int .i64 0,.slice none 0 0,.slice none 0 0,.slice none 0 0,.slice none 0 0] 27)) (wp2.heap.size) #[.int .i64 0,.int .i64 0,.slice none 0 0,.slice none 0 0,.slice none 0 0,.slice none 0 0] 27):=ae.new wp2 #[.int .i64 0,.int .i64 0,.slice none 0 0,.slice none 0 0,.slice none 0 0,.slice none 0 0] 27 (by simp)
    simp only [sI3,sI4,sI5]
    go_big_op
    refine hK.out _ _ (hHeld.below ((Below.refl _ wp2).alloc (Nat.le_refl _) (.cells #[.int .i64 0,.int .i64 0,.slice none 0 0,.slice none 0 0,.slice none 0 0,.slice none 0 0] 27))) (fun hHeld=>?_)
    clear hK K
    refine wpAnyH_ready (rs:=[24]) (fuel:=5) (by kernel_rfl) (by simp) ?_
    refine aC rfl (by kernel_rfl) (tf 40735080447 37) (by kernel_rfl) (fun K hK=>?_) AllReadyH.nil
    simp only [sI3,sI4,sI5]
    go_big_op
    refine (CJ2.out _ hHeld).mono ?_
    rintro e dL ⟨AQ,AU,rfl,ho,hb⟩
    have s18:Hid (aj dL w.heap.size (.slice (some ⟨gs,0,none⟩) sn cs) sn sh):=s17.out.below (hb)
    have r18:Hid (ae dL (w.heap.size+2) #[.int .i64 0,.int .i64 0,.slice none 0 0,.slice none 0 0,.slice none 0 0,.slice none 0 0] 27):=r17.out.below (hb)
    have ja18:Hid (aj dL w.heap.size (.slice (some ⟨eY,0,none⟩) LJ1.length fA) LJ1.length LJ1):=ja17.out.below (hb)
    have xa18:Hid (aj dL w.heap.size (.slice (some ⟨bF,0,none⟩) LX2.length bG) LX2.length LX2):=xa17.out.below (hb)
    have v18:Hid (ae dL (wp2.heap.size) #[.int .i64 0,.int .i64 0,.slice none 0 0,.slice none 0 0,.slice none 0 0,.slice none 0 0] 27):=En.out.below (hb)
    have jb18:Hid (aj dL w.heap.size (.slice (some ⟨AQ,0,none⟩) LJ2.length AU) LJ2.length LJ2):=ho.mono (base:=w.heap.size) hHeld.1.size
    have yx:=hHeld.below hb
    clear hb ho
    refine hK.out _ _ yx (fun hHeld=>?_)
    clear hK K yx
    refine wpAnyH_ready (rs:=[26]) (fuel:=4) (by kernel_rfl) (by simp) ?_
    refine aC rfl (by kernel_rfl) (tf 40802189311 37) (by kernel_rfl) (fun K hK=>?_) AllReadyH.nil
    simp only [sI3,sI4,sI5]
    go_big_op
    refine (CL2.out _ _ _ jb18.out s18.out).mono ?_
    rintro e bC ⟨qC,qE,rfl,ho,hb⟩
    have s19:Hid (aj bC w.heap.size (.slice (some ⟨gs,0,none⟩) sn cs) sn sh):=s18.out.below (hb)
    have r19:Hid (ae bC (w.heap.size+2) #[.int .i64 0,.int .i64 0,.slice none 0 0,.slice none 0 0,.slice none 0 0,.slice none 0 0] 27):=r18.out.below (hb)
    have ja19:Hid (aj bC w.heap.size (.slice (some ⟨eY,0,none⟩) LJ1.length fA) LJ1.length LJ1):=ja18.out.below (hb)
    have xa19:Hid (aj bC w.heap.size (.slice (some ⟨bF,0,none⟩) LX2.length bG) LX2.length LX2):=xa18.out.below (hb)
    have v19:Hid (ae bC (wp2.heap.size) #[.int .i64 0,.int .i64 0,.slice none 0 0,.slice none 0 0,.slice none 0 0,.slice none 0 0] 27):=v18.out.below (hb)
    have jb19:Hid (aj bC w.heap.size (.slice (some ⟨AQ,0,none⟩) LJ2.length AU) LJ2.length LJ2):=jb18.out.below (hb)
    have xb19:Hid (aj bC w.heap.size (.slice (some ⟨qC,0,none⟩) LX3.length qE) LX3.length LX3):=ho.mono (base:=w.heap.size) hHeld.1.size
    have yz:=hHeld.below hb
    clear hb ho
    refine hK.out _ _ yz (fun hHeld=>?_)
    clear hK K yz
    refine wpAnyH_ready (rs:=[31]) (fuel:=3) (by kernel_rfl) (by simp) ?_
    refine aC rfl (by kernel_rfl) (tf 42949672959 37) (by kernel_rfl) (fun K hK=>?_) AllReadyH.nil
    simp only [sI3,sI4,sI5]
    go_big_op
    refine (CJ3.out _ hHeld).mono ?_
    rintro e y7 ⟨He,Hf,rfl,ho,hb⟩
    have s20:Hid (aj y7 w.heap.size (.slice (some ⟨gs,0,none⟩) sn cs) sn sh):=s19.out.below (hb)
    have r20:Hid (ae y7 (w.heap.size+2) #[.int .i64 0,.int .i64 0,.slice none 0 0,.slice none 0 0,.slice none 0 0,.slice none 0 0] 27):=r19.out.below (hb)
    have ja20:Hid (aj y7 w.heap.size (.slice (some ⟨eY,0,none⟩) LJ1.length fA) LJ1.length LJ1):=ja19.out.below (hb)
    have xa20:Hid (aj y7 w.heap.size (.slice (some ⟨bF,0,none⟩) LX2.length bG) LX2.length LX2):=xa19.out.below (hb)
    have v20:Hid (ae y7 (wp2.heap.size) #[.int .i64 0,.int .i64 0,.slice none 0 0,.slice none 0 0,.slice none 0 0,.slice none 0 0] 27):=v19.out.below (hb)
    have jb20:Hid (aj y7 w.heap.size (.slice (some ⟨AQ,0,none⟩) LJ2.length AU) LJ2.length LJ2):=jb19.out.below (hb)
    have xb20:Hid (aj y7 w.heap.size (.slice (some ⟨qC,0,none⟩) LX3.length qE) LX3.length LX3):=xb19.out.below (hb)
    have jc20:Hid (aj y7 w.heap.size (.slice (some ⟨He,0,none⟩) LJ3.length Hf) LJ3.length LJ3):=ho.mono (base:=w.heap.size) hHeld.1.size
    have hS20:=hHeld.below hb
    clear hb ho
    refine hK.out _ _ hS20 (fun hHeld=>?_)
    clear hK K hS20
    refine wpAnyH_ready (rs:=[33]) (fuel:=2) (by kernel_rfl) (by simp) ?_
    refine aC rfl (by kernel_rfl) (tf 51539607551 37) (by kernel_rfl) (fun K hK=>?_) AllReadyH.nil
    simp only [sI3,sI4,sI5]
    go_big_op
    refine (CL3.out _ _ _ jc20.out s20.out).mono ?_
    rintro e rF ⟨tY,uf,rfl,ho,hb⟩
    have s21:Hid (aj rF w.heap.size (.slice (some ⟨gs,0,none⟩) sn cs) sn sh):=s20.out.below (hb)
    have r21:Hid (ae rF (w.heap.size+2) #[.int .i64 0,.int .i64 0,.slice none 0 0,.slice none 0 0,.slice none 0 0,.slice none 0 0] 27):=r20.out.below (hb)
    have ja21:Hid (aj rF w.heap.size (.slice (some ⟨eY,0,none⟩) LJ1.length fA) LJ1.length LJ1):=ja20.out.below (hb)
    have xa21:Hid (aj rF w.heap.size (.slice (some ⟨bF,0,none⟩) LX2.length bG) LX2.length LX2):=xa20.out.below (hb)
    have v21:Hid (ae rF (wp2.heap.size) #[.int .i64 0,.int .i64 0,.slice none 0 0,.slice none 0 0,.slice none 0 0,.slice none 0 0] 27):=v20.out.below (hb)
    have jb21:Hid (aj rF w.heap.size (.slice (some ⟨AQ,0,none⟩) LJ2.length AU) LJ2.length LJ2):=jb20.out.below (hb)
    have xb21:Hid (aj rF w.heap.size (.slice (some ⟨qC,0,none⟩) LX3.length qE) LX3.length LX3):=xb20.out.below (hb)
    have jc21:Hid (aj rF w.heap.size (.slice (some ⟨He,0,none⟩) LJ3.length Hf) LJ3.length LJ3):=jc20.out.below (hb)
    have xc21:Hid (aj rF w.heap.size (.slice (some ⟨tY,0,none⟩) LX4.length uf) LX4.length LX4):=ho.mono (base:=w.heap.size) hHeld.1.size
    have hS21:=hHeld.below hb
    clear hb ho
    refine hK.out _ _ hS21 (fun hHeld=>?_)
    clear hK K hS21
    refine uQ 34 58 (.agg #[.int .i64 (st*su),.int .i64 ini,.slice (some ⟨bF,0,none⟩) LX2.length bG,.slice (some ⟨qC,0,none⟩) LX3.length qE,.slice (some ⟨tY,0,none⟩) LX4.length uf,.slice none 0 0]) (fuel:=1) (fun ρ=>ρ (.tmp 28)=.int .i64 (st*su)∧ρ (.tmp 36)=.int .i64 ini∧ρ (.tmp 43)=.slice (some ⟨bF,0,none⟩) LX2.length bG∧ρ (.tmp 50)=.slice (some ⟨qC,0,none⟩) LX3.length qE∧ρ (.tmp 57)=.slice (some ⟨tY,0,none⟩) LX4.length uf) rfl rfl (by kernel_rfl) (fun _ _ _ h=>h) (by kernel_rfl) ⟨by kernel_rfl,by kernel_rfl,by kernel_rfl,by kernel_rfl,by kernel_rfl⟩ (fun ρ hF _ w hSw=>by obtain ⟨hr0,hr1,hr2,hr3,hr4⟩:=hF;simp [go_sem,hr0,hr1,hr2,hr3,hr4]) hHeld (tf 68719476735 37) (by kernel_rfl) (fun K hK=>?_)
    go_big_move
    refine hK.out _ ?_
    clear hK K
    have tZ:Hid (rF.there (wp2.heap.size) 0 6):=v21.out.there rfl
    have gZ:=Lib.hid (aA (wp2.heap.size) [.int .i64 (st*su),.int .i64 ini,.slice (some ⟨bF,0,none⟩) LX2.length bG,.slice (some ⟨qC,0,none⟩) LX3.length qE,.slice (some ⟨tY,0,none⟩) LX4.length uf,.slice none 0 0] 0 rF)
    have hSZ:Hid (aI w (rF.setCells (wp2.heap.size) 0 [.int .i64 (st*su),.int .i64 ini,.slice (some ⟨bF,0,none⟩) LX2.length bG,.slice (some ⟨qC,0,none⟩) LX3.length qE,.slice (some ⟨tY,0,none⟩) LX4.length uf,.slice none 0 0]) w.heap.size (w.heap.size+1) 27 (iaC st it a2 n2 c2 a3 n3 c3 a4 n4 c4 a5 n5 c5) (iaC su iu b2 m2 d2 b3 m3 d3 b4 m4 d4 b5 m5 d5)):=⟨hHeld.1.grown gZ.out hHeld.1.size (fun q hq=>by have h1:=Option.some.inj hq;have h2:=BL.out;omega),hHeld.2.1.grown gZ.out (fun e=>by have h1:=Option.some.inj e;have h2:=BL.out;omega),hHeld.2.2.grown gZ.out (fun e=>by have h1:=Option.some.inj e;have h2:=BL.out;omega)⟩
    have rZ:=Lib.hid (r21.out.grown gZ.out (fun e=>by have h1:=Option.some.inj e;have h2:=BL.out;omega))
    have vZ:Hid (ae (rF.setCells (wp2.heap.size) 0 [.int .i64 (st*su),.int .i64 ini,.slice (some ⟨bF,0,none⟩) LX2.length bG,.slice (some ⟨qC,0,none⟩) LX3.length qE,.slice (some ⟨tY,0,none⟩) LX4.length uf,.slice none 0 0]) (wp2.heap.size) #[.int .i64 (st*su),.int .i64 ini,.slice (some ⟨bF,0,none⟩) LX2.length bG,.slice (some ⟨qC,0,none⟩) LX3.length qE,.slice (some ⟨tY,0,none⟩) LX4.length uf,.slice none 0 0] 27):=v21.out.sets _ _ _ _ _ _
    have qs:=Lib.hid (s21.out.az v21.out (by decide) gZ.out)
    have qxa:=Lib.hid (xa21.out.az v21.out (by decide) gZ.out)
    have qxb:=Lib.hid (xb21.out.az v21.out (by decide) gZ.out)
    have qxc:=Lib.hid (xc21.out.az v21.out (by decide) gZ.out)
    refine wpAnyH_ready (rs:=[36]) (fuel:=0) (by kernel_rfl) (by simp) ?_
    refine aC rfl (by kernel_rfl) (tf 137438953471 37) (by kernel_rfl) (fun K hK=>?_) AllReadyH.nil
    refine wp_store_mid _ _ _ rfl (wp2.heap.size) 0 #[.int .i64 (st*su),.int .i64 ini,.slice (some ⟨bF,0,none⟩) LX2.length bG,.slice (some ⟨qC,0,none⟩) LX3.length qE,.slice (some ⟨tY,0,none⟩) LX4.length uf,.slice none 0 0] rfl rfl tZ.out (by kernel_rfl) (di _ _ _ _ _ _ _ _ _ _ _ _ _ _) ?_
    refine hK.out _ _ hSZ.out (fun hHeld=>?_)
    clear hK K
    refine wpAnyH_done (by kernel_rfl) ?_ _
    exact REST.out (wp2.heap.size,eY,fA,bF,bG,AQ,AU,qC,qE,He,Hf,tY,uf) _ ⟨hSZ.out,rZ.out,qs.out,vZ.out,qxa.out,qxb.out,qxc.out,BL.out⟩
   refine aC rfl (by kernel_rfl) (tf 40717778943 37) (by kernel_rfl) (fun K hK=>?_) AllReadyH.nil
   have s22:Hid (aj (wp1.alloc (.cells #[.int .i64 0,.int .i64 0,.slice none 0 0,.slice none 0 0,.slice none 0 0,.slice none 0 0] 27)) w.heap.size (.slice (some ⟨gs,0,none⟩) sn cs) sn sh):=s1.out.below ((Below.refl _ wp1).alloc (Nat.le_refl _) (.cells #[.int .i64 0,.int .i64 0,.slice none 0 0,.slice none 0 0,.slice none 0 0,.slice none 0 0] 27))
   have r22:Hid (ae (wp1.alloc (.cells #[.int .i64 0,.int .i64 0,.slice none 0 0,.slice none 0 0,.slice none 0 0,.slice none 0 0] 27)) (w.heap.size+2) #[.int .i64 0,.int .i64 0,.slice none 0 0,.slice none 0 0,.slice none 0 0,.slice none 0 0] 27):=r1.out.below ((Below.refl _ wp1).alloc (Nat.le_refl _) (.cells #[.int .i64 0,.int .i64 0,.slice none 0 0,.slice none 0 0,.slice none 0 0,.slice none 0 0] 27))
   have ja22:Hid (aj (wp1.alloc (.cells #[.int .i64 0,.int .i64 0,.slice none 0 0,.slice none 0 0,.slice none 0 0,.slice none 0 0] 27)) w.heap.size (.slice (some ⟨eY,0,none⟩) LJ1.length fA) LJ1.length LJ1):=ja1.out.below ((Below.refl _ wp1).alloc (Nat.le_refl _) (.cells #[.int .i64 0,.int .i64 0,.slice none 0 0,.slice none 0 0,.slice none 0 0,.slice none 0 0] 27))
   have BL:Hid (w.heap.size+2<wp1.heap.size):=by have h1:=r1.out.lt;(try simp at h1);unfold Hid;omega
   have vn22:Hid (ae (wp1.alloc (.cells #[.int .i64 0,.int .i64 0,.slice none 0 0,.slice none 0 0,.slice none 0 0,.slice none 0 0] 27)) (wp1.heap.size) #[.int .i64 0,.int .i64 0,.slice none 0 0,.slice none 0 0,.slice none 0 0,.slice none 0 0] 27):=ae.new wp1 #[.int .i64 0,.int .i64 0,.slice none 0 0,.slice none 0 0,.slice none 0 0,.slice none 0 0] 27 (by simp)
   simp only [sI3,sI4,sI5]
   go_big_op
   refine hK.out _ _ (hHeld.below ((Below.refl _ wp1).alloc (Nat.le_refl _) (.cells #[.int .i64 0,.int .i64 0,.slice none 0 0,.slice none 0 0,.slice none 0 0,.slice none 0 0] 27))) (fun hHeld=>?_)
   clear hK K
   refine wpAnyH_ready (rs:=[19]) (fuel:=6) (by kernel_rfl) (by simp) ?_
   refine aC rfl (by kernel_rfl) (tf 40718303231 37) (by kernel_rfl) (fun K hK=>?_) AllReadyH.nil
   simp only [sI3,sI4,sI5]
   go_big_op
   refine (CL1.out _ _ _ ja22.out s22.out).mono ?_
   rintro e Eo ⟨nP,nR,rfl,ho,hb⟩
   have s23:Hid (aj Eo w.heap.size (.slice (some ⟨gs,0,none⟩) sn cs) sn sh):=s22.out.below (hb)
   have r23:Hid (ae Eo (w.heap.size+2) #[.int .i64 0,.int .i64 0,.slice none 0 0,.slice none 0 0,.slice none 0 0,.slice none 0 0] 27):=r22.out.below (hb)
   have ja23:Hid (aj Eo w.heap.size (.slice (some ⟨eY,0,none⟩) LJ1.length fA) LJ1.length LJ1):=ja22.out.below (hb)
   have v23:Hid (ae Eo (wp1.heap.size) #[.int .i64 0,.int .i64 0,.slice none 0 0,.slice none 0 0,.slice none 0 0,.slice none 0 0] 27):=vn22.out.below (hb)
   have xa23:Hid (aj Eo w.heap.size (.slice (some ⟨nP,0,none⟩) LX2.length nR) LX2.length LX2):=ho.mono (base:=w.heap.size) hHeld.1.size
   have hS23:=hHeld.below hb
   clear hb ho
   refine hK.out _ _ hS23 (fun hHeld=>?_)
   clear hK K hS23
   refine wpAnyH_ready (rs:=[24]) (fuel:=5) (by kernel_rfl) (by simp) ?_
   refine aC rfl (by kernel_rfl) (tf 40735080447 37) (by kernel_rfl) (fun K hK=>?_) AllReadyH.nil
   simp only [sI3,sI4,sI5]
   go_big_op
   refine (CJ2.out _ hHeld).mono ?_
   rintro e uD ⟨AV,AX,rfl,ho,hb⟩
   have s24:Hid (aj uD w.heap.size (.slice (some ⟨gs,0,none⟩) sn cs) sn sh):=s23.out.below (hb)
   have r24:Hid (ae uD (w.heap.size+2) #[.int .i64 0,.int .i64 0,.slice none 0 0,.slice none 0 0,.slice none 0 0,.slice none 0 0] 27):=r23.out.below (hb)
   have ja24:Hid (aj uD w.heap.size (.slice (some ⟨eY,0,none⟩) LJ1.length fA) LJ1.length LJ1):=ja23.out.below (hb)
   have v24:Hid (ae uD (wp1.heap.size) #[.int .i64 0,.int .i64 0,.slice none 0 0,.slice none 0 0,.slice none 0 0,.slice none 0 0] 27):=v23.out.below (hb)
   have xa24:Hid (aj uD w.heap.size (.slice (some ⟨nP,0,none⟩) LX2.length nR) LX2.length LX2):=xa23.out.below (hb)
   have jb24:Hid (aj uD w.heap.size (.slice (some ⟨AV,0,none⟩) LJ2.length AX) LJ2.length LJ2):=ho.mono (base:=w.heap.size) hHeld.1.size
   have Ep:=hHeld.below hb
   clear hb ho
   refine hK.out _ _ Ep (fun hHeld=>?_)
   clear hK K Ep
   refine wpAnyH_ready (rs:=[26]) (fuel:=4) (by kernel_rfl) (by simp) ?_
   refine aC rfl (by kernel_rfl) (tf 40802189311 37) (by kernel_rfl) (fun K hK=>?_) AllReadyH.nil
   simp only [sI3,sI4,sI5]
   go_big_op
   refine (CL2.out _ _ _ jb24.out s24.out).mono ?_
   rintro e iD ⟨qF,qG,rfl,ho,hb⟩
   have s25:Hid (aj iD w.heap.size (.slice (some ⟨gs,0,none⟩) sn cs) sn sh):=s24.out.below (hb)
   have r25:Hid (ae iD (w.heap.size+2) #[.int .i64 0,.int .i64 0,.slice none 0 0,.slice none 0 0,.slice none 0 0,.slice none 0 0] 27):=r24.out.below (hb)
   have ja25:Hid (aj iD w.heap.size (.slice (some ⟨eY,0,none⟩) LJ1.length fA) LJ1.length LJ1):=ja24.out.below (hb)
   have v25:Hid (ae iD (wp1.heap.size) #[.int .i64 0,.int .i64 0,.slice none 0 0,.slice none 0 0,.slice none 0 0,.slice none 0 0] 27):=v24.out.below (hb)
   have xa25:Hid (aj iD w.heap.size (.slice (some ⟨nP,0,none⟩) LX2.length nR) LX2.length LX2):=xa24.out.below (hb)
   have jb25:Hid (aj iD w.heap.size (.slice (some ⟨AV,0,none⟩) LJ2.length AX) LJ2.length LJ2):=jb24.out.below (hb)
   have xb25:Hid (aj iD w.heap.size (.slice (some ⟨qF,0,none⟩) LX3.length qG) LX3.length LX3):=ho.mono (base:=w.heap.size) hHeld.1.size
   have Es:=hHeld.below hb
   clear hb ho
   refine hK.out _ _ Es (fun hHeld=>?_)
   clear hK K Es
   refine wpAnyH_ready (rs:=[31]) (fuel:=3) (by kernel_rfl) (by simp) ?_
   refine aC rfl (by kernel_rfl) (tf 42949672959 37) (by kernel_rfl) (fun K hK=>?_) AllReadyH.nil
   simp only [sI3,sI4,sI5]
   go_big_op
   refine (CJ3.out _ hHeld).mono ?_
   rintro e y8 ⟨Hg,Hl,rfl,ho,hb⟩
   have s26:Hid (aj y8 w.heap.size (.slice (some ⟨gs,0,none⟩) sn cs) sn sh):=s25.out.below (hb)
   have r26:Hid (ae y8 (w.heap.size+2) #[.int .i64 0,.int .i64 0,.slice none 0 0,.slice none 0 0,.slice none 0 0,.slice none 0 0] 27):=r25.out.below (hb)
   have ja26:Hid (aj y8 w.heap.size (.slice (some ⟨eY,0,none⟩) LJ1.length fA) LJ1.length LJ1):=ja25.out.below (hb)
   have v26:Hid (ae y8 (wp1.heap.size) #[.int .i64 0,.int .i64 0,.slice none 0 0,.slice none 0 0,.slice none 0 0,.slice none 0 0] 27):=v25.out.below (hb)
   have xa26:Hid (aj y8 w.heap.size (.slice (some ⟨nP,0,none⟩) LX2.length nR) LX2.length LX2):=xa25.out.below (hb)
   have jb26:Hid (aj y8 w.heap.size (.slice (some ⟨AV,0,none⟩) LJ2.length AX) LJ2.length LJ2):=jb25.out.below (hb)
   have xb26:Hid (aj y8 w.heap.size (.slice (some ⟨qF,0,none⟩) LX3.length qG) LX3.length LX3):=xb25.out.below (hb)
   have jc26:Hid (aj y8 w.heap.size (.slice (some ⟨Hg,0,none⟩) LJ3.length Hl) LJ3.length LJ3):=ho.mono (base:=w.heap.size) hHeld.1.size
   have hS26:=hHeld.below hb
   clear hb ho
   refine hK.out _ _ hS26 (fun hHeld=>?_)
   clear hK K hS26
   refine wpAnyH_ready (rs:=[33]) (fuel:=2) (by kernel_rfl) (by simp) ?_
   refine aC rfl (by kernel_rfl) (tf 51539607551 37) (by kernel_rfl) (fun K hK=>?_) AllReadyH.nil
   simp only [sI3,sI4,sI5]
   go_big_op
   refine (CL3.out _ _ _ jc26.out s26.out).mono ?_
   rintro e df ⟨ug,uh,rfl,ho,hb⟩
   have s27:Hid (aj df w.heap.size (.slice (some ⟨gs,0,none⟩) sn cs) sn sh):=s26.out.below (hb)
   have r27:Hid (ae df (w.heap.size+2) #[.int .i64 0,.int .i64 0,.slice none 0 0,.slice none 0 0,.slice none 0 0,.slice none 0 0] 27):=r26.out.below (hb)
   have ja27:Hid (aj df w.heap.size (.slice (some ⟨eY,0,none⟩) LJ1.length fA) LJ1.length LJ1):=ja26.out.below (hb)
   have v27:Hid (ae df (wp1.heap.size) #[.int .i64 0,.int .i64 0,.slice none 0 0,.slice none 0 0,.slice none 0 0,.slice none 0 0] 27):=v26.out.below (hb)
   have xa27:Hid (aj df w.heap.size (.slice (some ⟨nP,0,none⟩) LX2.length nR) LX2.length LX2):=xa26.out.below (hb)
   have jb27:Hid (aj df w.heap.size (.slice (some ⟨AV,0,none⟩) LJ2.length AX) LJ2.length LJ2):=jb26.out.below (hb)
   have xb27:Hid (aj df w.heap.size (.slice (some ⟨qF,0,none⟩) LX3.length qG) LX3.length LX3):=xb26.out.below (hb)
   have jc27:Hid (aj df w.heap.size (.slice (some ⟨Hg,0,none⟩) LJ3.length Hl) LJ3.length LJ3):=jc26.out.below (hb)
   have xc27:Hid (aj df w.heap.size (.slice (some ⟨ug,0,none⟩) LX4.length uh) LX4.length LX4):=ho.mono (base:=w.heap.size) hHeld.1.size
   have Et:=hHeld.below hb
   clear hb ho
   refine hK.out _ _ Et (fun hHeld=>?_)
   clear hK K Et
   refine uQ 34 58 (.agg #[.int .i64 (st*su),.int .i64 ini,.slice (some ⟨nP,0,none⟩) LX2.length nR,.slice (some ⟨qF,0,none⟩) LX3.length qG,.slice (some ⟨ug,0,none⟩) LX4.length uh,.slice none 0 0]) (fuel:=1) (fun ρ=>ρ (.tmp 28)=.int .i64 (st*su)∧ρ (.tmp 36)=.int .i64 ini∧ρ (.tmp 43)=.slice (some ⟨nP,0,none⟩) LX2.length nR∧ρ (.tmp 50)=.slice (some ⟨qF,0,none⟩) LX3.length qG∧ρ (.tmp 57)=.slice (some ⟨ug,0,none⟩) LX4.length uh) rfl rfl (by kernel_rfl) (fun _ _ _ h=>h) (by kernel_rfl) ⟨by kernel_rfl,by kernel_rfl,by kernel_rfl,by kernel_rfl,by kernel_rfl⟩ (fun ρ hF _ w hSw=>by obtain ⟨hr0,hr1,hr2,hr3,hr4⟩:=hF;simp [go_sem,hr0,hr1,hr2,hr3,hr4]) hHeld (tf 68719476735 37) (by kernel_rfl) (fun K hK=>?_)
   go_big_move
   refine hK.out _ ?_
   clear hK K
   have tZ:Hid (df.there (wp1.heap.size) 0 6):=v27.out.there rfl
   have gZ:=Lib.hid (aA (wp1.heap.size) [.int .i64 (st*su),.int .i64 ini,.slice (some ⟨nP,0,none⟩) LX2.length nR,.slice (some ⟨qF,0,none⟩) LX3.length qG,.slice (some ⟨ug,0,none⟩) LX4.length uh,.slice none 0 0] 0 df)
   have hSZ:Hid (aI w (df.setCells (wp1.heap.size) 0 [.int .i64 (st*su),.int .i64 ini,.slice (some ⟨nP,0,none⟩) LX2.length nR,.slice (some ⟨qF,0,none⟩) LX3.length qG,.slice (some ⟨ug,0,none⟩) LX4.length uh,.slice none 0 0]) w.heap.size (w.heap.size+1) 27 (iaC st it a2 n2 c2 a3 n3 c3 a4 n4 c4 a5 n5 c5) (iaC su iu b2 m2 d2 b3 m3 d3 b4 m4 d4 b5 m5 d5)):=⟨hHeld.1.grown gZ.out hHeld.1.size (fun q hq=>by have h1:=Option.some.inj hq;have h2:=BL.out;omega),hHeld.2.1.grown gZ.out (fun e=>by have h1:=Option.some.inj e;have h2:=BL.out;omega),hHeld.2.2.grown gZ.out (fun e=>by have h1:=Option.some.inj e;have h2:=BL.out;omega)⟩
   have rZ:=Lib.hid (r27.out.grown gZ.out (fun e=>by have h1:=Option.some.inj e;have h2:=BL.out;omega))
   have vZ:Hid (ae (df.setCells (wp1.heap.size) 0 [.int .i64 (st*su),.int .i64 ini,.slice (some ⟨nP,0,none⟩) LX2.length nR,.slice (some ⟨qF,0,none⟩) LX3.length qG,.slice (some ⟨ug,0,none⟩) LX4.length uh,.slice none 0 0]) (wp1.heap.size) #[.int .i64 (st*su),.int .i64 ini,.slice (some ⟨nP,0,none⟩) LX2.length nR,.slice (some ⟨qF,0,none⟩) LX3.length qG,.slice (some ⟨ug,0,none⟩) LX4.length uh,.slice none 0 0] 27):=v27.out.sets _ _ _ _ _ _
   have qs:=Lib.hid (s27.out.az v27.out (by decide) gZ.out)
   have qxa:=Lib.hid (xa27.out.az v27.out (by decide) gZ.out)
   have qxb:=Lib.hid (xb27.out.az v27.out (by decide) gZ.out)
   have qxc:=Lib.hid (xc27.out.az v27.out (by decide) gZ.out)
   refine wpAnyH_ready (rs:=[36]) (fuel:=0) (by kernel_rfl) (by simp) ?_
   refine aC rfl (by kernel_rfl) (tf 137438953471 37) (by kernel_rfl) (fun K hK=>?_) AllReadyH.nil
   refine wp_store_mid _ _ _ rfl (wp1.heap.size) 0 #[.int .i64 (st*su),.int .i64 ini,.slice (some ⟨nP,0,none⟩) LX2.length nR,.slice (some ⟨qF,0,none⟩) LX3.length qG,.slice (some ⟨ug,0,none⟩) LX4.length uh,.slice none 0 0] rfl rfl tZ.out (by kernel_rfl) (di _ _ _ _ _ _ _ _ _ _ _ _ _ _) ?_
   refine hK.out _ _ hSZ.out (fun hHeld=>?_)
   clear hK K
   refine wpAnyH_done (by kernel_rfl) ?_ _
   exact REST.out (wp1.heap.size,eY,fA,nP,nR,AV,AX,qF,qG,Hg,Hl,ug,uh) _ ⟨hSZ.out,rZ.out,qs.out,vZ.out,qxa.out,qxb.out,qxc.out,BL.out⟩
  refine aC rfl (by kernel_rfl) (tf 40717647871 37) (by kernel_rfl) (fun K hK=>?_) AllReadyH.nil
  have s28:Hid (aj (w2.drew.alloc (.cells #[.int .i64 0,.int .i64 0,.slice none 0 0,.slice none 0 0,.slice none 0 0,.slice none 0 0] 27)) w.heap.size (.slice (some ⟨gs,0,none⟩) sn cs) sn sh):=PD.out.below ((Below.refl _ w2.drew).alloc (Nat.le_refl _) (.cells #[.int .i64 0,.int .i64 0,.slice none 0 0,.slice none 0 0,.slice none 0 0,.slice none 0 0] 27))
  have r28:Hid (ae (w2.drew.alloc (.cells #[.int .i64 0,.int .i64 0,.slice none 0 0,.slice none 0 0,.slice none 0 0,.slice none 0 0] 27)) (w.heap.size+2) #[.int .i64 0,.int .i64 0,.slice none 0 0,.slice none 0 0,.slice none 0 0,.slice none 0 0] 27):=TD.out.below ((Below.refl _ w2.drew).alloc (Nat.le_refl _) (.cells #[.int .i64 0,.int .i64 0,.slice none 0 0,.slice none 0 0,.slice none 0 0,.slice none 0 0] 27))
  have BL:Hid (w.heap.size+2<w2.heap.size):=by have h1:=TD.out.lt;(try simp at h1);unfold Hid;omega
  have vn28:Hid (ae (w2.drew.alloc (.cells #[.int .i64 0,.int .i64 0,.slice none 0 0,.slice none 0 0,.slice none 0 0,.slice none 0 0] 27)) (w2.heap.size) #[.int .i64 0,.int .i64 0,.slice none 0 0,.slice none 0 0,.slice none 0 0,.slice none 0 0] 27):=ae.new w2.drew #[.int .i64 0,.int .i64 0,.slice none 0 0,.slice none 0 0,.slice none 0 0,.slice none 0 0] 27 (by simp)
  simp only [sI3,sI4,sI5]
  go_big_op
  refine hK.out _ _ (hHeld.below ((Below.refl _ w2.drew).alloc (Nat.le_refl _) (.cells #[.int .i64 0,.int .i64 0,.slice none 0 0,.slice none 0 0,.slice none 0 0,.slice none 0 0] 27))) (fun hHeld=>?_)
  clear hK K
  refine wpAnyH_ready (rs:=[17]) (fuel:=7) (by kernel_rfl) (by simp) ?_
  refine aC rfl (by kernel_rfl) (tf 40717778943 37) (by kernel_rfl) (fun K hK=>?_) AllReadyH.nil
  simp only [sI3,sI4,sI5]
  go_big_op
  refine (CJ1.out _ hHeld).mono ?_
  rintro e wp29 ⟨xh,xk,rfl,ho,hb⟩
  have s29:Hid (aj wp29 w.heap.size (.slice (some ⟨gs,0,none⟩) sn cs) sn sh):=s28.out.below (hb)
  have r29:Hid (ae wp29 (w.heap.size+2) #[.int .i64 0,.int .i64 0,.slice none 0 0,.slice none 0 0,.slice none 0 0,.slice none 0 0] 27):=r28.out.below (hb)
  have v29:Hid (ae wp29 (w2.heap.size) #[.int .i64 0,.int .i64 0,.slice none 0 0,.slice none 0 0,.slice none 0 0,.slice none 0 0] 27):=vn28.out.below (hb)
  have ja29:Hid (aj wp29 w.heap.size (.slice (some ⟨xh,0,none⟩) LJ1.length xk) LJ1.length LJ1):=ho.mono (base:=w.heap.size) hHeld.1.size
  have hS29:=hHeld.below hb
  clear hb ho
  refine hK.out _ _ hS29 (fun hHeld=>?_)
  clear hK K hS29
  refine wpAnyH_ready (rs:=[19]) (fuel:=6) (by kernel_rfl) (by simp) ?_
  refine aC rfl (by kernel_rfl) (tf 40718303231 37) (by kernel_rfl) (fun K hK=>?_) AllReadyH.nil
  simp only [sI3,sI4,sI5]
  go_big_op
  refine (CL1.out _ _ _ ja29.out s29.out).mono ?_
  rintro e Eu ⟨nS,nT,rfl,ho,hb⟩
  have s30:Hid (aj Eu w.heap.size (.slice (some ⟨gs,0,none⟩) sn cs) sn sh):=s29.out.below (hb)
  have r30:Hid (ae Eu (w.heap.size+2) #[.int .i64 0,.int .i64 0,.slice none 0 0,.slice none 0 0,.slice none 0 0,.slice none 0 0] 27):=r29.out.below (hb)
  have v30:Hid (ae Eu (w2.heap.size) #[.int .i64 0,.int .i64 0,.slice none 0 0,.slice none 0 0,.slice none 0 0,.slice none 0 0] 27):=v29.out.below (hb)
  have ja30:Hid (aj Eu w.heap.size (.slice (some ⟨xh,0,none⟩) LJ1.length xk) LJ1.length LJ1):=ja29.out.below (hb)
  have xa30:Hid (aj Eu w.heap.size (.slice (some ⟨nS,0,none⟩) LX2.length nT) LX2.length LX2):=ho.mono (base:=w.heap.size) hHeld.1.size
  have hS30:=hHeld.below hb
  clear hb ho
  refine hK.out _ _ hS30 (fun hHeld=>?_)
  clear hK K hS30
  refine wpAnyH_ready (rs:=[24]) (fuel:=5) (by kernel_rfl) (by simp) ?_
  refine aC rfl (by kernel_rfl) (tf 40735080447 37) (by kernel_rfl) (fun K hK=>?_) AllReadyH.nil
  simp only [sI3,sI4,sI5]
  go_big_op
  refine (CJ2.out _ hHeld).mono ?_
  rintro e iJ ⟨AY,AZ,rfl,ho,hb⟩
  have s31:Hid (aj iJ w.heap.size (.slice (some ⟨gs,0,none⟩) sn cs) sn sh):=s30.out.below (hb)
  have r31:Hid (ae iJ (w.heap.size+2) #[.int .i64 0,.int .i64 0,.slice none 0 0,.slice none 0 0,.slice none 0 0,.slice none 0 0] 27):=r30.out.below (hb)
  have v31:Hid (ae iJ (w2.heap.size) #[.int .i64 0,.int .i64 0,.slice none 0 0,.slice none 0 0,.slice none 0 0,.slice none 0 0] 27):=v30.out.below (hb)
  have ja31:Hid (aj iJ w.heap.size (.slice (some ⟨xh,0,none⟩) LJ1.length xk) LJ1.length LJ1):=ja30.out.below (hb)
  have xa31:Hid (aj iJ w.heap.size (.slice (some ⟨nS,0,none⟩) LX2.length nT) LX2.length LX2):=xa30.out.below (hb)
  have jb31:Hid (aj iJ w.heap.size (.slice (some ⟨AY,0,none⟩) LJ2.length AZ) LJ2.length LJ2):=ho.mono (base:=w.heap.size) hHeld.1.size
  have Ew:=hHeld.below hb
  clear hb ho
  refine hK.out _ _ Ew (fun hHeld=>?_)
  clear hK K Ew
  refine wpAnyH_ready (rs:=[26]) (fuel:=4) (by kernel_rfl) (by simp) ?_
  refine aC rfl (by kernel_rfl) (tf 40802189311 37) (by kernel_rfl) (fun K hK=>?_) AllReadyH.nil
  simp only [sI3,sI4,sI5]
  go_big_op
  refine (CL2.out _ _ _ jb31.out s31.out).mono ?_
  rintro e zV ⟨qH,qI,rfl,ho,hb⟩
  have s32:Hid (aj zV w.heap.size (.slice (some ⟨gs,0,none⟩) sn cs) sn sh):=s31.out.below (hb)
  have r32:Hid (ae zV (w.heap.size+2) #[.int .i64 0,.int .i64 0,.slice none 0 0,.slice none 0 0,.slice none 0 0,.slice none 0 0] 27):=r31.out.below (hb)
  have v32:Hid (ae zV (w2.heap.size) #[.int .i64 0,.int .i64 0,.slice none 0 0,.slice none 0 0,.slice none 0 0,.slice none 0 0] 27):=v31.out.below (hb)
  have ja32:Hid (aj zV w.heap.size (.slice (some ⟨xh,0,none⟩) LJ1.length xk) LJ1.length LJ1):=ja31.out.below (hb)
  have xa32:Hid (aj zV w.heap.size (.slice (some ⟨nS,0,none⟩) LX2.length nT) LX2.length LX2):=xa31.out.below (hb)
  have jb32:Hid (aj zV w.heap.size (.slice (some ⟨AY,0,none⟩) LJ2.length AZ) LJ2.length LJ2):=jb31.out.below (hb)
  have xb32:Hid (aj zV w.heap.size (.slice (some ⟨qH,0,none⟩) LX3.length qI) LX3.length LX3):=ho.mono (base:=w.heap.size) hHeld.1.size
  have hS32:=hHeld.below hb
  clear hb ho
  refine hK.out _ _ hS32 (fun hHeld=>?_)
  clear hK K hS32
  refine wpAnyH_ready (rs:=[31]) (fuel:=3) (by kernel_rfl) (by simp) ?_
  refine aC rfl (by kernel_rfl) (tf 42949672959 37) (by kernel_rfl) (fun K hK=>?_) AllReadyH.nil
  simp only [sI3,sI4,sI5]
  go_big_op
  refine (CJ3.out _ hHeld).mono ?_
  rintro e rG ⟨Hm,Ho,rfl,ho,hb⟩
  have s33:Hid (aj rG w.heap.size (.slice (some ⟨gs,0,none⟩) sn cs) sn sh):=s32.out.below (hb)
  have r33:Hid (ae rG (w.heap.size+2) #[.int .i64 0,.int .i64 0,.slice none 0 0,.slice none 0 0,.slice none 0 0,.slice none 0 0] 27):=r32.out.below (hb)
  have v33:Hid (ae rG (w2.heap.size) #[.int .i64 0,.int .i64 0,.slice none 0 0,.slice none 0 0,.slice none 0 0,.slice none 0 0] 27):=v32.out.below (hb)
  have ja33:Hid (aj rG w.heap.size (.slice (some ⟨xh,0,none⟩) LJ1.length xk) LJ1.length LJ1):=ja32.out.below (hb)
  have xa33:Hid (aj rG w.heap.size (.slice (some ⟨nS,0,none⟩) LX2.length nT) LX2.length LX2):=xa32.out.below (hb)
  have jb33:Hid (aj rG w.heap.size (.slice (some ⟨AY,0,none⟩) LJ2.length AZ) LJ2.length LJ2):=jb32.out.below (hb)
  have xb33:Hid (aj rG w.heap.size (.slice (some ⟨qH,0,none⟩) LX3.length qI) LX3.length LX3):=xb32.out.below (hb)
  have jc33:Hid (aj rG w.heap.size (.slice (some ⟨Hm,0,none⟩) LJ3.length Ho) LJ3.length LJ3):=ho.mono (base:=w.heap.size) hHeld.1.size
  have Ey:=hHeld.below hb
  clear hb ho
  refine hK.out _ _ Ey (fun hHeld=>?_)
  clear hK K Ey
  refine wpAnyH_ready (rs:=[33]) (fuel:=2) (by kernel_rfl) (by simp) ?_
  refine aC rfl (by kernel_rfl) (tf 51539607551 37) (by kernel_rfl) (fun K hK=>?_) AllReadyH.nil
  simp only [sI3,sI4,sI5]
  go_big_op
  refine (CL3.out _ _ _ jc33.out s33.out).mono ?_
  rintro e fM ⟨uj,uk,rfl,ho,hb⟩
  have s34:Hid (aj fM w.heap.size (.slice (some ⟨gs,0,none⟩) sn cs) sn sh):=s33.out.below (hb)
  have r34:Hid (ae fM (w.heap.size+2) #[.int .i64 0,.int .i64 0,.slice none 0 0,.slice none 0 0,.slice none 0 0,.slice none 0 0] 27):=r33.out.below (hb)
  have v34:Hid (ae fM (w2.heap.size) #[.int .i64 0,.int .i64 0,.slice none 0 0,.slice none 0 0,.slice none 0 0,.slice none 0 0] 27):=v33.out.below (hb)
  have ja34:Hid (aj fM w.heap.size (.slice (some ⟨xh,0,none⟩) LJ1.length xk) LJ1.length LJ1):=ja33.out.below (hb)
  have xa34:Hid (aj fM w.heap.size (.slice (some ⟨nS,0,none⟩) LX2.length nT) LX2.length LX2):=xa33.out.below (hb)
  have jb34:Hid (aj fM w.heap.size (.slice (some ⟨AY,0,none⟩) LJ2.length AZ) LJ2.length LJ2):=jb33.out.below (hb)
  have xb34:Hid (aj fM w.heap.size (.slice (some ⟨qH,0,none⟩) LX3.length qI) LX3.length LX3):=xb33.out.below (hb)
  have jc34:Hid (aj fM w.heap.size (.slice (some ⟨Hm,0,none⟩) LJ3.length Ho) LJ3.length LJ3):=jc33.out.below (hb)
  have xc34:Hid (aj fM w.heap.size (.slice (some ⟨uj,0,none⟩) LX4.length uk) LX4.length LX4):=ho.mono (base:=w.heap.size) hHeld.1.size
  have Ez:=hHeld.below hb
  clear hb ho
  refine hK.out _ _ Ez (fun hHeld=>?_)
  clear hK K Ez
  refine uQ 34 58 (.agg #[.int .i64 (st*su),.int .i64 ini,.slice (some ⟨nS,0,none⟩) LX2.length nT,.slice (some ⟨qH,0,none⟩) LX3.length qI,.slice (some ⟨uj,0,none⟩) LX4.length uk,.slice none 0 0]) (fuel:=1) (fun ρ=>ρ (.tmp 28)=.int .i64 (st*su)∧ρ (.tmp 36)=.int .i64 ini∧ρ (.tmp 43)=.slice (some ⟨nS,0,none⟩) LX2.length nT∧ρ (.tmp 50)=.slice (some ⟨qH,0,none⟩) LX3.length qI∧ρ (.tmp 57)=.slice (some ⟨uj,0,none⟩) LX4.length uk) rfl rfl (by kernel_rfl) (fun _ _ _ h=>h) (by kernel_rfl) ⟨by kernel_rfl,by kernel_rfl,by kernel_rfl,by kernel_rfl,by kernel_rfl⟩ (fun ρ hF _ w hSw=>by obtain ⟨hr0,hr1,hr2,hr3,hr4⟩:=hF;simp [go_sem,hr0,hr1,hr2,hr3,hr4]) hHeld (tf 68719476735 37) (by kernel_rfl) (fun K hK=>?_)
  go_big_move
  refine hK.out _ ?_
  clear hK K
  have tZ:Hid (fM.there (w2.heap.size) 0 6):=v34.out.there rfl
  have gZ:=Lib.hid (aA (w2.heap.size) [.int .i64 (st*su),.int .i64 ini,.slice (some ⟨nS,0,none⟩) LX2.length nT,.slice (some ⟨qH,0,none⟩) LX3.length qI,.slice (some ⟨uj,0,none⟩) LX4.length uk,.slice none 0 0] 0 fM)
  have hSZ:Hid (aI w (fM.setCells (w2.heap.size) 0 [.int .i64 (st*su),.int .i64 ini,.slice (some ⟨nS,0,none⟩) LX2.length nT,.slice (some ⟨qH,0,none⟩) LX3.length qI,.slice (some ⟨uj,0,none⟩) LX4.length uk,.slice none 0 0]) w.heap.size (w.heap.size+1) 27 (iaC st it a2 n2 c2 a3 n3 c3 a4 n4 c4 a5 n5 c5) (iaC su iu b2 m2 d2 b3 m3 d3 b4 m4 d4 b5 m5 d5)):=⟨hHeld.1.grown gZ.out hHeld.1.size (fun q hq=>by have h1:=Option.some.inj hq;have h2:=BL.out;omega),hHeld.2.1.grown gZ.out (fun e=>by have h1:=Option.some.inj e;have h2:=BL.out;omega),hHeld.2.2.grown gZ.out (fun e=>by have h1:=Option.some.inj e;have h2:=BL.out;omega)⟩
  have rZ:=Lib.hid (r34.out.grown gZ.out (fun e=>by have h1:=Option.some.inj e;have h2:=BL.out;omega))
  have vZ:Hid (ae (fM.setCells (w2.heap.size) 0 [.int .i64 (st*su),.int .i64 ini,.slice (some ⟨nS,0,none⟩) LX2.length nT,.slice (some ⟨qH,0,none⟩) LX3.length qI,.slice (some ⟨uj,0,none⟩) LX4.length uk,.slice none 0 0]) (w2.heap.size) #[.int .i64 (st*su),.int .i64 ini,.slice (some ⟨nS,0,none⟩) LX2.length nT,.slice (some ⟨qH,0,none⟩) LX3.length qI,.slice (some ⟨uj,0,none⟩) LX4.length uk,.slice none 0 0] 27):=v34.out.sets _ _ _ _ _ _
  have qs:=Lib.hid (s34.out.az v34.out (by decide) gZ.out)
  have qxa:=Lib.hid (xa34.out.az v34.out (by decide) gZ.out)
  have qxb:=Lib.hid (xb34.out.az v34.out (by decide) gZ.out)
  have qxc:=Lib.hid (xc34.out.az v34.out (by decide) gZ.out)
  refine wpAnyH_ready (rs:=[36]) (fuel:=0) (by kernel_rfl) (by simp) ?_
  refine aC rfl (by kernel_rfl) (tf 137438953471 37) (by kernel_rfl) (fun K hK=>?_) AllReadyH.nil
  refine wp_store_mid _ _ _ rfl (w2.heap.size) 0 #[.int .i64 (st*su),.int .i64 ini,.slice (some ⟨nS,0,none⟩) LX2.length nT,.slice (some ⟨qH,0,none⟩) LX3.length qI,.slice (some ⟨uj,0,none⟩) LX4.length uk,.slice none 0 0] rfl rfl tZ.out (by kernel_rfl) (di _ _ _ _ _ _ _ _ _ _ _ _ _ _) ?_
  refine hK.out _ _ hSZ.out (fun hHeld=>?_)
  clear hK K
  refine wpAnyH_done (by kernel_rfl) ?_ _
  exact REST.out (w2.heap.size,xh,xk,nS,nT,AY,AZ,qH,qI,Hm,Ho,uj,uk) _ ⟨hSZ.out,rZ.out,qs.out,vZ.out,qxa.out,qxb.out,qxc.out,BL.out⟩
theorem uS (a b:IaD) (v u:Value) (w:World) (h:aB w a v) (k:aB w b u) (fa:Small a) (fb:Small b) :
  Calls Tryz.prog 55 #[v,u] w fun e w'=>∃ v',e=.returned (.tuple #[v',.bool (fQ a b)])∧bM w' w.heap.size (gI a b) v'∧Below w.heap.size w w' :=
 (uC a b v u w h k fa fb).mono fun _ _ ⟨v',he,ho,_,hb⟩=>⟨v',he,ho,hb⟩
end Go.Proofs.YtnglogkkkpegnaaGreat
