import Derived.Test.YtnglogkkkpegnaaGreatTwo
import Derived.Test.YtnglogkkkpegnaaGreatFit
import Derived.Test.YtnglogkkkpegnaaGreatIaRise
namespace Go.Proofs.YtnglogkkkpegnaaGreat
open Go.RowKit
def fF (su:Int) (m:Nat) (x:St):List St:=(List.range m).map fun q:Nat=>(x.1*su+(q:Int),x.2.1,x.2.2*su+(q:Int))
def dA (su:Int) (n:Nat) (y:St):List St:=(List.range n).map fun p:Nat=>((p:Int)*su+y.1,y.2.1,(p:Int)*su+y.2.2)
def eU (su:Int) (x:St) (tt:List St):List St:=(tt.filter fun y=>decide (y.2.1=x.2.1)).map fun y=>(x.1*su+y.1,x.2.1,x.2.2*su+y.2.2)
def dF (sh:List Int) (su:Int) (m:Nat) (ss:List St):List St:=ss.flatMap fun x=>if hasB sh x.2.1 then [] else fF su m x
def cu (sh:List Int) (su:Int) (n:Nat) (tt:List St):List St:=tt.flatMap fun y=>if hasB sh y.2.1 then [] else dA su n y
def bZ (sh:List Int) (su:Int) (ss tt:List St):List St:=ss.flatMap fun x=>if hasB sh x.2.1 then eU su x tt else []
def nN (a b:IaD):List St :=
 (dF (aY a b) b.states b.states.toNat a.steps++cu (aY a b) b.states a.states.toNat b.steps)++bZ (aY a b) b.states a.steps b.steps
theorem mW {su p q p' q':Int} (h:p*su+q=p'*su+q') (hq:0≤q∧q<su) (hq':0≤q'∧q'<su):p=p'∧q=q':=by
 have key:∀ {p p' q q':Int},p*su+q=p'*su+q'→0≤q→q'<su→¬ p<p'+0 - 0∨q=q'∧p=p'∨p<p':=fun {p p' q q'} _ _ _=>by omega
 clear key
 have lt:∀ {p p' q q':Int},p*su+q=p'*su+q'→q<su→0≤q'→¬ p<p':=by
  intro p p' q q' e h1 h2 hlt
  have h3:(p+1)*su≤p'*su:=Int.mul_le_mul_of_nonneg_right (by omega) (by omega)
  rw [Int.add_mul,Int.one_mul] at h3
  omega
 have e1:=lt h hq.2 hq'.1
 have e2:=lt h.symm hq'.2 hq.1
 have e3:p=p':=by omega
 subst e3
 exact ⟨rfl,by omega⟩
theorem iO {su:Int} {m:Nat} {x u:St}:u∈fF su m x↔∃ q:Nat,q<m∧u=(x.1*su+(q:Int),x.2.1,x.2.2*su+(q:Int)):=by
 simp only [fF,List.mem_map,List.mem_range]
 exact ⟨fun ⟨q,h1,h2⟩=>⟨q,h1,h2.symm⟩,fun ⟨q,h1,h2⟩=>⟨q,h1,h2.symm⟩⟩
theorem jE {su:Int} {n:Nat} {y u:St}:u∈dA su n y↔∃ p:Nat,p<n∧u=((p:Int)*su+y.1,y.2.1,(p:Int)*su+y.2.2):=by
 simp only [dA,List.mem_map,List.mem_range]
 exact ⟨fun ⟨q,h1,h2⟩=>⟨q,h1,h2.symm⟩,fun ⟨q,h1,h2⟩=>⟨q,h1,h2.symm⟩⟩
theorem jF {su:Int} {x u:St} {tt:List St}:u∈eU su x tt↔∃ y∈tt,y.2.1=x.2.1∧u=(x.1*su+y.1,x.2.1,x.2.2*su+y.2.2):=by
 simp only [eU,List.mem_map,List.mem_filter,decide_eq_true_eq]
 exact ⟨fun ⟨y,⟨h1,h2⟩,h3⟩=>⟨y,h1,h2,h3.symm⟩,fun ⟨y,h1,h2,h3⟩=>⟨y,⟨h1,h2⟩,h3.symm⟩⟩
theorem qi {sh:List Int} {su:Int} {m:Nat} {ss:List St} {u:St}:u∈dF sh su m ss↔∃ x∈ss,hasB sh x.2.1=false∧u∈fF su m x:=by
 simp only [dF,List.mem_flatMap]
 constructor
 ·rintro ⟨x,hx,hu⟩
  cases h:hasB sh x.2.1 with
  | true=>rw [h] at hu;simp at hu
  | false=>rw [h] at hu;exact ⟨x,hx,h,by simpa using hu⟩
 ·rintro ⟨x,hx,h,hu⟩
  exact ⟨x,hx,by rw [h];simpa using hu⟩
theorem qj {sh:List Int} {su:Int} {n:Nat} {tt:List St} {u:St}:u∈cu sh su n tt↔∃ y∈tt,hasB sh y.2.1=false∧u∈dA su n y:=by
 simp only [cu,List.mem_flatMap]
 constructor
 ·rintro ⟨x,hx,hu⟩
  cases h:hasB sh x.2.1 with
  | true=>rw [h] at hu;simp at hu
  | false=>rw [h] at hu;exact ⟨x,hx,h,by simpa using hu⟩
 ·rintro ⟨x,hx,h,hu⟩
  exact ⟨x,hx,by rw [h];simpa using hu⟩
theorem oQ {sh:List Int} {su:Int} {ss tt:List St} {u:St}:u∈bZ sh su ss tt↔∃ x∈ss,hasB sh x.2.1=true∧u∈eU su x tt:=by
 simp only [bZ,List.mem_flatMap]
 constructor
 ·rintro ⟨x,hx,hu⟩
  cases h:hasB sh x.2.1 with
  | false=>rw [h] at hu;simp at hu
  | true=>rw [h] at hu;exact ⟨x,hx,h,by simpa using hu⟩
 ·rintro ⟨x,hx,h,hu⟩
  exact ⟨x,hx,by rw [h];simpa using hu⟩
theorem Ahead.ne {x y:St} (h:Ahead x y):x≠y:=by
 rintro rfl
 unfold Ahead at h
 omega
theorem yg {α:Type} {R:α→α→Prop} {c:Bool} {l:List α} (h:l.Pairwise R):(if c then [] else l).Pairwise R:=by
 cases c
 ·exact h
 ·exact List.Pairwise.nil
theorem F6 {a b:IaD} (h:iH a b=true):(nN a b).Pairwise (·≠·):=by
 have hab:=h
 unfold iH at hab
 simp only [Bool.and_eq_true,decide_eq_true_eq] at hab
 obtain ⟨⟨⟨ha,hb⟩,hf⟩,_⟩:=hab
 have sA:=aN ha
 have sB:=aN hb
 have eA:=dH ha
 have eB:=dH hb
 have rA:=jD a a.steps (qg ha)
 have rB:=jD b b.steps (qg hb)

 have both:∀ x∈a.steps,∀ y∈b.steps,x.2.1=y.2.1→hasB (aY a b) x.2.1=true:=by
  intro x hx y hy e
  unfold je at hf
  simp only [Bool.and_eq_true,decide_eq_true_eq,List.length_eq_zero_iff] at hf
  obtain ⟨⟨⟨f1,f2⟩,f3⟩,f4⟩:=hf
  have n1:¬ (x.2.1∈a.ins∧x.2.1∈b.ins):=fun k=>by have:=dJ.2 k;rw [f1] at this;cases this
  have n2:¬ (x.2.1∈a.outs∧x.2.1∈b.outs):=fun k=>by have:=dJ.2 k;rw [f2] at this;cases this
  have n3:¬ (x.2.1∈a.ah∧x.2.1∈aV b):=fun k=>by have:=dJ.2 k;rw [f3] at this;cases this
  have n4:¬ (x.2.1∈b.ah∧x.2.1∈aV a):=fun k=>by have:=dJ.2 k;rw [f4] at this;cases this
  rw [jg] at n3 n4
  have h1:=(eA x hx).2.2
  have h2:=(eB y hy).2.2
  rw [← e] at h2
  rw [iG]
  unfold aY
  rw [fO,dJ,dJ]
  rcases h1 with h1|h1|h1 <;> rcases h2 with h2|h2|h2
  ·exact absurd ⟨h1,h2⟩ n1
  ·exact .inl ⟨h1,h2⟩
  ·exact absurd ⟨h2,.inl h1⟩ n4
  ·exact .inr ⟨h1,h2⟩
  ·exact absurd ⟨h1,h2⟩ n2
  ·exact absurd ⟨h2,.inr (.inl h1)⟩ n4
  ·exact absurd ⟨h1,.inl h2⟩ n3
  ·exact absurd ⟨h1,.inr (.inl h2)⟩ n3
  ·exact absurd ⟨h1,.inr (.inr h2)⟩ n3
 have hm:((b.states.toNat:Nat):Int)=b.states:=by omega
 unfold nN
 rw [List.pairwise_append,List.pairwise_append]
 refine ⟨⟨?_,?_,?_⟩,?_,?_⟩
 ·
  unfold dF
  rw [List.pairwise_flatMap]
  refine ⟨fun x _=>yg ?_,?_⟩
  ·unfold fF
   rw [List.pairwise_map]
   refine List.Pairwise.imp_of_mem ?_ List.pairwise_lt_range
   intro q q' _ _ hlt e
   have:=congrArg (·.1) e
   simp only at this
   omega
  ·refine List.Pairwise.imp_of_mem ?_ rA
   intro x x' hx hx' hah u hu u' hu' e
   have hu1:u∈fF b.states b.states.toNat x:=by revert hu;split <;> simp
   have hu2:u'∈fF b.states b.states.toNat x':=by revert hu';split <;> simp
   obtain ⟨q,hq,e1⟩:=iO.1 hu1
   obtain ⟨q',hq',e2⟩:=iO.1 hu2
   rw [e,e2] at e1
   simp only [Prod.mk.injEq] at e1
   obtain ⟨k1,k2⟩:=mW e1.1 (by omega) (by omega)
   obtain ⟨k3,_⟩:=mW e1.2.2 (by omega) (by omega)
   exact hah.ne (by obtain ⟨_,_,_⟩:=x;obtain ⟨_,_,_⟩:=x';simp only at k1 k3 e1;rw [k1,k3,e1.2.1])
 ·
  unfold cu
  rw [List.pairwise_flatMap]
  refine ⟨fun y hy=>yg ?_,?_⟩
  ·unfold dA
   rw [List.pairwise_map]
   refine List.Pairwise.imp_of_mem ?_ List.pairwise_lt_range
   intro p p' _ _ hlt e
   have:=congrArg (·.1) e
   simp only at this
   have hb1:=(eB y hy).1
   have:=(mW this (by omega) (by omega)).1
   omega
  ·refine List.Pairwise.imp_of_mem ?_ rB
   intro x x' hx hx' hah u hu u' hu' e
   have hu1:u∈dA b.states a.states.toNat x:=by revert hu;split <;> simp
   have hu2:u'∈dA b.states a.states.toNat x':=by revert hu';split <;> simp
   obtain ⟨q,hq,e1⟩:=jE.1 hu1
   obtain ⟨q',hq',e2⟩:=jE.1 hu2
   rw [e,e2] at e1
   simp only [Prod.mk.injEq] at e1
   have b1:=eB x hx
   have b2:=eB x' hx'
   obtain ⟨_,k1⟩:=mW e1.1 (by omega) (by omega)
   obtain ⟨_,k3⟩:=mW e1.2.2 (by omega) (by omega)
   exact hah.ne (by obtain ⟨_,_,_⟩:=x;obtain ⟨_,_,_⟩:=x';simp only at k1 k3 e1;rw [k1,k3,e1.2.1])
 ·
  intro u hu u' hu' e
  obtain ⟨x,hx,hs,h1⟩:=qi.1 hu
  obtain ⟨y,hy,_,h2⟩:=qj.1 hu'
  obtain ⟨q,_,e1⟩:=iO.1 h1
  obtain ⟨p,_,e2⟩:=jE.1 h2
  rw [e,e2] at e1
  simp only [Prod.mk.injEq] at e1
  have:=both x hx y hy e1.2.1.symm
  rw [hs] at this
  cases this
 ·
  unfold bZ
  rw [List.pairwise_flatMap]
  refine ⟨fun x hx=>?_,?_⟩
  ·split
   ·unfold eU
    rw [List.pairwise_map]
    refine List.Pairwise.imp_of_mem ?_ (List.Pairwise.filter _ rB)
    intro y y' hy hy' hah e
    have m1:=List.mem_filter.1 hy
    have m2:=List.mem_filter.1 hy'
    have b1:=eB y m1.1
    have b2:=eB y' m2.1
    have d1:=m1.2
    have d2:=m2.2
    simp only [decide_eq_true_eq] at d1 d2
    simp only [Prod.mk.injEq] at e
    obtain ⟨_,k1⟩:=mW e.1 (by omega) (by omega)
    obtain ⟨_,k3⟩:=mW e.2.2 (by omega) (by omega)
    exact hah.ne (by obtain ⟨_,_,_⟩:=y;obtain ⟨_,_,_⟩:=y';simp only at k1 k3 d1 d2;rw [k1,k3,d1,d2])
   ·exact List.Pairwise.nil
  ·refine List.Pairwise.imp_of_mem ?_ rA
   intro x x' hx hx' hah u hu u' hu' e
   have hu1:u∈eU b.states x b.steps:=by revert hu;split <;> simp
   have hu2:u'∈eU b.states x' b.steps:=by revert hu';split <;> simp
   obtain ⟨y,hy,_,e1⟩:=jF.1 hu1
   obtain ⟨y',hy',_,e2⟩:=jF.1 hu2
   rw [e,e2] at e1
   simp only [Prod.mk.injEq] at e1
   have b1:=eB y hy
   have b2:=eB y' hy'
   obtain ⟨k1,_⟩:=mW e1.1 (by omega) (by omega)
   obtain ⟨k3,_⟩:=mW e1.2.2 (by omega) (by omega)
   exact hah.ne (by obtain ⟨_,_,_⟩:=x;obtain ⟨_,_,_⟩:=x';simp only at k1 k3 e1;rw [k1,k3,e1.2.1])
 ·
  intro u hu u' hu' e
  obtain ⟨x',hx',hs',h2⟩:=oQ.1 hu'
  obtain ⟨y',_,hy2,e2⟩:=jF.1 h2
  rcases List.mem_append.1 hu with hu|hu
  ·obtain ⟨x,hx,hs,h1⟩:=qi.1 hu
   obtain ⟨q,_,e1⟩:=iO.1 h1
   rw [e,e2] at e1
   simp only [Prod.mk.injEq] at e1
   rw [e1.2.1,hs] at hs'
   cases hs'
  ·obtain ⟨y,hy,hs,h1⟩:=qj.1 hu
   obtain ⟨p,_,e1⟩:=jE.1 h1
   rw [e,e2] at e1
   simp only [Prod.mk.injEq] at e1
   rw [e1.2.1,hs] at hs'
   cases hs'
theorem DR:∀ {xs ys:List St},xs.Pairwise Ahead→ys.Pairwise Ahead→(∀ u,u∈xs↔u∈ys)→xs=ys
 | [],[],_,_,_=>rfl
 | [],y :: ys,_,_,h=>by have:=(h y).2 (by simp);cases this
 | x :: xs,[],_,_,h=>by have:=(h x).1 (by simp);cases this
 | x :: xs,y :: ys,hx,hy,h=>by
  obtain ⟨hx1,hx2⟩:=List.pairwise_cons.1 hx
  obtain ⟨hy1,hy2⟩:=List.pairwise_cons.1 hy
  have irr:∀ {s t:St},Ahead s t→Ahead t s→False:=fun h1 h2=>(h1.trans h2).ne rfl
  have e:x=y:=by
   rcases List.mem_cons.1 ((h x).1 (by simp)) with e|hm
   ·exact e
   ·rcases List.mem_cons.1 ((h y).2 (by simp)) with e|hm2
    ·exact e.symm
    ·exact (irr (hy1 x hm) (hx1 y hm2)).elim
  subst e
  rw [DR hx2 hy2 (fun u=>?_)]
  constructor
  ·intro hu
   rcases List.mem_cons.1 ((h u).1 (List.mem_cons_of_mem _ hu)) with e|k
   ·exact ((hx1 u hu).ne e.symm).elim
   ·exact k
  ·intro hu
   rcases List.mem_cons.1 ((h u).2 (List.mem_cons_of_mem _ hu)) with e|k
   ·exact ((hy1 u hu).ne e.symm).elim
   ·exact k
end Go.Proofs.YtnglogkkkpegnaaGreat
