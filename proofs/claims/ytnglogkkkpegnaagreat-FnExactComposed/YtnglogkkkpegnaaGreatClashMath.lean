import Derived.Test.YtnglogkkkpegnaaGreatTwo
import Derived.Test.YtnglogkkkpegnaaGreatFit
namespace Go.Proofs.YtnglogkkkpegnaaGreat
open Go.RowKit
def dZ (sh xs ys:List Int):Bool:=xs.any fun x=>hasB sh x&&!hasB ys x
theorem Gj (sh xs ys:List Int):(!inB (aU xs sh) ys)=dZ sh xs ys:=by
 rw [Bool.eq_iff_iff]
 simp only [Bool.not_eq_true',inB,dZ,List.any_eq_true,Bool.and_eq_true,Bool.not_eq_true']
 constructor
 ·intro h
  obtain ⟨x,hx,hn⟩:∃ x∈aU xs sh,hasB ys x=false:=by
   apply Classical.byContradiction
   intro hno
   rw [List.all_eq_true.2 (fun x hx=>by
    cases e:hasB ys x with
    | true=>rfl
    | false=>exact absurd ⟨x,hx,e⟩ hno)] at h
   cases h
  rw [dJ] at hx
  exact ⟨x,hx.1,iG.2 hx.2,hn⟩
 ·rintro ⟨x,hx,hs,hn⟩
  cases e:(aU xs sh).all (hasB ys) with
  | false=>rfl
  | true =>
   have:=List.all_eq_true.1 e x (dJ.2 ⟨hx,iG.1 hs⟩)
   rw [hn] at this
   cases this
theorem IQ (sh xs ys:List Int) (x:Int):dZ sh (xs++[x]) ys=(dZ sh xs ys || (hasB sh x&&!hasB ys x)):=by simp [dZ]
theorem J9 {sh xs ys:List Int} {x:Int} (hx:x∈xs) (h1:hasB sh x=true) (h2:hasB ys x=false):dZ sh xs ys=true:=by
 unfold dZ
 rw [List.any_eq_true]
 exact ⟨x,hx,by rw [h1,h2];rfl⟩
def iV (a b:IaD) (p q:Int):Bool:=dZ (aY a b) (ofL a.steps p a.outs) (ofL b.steps q b.ins) || dZ (aY a b) (ofL b.steps q b.outs) (ofL a.steps p a.ins)
def rowP (S:Int→Int→Bool) (p:Nat):Nat→List (Int × Int)
 | 0=>[]
 | j+1=>rowP S p j++if S p j then [((p:Int),(j:Int))] else []
def dR (S:Int→Int→Bool) (m:Nat):Nat→List (Int × Int)
 | 0=>[]
 | k+1=>dR S m k++rowP S k m
theorem wQ (S:Int→Int→Bool) (p:Nat):∀ j,(rowP S p j).length≤j
 | 0=>Nat.le_refl _
 | j+1=>by
  have:=wQ S p j
  unfold rowP
  rw [List.length_append]
  split <;> simp <;> omega
theorem uA (S:Int→Int→Bool) (m:Nat):∀ k,(dR S m k).length≤k*m
 | 0=>by simp [dR]
 | k+1=>by
  have h1:=uA S m k
  have h2:=wQ S k m
  unfold dR
  rw [List.length_append,Nat.succ_mul]
  omega
theorem wR {S:Int→Int→Bool} {p:Nat} {x:Int × Int}:∀ {j:Nat},x∈rowP S p j↔x.1=p∧0≤x.2∧x.2<j∧S x.1 x.2=true
 | 0=>by simp [rowP];omega
 | j+1=>by
  obtain ⟨x1,x2⟩:=x
  unfold rowP
  rw [List.mem_append,wR]
  by_cases h:S p j=true
  ·rw [if_pos h]
   simp only [List.mem_singleton,Prod.mk.injEq]
   constructor
   ·rintro (⟨h1,h2,h3,h4⟩|⟨h1,h2⟩)
    ·exact ⟨h1,h2,by omega,h4⟩
    ·subst h1;subst h2;exact ⟨rfl,by omega,by omega,h⟩
   ·rintro ⟨h1,h2,h3,h4⟩
    by_cases e:x2=j
    ·exact Or.inr ⟨h1,e⟩
    ·exact Or.inl ⟨h1,h2,by omega,h4⟩
  ·rw [if_neg h]
   simp only [List.not_mem_nil,or_false]
   constructor
   ·rintro ⟨h1,h2,h3,h4⟩;exact ⟨h1,h2,by omega,h4⟩
   ·rintro ⟨h1,h2,h3,h4⟩
    refine ⟨h1,h2,?_,h4⟩
    have:x2≠j:=by
     rintro rfl
     rw [h1] at h4
     exact h h4
    omega
theorem wS {S:Int→Int→Bool} {m:Nat} {x:Int × Int}:∀ {k:Nat},x∈dR S m k↔0≤x.1∧x.1<k∧0≤x.2∧x.2<m∧S x.1 x.2=true
 | 0=>by simp [dR];omega
 | k+1=>by
  unfold dR
  rw [List.mem_append,wS,wR]
  constructor
  ·rintro (⟨h1,h2,h3,h4,h5⟩|⟨h1,h2,h3,h4⟩)
   ·exact ⟨h1,by omega,h3,h4,h5⟩
   ·exact ⟨by omega,by omega,h2,h3,h4⟩
  ·rintro ⟨h1,h2,h3,h4,h5⟩
   by_cases e:x.1=k
   ·exact Or.inr ⟨e,h3,h4,h5⟩
   ·exact Or.inl ⟨h1,by omega,h3,h4,h5⟩
theorem Am {S S':Int→Int→Bool} {p:Nat}:∀ {j:Nat},(∀ q:Nat,q<j→S p q=S' p q)→rowP S p j=rowP S' p j
 | 0,_=>rfl
 | j+1,h=>by
  unfold rowP
  rw [Am (fun q hq=>h q (by omega)),h j (by omega)]
theorem Ap {S S':Int→Int→Bool} {m:Nat}:∀ {k:Nat},(∀ p q:Nat,p<k→q<m→S p q=S' p q)→dR S m k=dR S' m k
 | 0,_=>rfl
 | k+1,h=>by
  unfold dR
  rw [Ap (fun p q hp hq=>h p q (by omega) hq),Am (fun q hq=>h k q (by omega) hq)]
def fP (C:Int→Int→Bool) (m k j:Nat):Int→Int→Bool:=fun p q=>C p q&&(decide (0≤p∧p<k∧0≤q∧q<m) || decide (p=k∧0≤q∧q<j))
theorem FB (C:Int→Int→Bool) (m:Nat):fP C m 0 0=fun _ _=>false:=by
 funext p q
 unfold fP
 rw [decide_eq_false (by omega),decide_eq_false (by omega)]
 simp
theorem IU (C:Int→Int→Bool) (m k:Nat):fP C m k m=fP C m (k+1) 0:=by
 funext p q
 unfold fP
 congr 1
 rw [Bool.eq_iff_iff]
 simp only [Bool.or_eq_true,decide_eq_true_eq]
 omega
theorem JA (C:Int→Int→Bool) (m k j:Nat) (h:C k j=false):fP C m k j=fP C m k (j+1):=by
 funext p q
 unfold fP
 by_cases e:p=k∧q=j
 ·obtain ⟨rfl,rfl⟩:=e
  rw [h]
  rfl
 ·congr 1
  rw [Bool.eq_iff_iff]
  simp only [Bool.or_eq_true,decide_eq_true_eq]
  omega
def fJ (su:Int) (x:Int × Int):Int:=x.1*su+x.2
def iy (a b:IaD):List Int:=if iH a b then (dR (iV a b) b.states.toNat a.states.toNat).map (fJ b.states) else []
theorem iQ {a b:IaD} (h:iH a b=true):aJ a=true∧aJ b=true∧a.states*b.states≤40:=by
 unfold iH at h
 simp only [Bool.and_eq_true,decide_eq_true_eq] at h
 exact ⟨h.1.1.1,h.1.1.2,h.2⟩
theorem JB {su:Int} {m k:Nat} {S:Int→Int→Bool} (hm:(m:Int)=su) {x:Int × Int} (hx:x∈dR S m k):0≤fJ su x∧fJ su x<k*m:=by
 rw [wS] at hx
 obtain ⟨h1,h2,h3,h4,_⟩:=hx
 unfold fJ
 rw [← hm]
 obtain ⟨p,hp⟩:∃ p:Nat,x.1=p:=⟨x.1.toNat,by omega⟩
 obtain ⟨q,hq⟩:∃ q:Nat,x.2=q:=⟨x.2.toNat,by omega⟩
 rw [hp] at h2 ⊢
 rw [hq] at h4 ⊢
 have a1:p+1≤k:=by omega
 have a2:(p+1)*m≤k*m:=Nat.mul_le_mul_right m a1
 rw [Nat.succ_mul] at a2
 have a3:((p*m:Nat):Int)=(p:Int)*m:=by simp
 have a4:((k*m:Nat):Int)=(k:Int)*m:=by simp
 omega
theorem DW {a b:IaD} (h:aJ a=true):(aY a b).length≤12:=by
 obtain ⟨h1,h2,_⟩:=pX h
 refine qh (bJ (bJ List.Pairwise.nil)) (fun y hy=>?_)
 unfold aY at hy
 rw [fO,dJ,dJ] at hy
 rcases hy with hy|hy
 ·exact dO h1 y hy.1
 ·exact dO h2 y hy.1
end Go.Proofs.YtnglogkkkpegnaaGreat
