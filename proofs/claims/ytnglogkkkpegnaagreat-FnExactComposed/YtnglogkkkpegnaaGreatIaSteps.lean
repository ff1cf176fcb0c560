import Derived.Test.YtnglogkkkpegnaaGreatIaDef
namespace Go.Proofs.YtnglogkkkpegnaaGreat
open Go.RowKit
theorem yV (a:IaD) (x:St):∀ (r:List St) (y:St),stepsB a (r++[y]++[x])=(stepsB a (r++[y])&&cZ a y x&&bH a x)
 | [],y=>by simp [stepsB]
 | [z],y=>by simp [stepsB,Bool.and_assoc]
 | z :: z' :: r,y=>by
  have ih:=yV a x (z' :: r) y
  simp only [List.cons_append,stepsB] at ih ⊢
  rw [ih]
  simp only [Bool.and_assoc]
theorem Af (a:IaD):∀ (ss:List St) (m:Nat),stepsB a ss=true→stepsB a (ss.take m)=true
 | [],m,h=>by simp [stepsB]
 | [x],0,h=>by simp [stepsB]
 | [x],m+1,h=>by simpa using h
 | y :: x :: r,0,h=>by simp [stepsB]
 | y :: x :: r,1,h=>by
  simp only [stepsB,Bool.and_eq_true] at h
  simpa [stepsB] using h.1.1
 | y :: x :: r,m+2,h=>by
  simp only [stepsB,Bool.and_eq_true] at h
  have ih:=Af a (x :: r) (m+1) h.2
  simp only [List.take_succ_cons,stepsB,Bool.and_eq_true] at ih ⊢
  exact ⟨h.1,ih⟩
theorem DI (a:IaD) (ss:List St) (h:0<ss.length):stepsB a (ss.take 1)=bH a ss[0]:=by
 match ss,h with
 | x :: r,_=>simp [stepsB]
theorem Fj (a:IaD) (ss:List St) (k:Nat) (hk:k+1<ss.length):stepsB a (ss.take (k+1+1))=(stepsB a (ss.take (k+1))&&cZ a ss[k] ss[k+1]&&bH a ss[k+1]):=by
 rw [List.take_succ_eq_append_getElem hk,List.take_succ_eq_append_getElem (by omega:k<ss.length)]
 exact yV a ss[k+1] (ss.take k) ss[k]
theorem yX {a:IaD} {ss:List St} {m:Nat} (h:stepsB a (ss.take m)=false):stepsB a ss=false:=by
 apply Bool.eq_false_iff.2
 intro e
 rw [Af a ss m e] at h
 cases h
theorem jC (a:IaD):∀ (ss:List St),stepsB a ss=true→∀ x∈ss,bH a x=true
 | [],_,x,hx=>by simp at hx
 | [y],h,x,hx=>by
  simp only [List.mem_singleton] at hx
  subst hx
  simpa [stepsB] using h
 | y :: z :: r,h,x,hx=>by
  simp only [stepsB,Bool.and_eq_true] at h
  rcases List.mem_cons.1 hx with rfl|hx
  ·exact h.1.1
  ·exact jC a (z :: r) h.2 x hx
theorem rO {xs:List Int} (h:dm xs=true) {x:Int} (hx:x∈xs):0≤x∧x≤11:=by
 obtain ⟨k,hk,rfl⟩:=List.mem_iff_getElem.1 hx
 simp only [dm,List.all_eq_true,List.mem_range] at h
 have:=h k hk
 simp only [jf,Bool.and_eq_true] at this
 have h1:=this.1
 simp [btw,hk] at h1
 exact h1
end Go.Proofs.YtnglogkkkpegnaaGreat
