import Derived.Test.YtnglogkkkpegnaaGreatRegion
namespace Go.Proofs.YtnglogkkkpegnaaGreat
open Go
theorem IK {l:List Nat} {i:Nat} {f:Nat→Bool} (hi:i∈l) (h:l.all f=true):f i=true:=List.all_eq_true.1 h i hi
section
variable {P:Program} {md:Region.Mode} {ops:Array Oper} {Q:Exit→Act→World→Prop} {S:World→Prop}
theorem F8 {σ:Type} (L:σ→Array Bool) (F:σ→Nat) (J:σ→Act→World→Prop) (hS:∀ s a w,J s a w→S w)
  (hend:∀ s a w,J s a w→F s=0→Region.ready md ops (L s)=[]∧Q .normal a w)
  (hne:∀ s a w,J s a w→0<F s→Region.ready md ops (L s)≠[])
  (hgo:∀ s a w,J s a w→0<F s→∀ i∈Region.ready md ops (L s),∃ o,ops[i]?=some o∧∀ K:Act→World→Prop,Shut (∀ s' a' w',F s'+1=F s→L s'=(L s).setIfInBounds i true→J s' a' w'→K a' w') →
   if Region.wanted o (yielded ops a.tmps)=true then Oper.wp P o a w K Q else K (a.put o.dst undef) w) :
  ∀ n s a w,F s=n→J s a w→wpAnyH P md ops Q S n (L s) a w:=by
 intro n
 induction n with
 | zero=>intro s a w hF hJ;exact hend s a w hJ hF
 | succ n ih =>
  intro s a w hF hJ
  refine ⟨fun h=>absurd h (hne s a w hJ (by omega)),fun i hi=>?_⟩
  obtain ⟨o,ho,h⟩:=hgo s a w hJ (by omega) i hi
  exact wpOp_step ho (fun K' hK=>h K' (fun s' a' w' hF' hL hJ'=>hK a' w' ⟨hS s' a' w' hJ',by rw [← hL];exact ih s' a' w' (by omega) hJ'⟩))
end
theorem iP {l:List Nat} (h:l.isEmpty=false):l≠[]:=by
 intro e
 subst e
 cases h
section
variable {P:Program} {md:Region.Mode} {ops:Array Oper} {Q:Exit→Act→World→Prop} {S:World→Prop}
theorem IL {σ:Type} (L:σ→Array Bool) (F:σ→Nat) (J:σ→Act→World→Prop) (hS:∀ s a w,J s a w→S w)
  (hend:∀ s a w,J s a w→F s=0→Region.ready md ops (L s)=[]∧Q .normal a w)
  (hne:∀ s a w,J s a w→0<F s→Region.ready md ops (L s)≠[])
  (hgo:∀ s a w,J s a w→0<F s→∀ i∈Region.ready md ops (L s),∃ o,ops[i]?=some o∧∀ K:Act→World→Prop,Shut (∀ s' a' w',F s'+1=F s→L s'=(L s).setIfInBounds i true→J s' a' w'→K a' w') →
   if Region.wanted o (yielded ops a.tmps)=true then Oper.wp P o a w K Q else K (a.put o.dst undef) w)
  (s:σ) {n:Nat} {listed:Array Bool} {a:Act} {w:World} (hl:listed=L s) (hF:F s=n) (hJ:J s a w):wpAnyH P md ops Q S n listed a w:=by
 subst hl
 exact F8 L F J hS hend hne hgo n s a w hF hJ
end
end Go.Proofs.YtnglogkkkpegnaaGreat
