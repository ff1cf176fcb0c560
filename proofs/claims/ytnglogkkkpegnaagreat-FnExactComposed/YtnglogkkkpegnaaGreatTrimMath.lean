import Derived.Test.YtnglogkkkpegnaaGreatReachMath
namespace Go.Proofs.YtnglogkkkpegnaaGreat
open Go.RowKit
def kP (kept:List Int) (k:Nat) (s:Nat):Int:=if (s:Int)∈kept.take k then (kept.idxOf (s:Int):Int) else 0
theorem IM (kept:List Int) (s:Nat):kP kept 0 s=0:=by simp [kP]
theorem IP {kept:List Int} (hn:kept.Nodup) {k:Nat} (hk:k<kept.length) {t:Nat} (ht:kept[k]=(t:Int)) (s:Nat):kP kept (k+1) s=if s=t then (k:Int) else kP kept k s:=by
 unfold kP
 rw [List.take_succ_eq_append_getElem hk]
 by_cases e:s=t
 ·subst e
  rw [if_pos rfl,if_pos (by rw [List.mem_append,ht];simp)]
  have:kept.idxOf (s:Int)=k:=by
   rw [← ht]
   exact hn.idxOf_getElem k hk
  rw [this]
 ·rw [if_neg e]
  have hne:¬ (s:Int)=kept[k]:=by rw [ht];omega
  by_cases h:(s:Int)∈kept.take k
  ·rw [if_pos (List.mem_append_left _ h),if_pos h]
  ·rw [if_neg (fun hm=>(List.mem_append.1 hm).elim h (fun h'=>hne (List.mem_singleton.1 h'))),if_neg h]
def dU (kept:List Int) (pl:Nat→Int) (ss:List St):List St:=(ss.filter fun x=>hasB kept x.1).map fun x=>(pl x.1.toNat,x.2.1,pl x.2.2.toNat)
theorem uz (a:IaD):(aP a).Pairwise (·<·):=(iM _ _ _).1
theorem xB (a:IaD):(aP a).Nodup:=(uz a).imp (fun h e=>by omega)
theorem kL {a:IaD} {x:Int}:x∈aP a↔iw (aV a) a.steps [a.init] x:=(iM _ _ _).2 x
theorem DU (a:IaD):a.init∈aP a:=kL.2 (.start _ (by simp))
theorem DV {a:IaD} (h:aJ a=true) {x:St} (hx:x∈a.steps) (hf:x.1∈aP a):x.2.2∈aP a:=kL.2 (.step x hx (IC h hx) (kL.1 hf))
theorem rP {a:IaD} (h:aJ a=true):∀ y∈aP a,0≤y∧y<40:=by
 intro y hy
 have h1:=Ai h (kL.1 hy)
 have h2:=(aN h).2
 omega
theorem CQ {a:IaD} (h:aJ a=true):(aP a).length≤40:=xY (xB a) (rP h)
theorem zI {kept:List Int} {y:Int} (h0:0≤y) (hm:y∈kept):kP kept kept.length y.toNat=placeOf kept y:=by
 have e:((y.toNat:Nat):Int)=y:=by omega
 unfold kP placeOf
 rw [e,List.take_length,if_pos hm,if_pos hm]
theorem vF {L:List Int} {x:Int}:0≤placeOf L x↔x∈L:=by
 unfold placeOf
 split
 ·rename_i h
  simp [h]
 ·rename_i h
  simp [h]
theorem GI {a:IaD} (h:aJ a=true):dU (aP a) (kP (aP a) (aP a).length) a.steps=(bK a (aP a)).steps:=by
 have key:∀ ss:List St,(∀ x∈ss,x∈a.steps)→dU (aP a) (kP (aP a) (aP a).length) ss=(ss.map fun x=>(placeOf (aP a) x.1,x.2.1,placeOf (aP a) x.2.2)).filter fun x=>decide (0≤x.1)&&decide (0≤x.2.2):=by
  intro ss
  induction ss with
  | nil=>intro _;rfl
  | cons x r ih =>
   intro hs
   have ihr:=ih (fun y hy=>hs y (List.mem_cons_of_mem _ hy))
   have hx:=hs x (List.mem_cons_self ..)
   unfold dU at ihr ⊢
   rw [List.map_cons,List.filter_cons,List.filter_cons]
   by_cases hf:x.1∈aP a
   ·have ht:=DV h hx hf
    rw [if_pos (iG.2 hf),if_pos (by simp [vF,hf,ht]),List.map_cons,ihr]
    rw [zI (rP h _ hf).1 hf,zI (rP h _ ht).1 ht]
   ·rw [if_neg (by rw [iG];exact hf),if_neg (by simp [vF,hf]),ihr]
 exact key a.steps (fun _ h=>h)
theorem GK {a:IaD} (h:aJ a=true):(⟨((aP a).length:Int),kP (aP a) (aP a).length a.init.toNat,a.ins,a.outs,a.ah,dU (aP a) (kP (aP a) (aP a).length) a.steps⟩:IaD)=dG a:=by
 unfold dG
 rw [if_pos h,GI h,zI (gV h).1 (DU a)]
 rfl
end Go.Proofs.YtnglogkkkpegnaaGreat
