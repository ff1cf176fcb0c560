import Derived.Test.YtnglogkkkpegnaaGreatIaDef
import Derived.Test.YtnglogkkkpegnaaGreatRisen
namespace Go.Proofs.YtnglogkkkpegnaaGreat
open Go.RowKit
inductive iw (set:List Int) (ss:List St) (L:List Int):Int→Prop
 | start (x:Int) (h:x∈L):iw set ss L x
 | step (s:St) (h:s∈ss) (hp:hasB set s.2.1=true) (hc:iw set ss L s.1):iw set ss L s.2.2
theorem iG {xs:List Int} {x:Int}:hasB xs x=true↔x∈xs:=by simp [hasB]
theorem jB (set:List Int) (x:St) (r:List St) (out:List Int):dh set (x :: r) out=dh set r (if hasB set x.2.1&&hasB out x.1 then put out x.2.2 else out):=rfl
theorem Fh (set:List Int) (x:St) (r:List St) (out:List Int):dh set (r++[x]) out=(if hasB set x.2.1&&hasB (dh set r out) x.1 then put (dh set r out) x.2.2 else dh set r out):=by simp [dh]
theorem jJ {set:List Int} {ss:List St} {out:List Int} (h:out.Pairwise (·<·)):(dh set ss out).Pairwise (·<·):=by
 induction ss generalizing out with
 | nil=>exact h
 | cons x r ih =>
  rw [jB]
  refine ih ?_
  split
  ·exact Cb h
  ·exact h
theorem nJ {set:List Int} {ss:List St} {out:List Int} {y:Int} (h:y∈out):y∈dh set ss out:=by
 induction ss generalizing out with
 | nil=>exact h
 | cons x r ih =>
  rw [jB]
  refine ih ?_
  split
  ·exact nH.2 (Or.inr h)
  ·exact h
theorem oO {set:List Int} {ss ss':List St} {out L:List Int} (hs:∀ s∈ss,s∈ss') (h:∀ y∈out,iw set ss' L y):∀ y∈dh set ss out,iw set ss' L y:=by
 induction ss generalizing out with
 | nil=>exact h
 | cons x r ih =>
  rw [jB]
  refine ih (fun s hm=>hs s (List.mem_cons_of_mem _ hm)) ?_
  intro y hy
  split at hy
  ·rename_i hc
   rw [Bool.and_eq_true] at hc
   rcases nH.1 hy with rfl|hy
   ·exact .step x (hs x (List.mem_cons_self ..)) hc.1 (h _ (iG.1 hc.2))
   ·exact h y hy
  ·exact h y hy
theorem C9 {set:List Int} {ss:List St} {out:List Int} (h:∀ y∈dh set ss out,y∈out):∀ s∈ss,hasB set s.2.1=true→s.1∈out→s.2.2∈out:=by
 induction ss with
 | nil=>intro s hs;simp at hs
 | cons x r ih =>
  intro s hs hp hm
  rw [jB] at h
  by_cases hc:(hasB set x.2.1&&hasB out x.1)=true
  ·rw [if_pos hc] at h
   have hx:x.2.2∈out:=h _ (nJ (nH.2 (Or.inl rfl)))
   rcases List.mem_cons.1 hs with rfl|hs
   ·exact hx
   ·have e:∀ y∈dh set r out,y∈out:=by
     intro y hy
     refine h y ?_
     have mono:∀ (r:List St) (o o':List Int),(∀ z∈o,z∈o')→∀ z∈dh set r o,z∈dh set r o':=by
      intro r
      induction r with
      | nil=>intro o o' ho;exact ho
      | cons x r ih =>
       intro o o' ho
       rw [jB,jB]
       refine ih _ _ ?_
       intro z hz
       split at hz
       ·rename_i h1
        rw [Bool.and_eq_true] at h1
        rw [if_pos (by rw [h1.1,iG.2 (ho _ (iG.1 h1.2))];rfl)]
        rcases nH.1 hz with rfl|hz
        ·exact nH.2 (Or.inl rfl)
        ·exact nH.2 (Or.inr (ho z hz))
       ·split
        ·exact nH.2 (Or.inr (ho z hz))
        ·exact ho z hz
     exact mono r out _ (fun z hz=>nH.2 (Or.inr hz)) y hy
    exact ih e s hs hp hm
  ·rw [if_neg hc] at h
   rcases List.mem_cons.1 hs with rfl|hs
   ·exact absurd (by rw [hp,iG.2 hm];rfl) hc
   ·exact ih h s hs hp hm
theorem yU {set:List Int} {ss:List St} {out L:List Int} (hL:∀ x∈L,x∈out) (hc:∀ s∈ss,hasB set s.2.1=true→s.1∈out→s.2.2∈out) {x:Int} (h:iw set ss L x):x∈out:=by
 induction h with
 | start x h=>exact hL x h
 | step s h hp _ ih=>exact hc s h hp ih
theorem xR {xs ys:List Int} (hx:xs.Pairwise (·<·)) (h:∀ x∈xs,x∈ys):xs.length≤ys.length:=by
 have hn:xs.Nodup:=hx.imp (fun h e=>by omega)
 exact hn.length_le_of_subset h
theorem Gx {xs ys:List Int} (hx:xs.Pairwise (·<·)) (hy:ys.Pairwise (·<·)) (h:∀ x∈xs,x∈ys) (hl:ys.length=xs.length):ys=xs:=by
 have hn:xs.Nodup:=hx.imp (fun h e=>by omega)
 refine (vS hx hy (fun x=>⟨h x,fun hxy=>?_⟩)).symm
 by_cases hm:x∈xs
 ·exact hm
 ·have h2:(x :: xs).Nodup:=List.nodup_cons.2 ⟨hm,hn⟩
  have h3:=h2.length_le_of_subset (l₂:=ys) (fun z hz=>by
   rcases List.mem_cons.1 hz with rfl|hz
   ·exact hxy
   ·exact h z hz)
  simp at h3
  omega
theorem wM {set:List Int} {ss:List St} {out:List Int} (h:out.Pairwise (·<·)):out.length≤(dh set ss out).length:=xR h (fun _ hx=>nJ hx)
theorem rM {set:List Int} {ss:List St} {out:List Int} (h:out.Pairwise (·<·)) (hl:(dh set ss out).length=out.length):dh set ss out=out:=Gx h (jJ h) (fun _ hx=>nJ hx) hl
theorem zA {set:List Int} {ss:List St} {out L:List Int} (h:out.Pairwise (·<·)) (hL:∀ x∈L,x∈out) (hc:∀ y∈out,iw set ss L y) (hl:(dh set ss out).length=out.length):∀ x,x∈out↔iw set ss L x:=by
 intro x
 refine ⟨hc x,fun hx=>yU hL (C9 ?_) hx⟩
 rw [rM h hl];exact fun _ h=>h
theorem Gy {set:List Int} {ss:List St} {L:List Int} {x:Int} (h:iw set ss L x):x∈L++ss.map (fun s=>s.2.2):=by
 cases h with
 | start x h=>exact List.mem_append_left _ h
 | step s h hp hc=>exact List.mem_append_right _ (List.mem_map.2 ⟨s,h,rfl⟩)
theorem qf {set:List Int} {ss:List St} {out L:List Int} (h:out.Pairwise (·<·)) (hc:∀ y∈out,iw set ss L y):out.length≤L.length+ss.length:=by
 have:=xR (ys:=L++ss.map (fun s=>s.2.2)) h (fun x hx=>Gy (hc x hx))
 simpa using this
theorem Gz {set:List Int} {ss:List St} {L:List Int} (n:Nat) (out:List Int) (h:out.Pairwise (·<·)) (hL:∀ x∈L,x∈out) (hc:∀ y∈out,iw set ss L y) (hn:L.length+ss.length<n+out.length) :
  (alongN set ss n out).Pairwise (·<·)∧∀ x,x∈alongN set ss n out↔iw set ss L x:=by
 induction n generalizing out with
 | zero =>
  have:=qf h hc
  omega
 | succ n ih =>
  rw [alongN]
  split
  ·rename_i hl
   rw [rM h hl]
   exact ⟨h,zA h hL hc hl⟩
  ·rename_i hl
   have hge:=wM (set:=set) (ss:=ss) h
   refine ih _ (jJ h) (fun x hx=>nJ (hL x hx)) (oO (fun _ h=>h) hc) (by omega)
theorem iM (set:List Int) (ss:List St) (L:List Int):(kK set ss L).Pairwise (·<·)∧∀ x,x∈kK set ss L↔iw set ss L x :=
 Gz _ _ (bJ List.Pairwise.nil) (fun x hx=>gB.2 (Or.inr hx)) (fun y hy=>by
  rcases gB.1 hy with hy|hy
  ·simp at hy
  ·exact .start y hy) (by omega)
theorem zB {set:List Int} {ss:List St} {L out:List Int} (h:out.Pairwise (·<·)) (hm:∀ x,x∈out↔iw set ss L x):out=kK set ss L :=
 vS h (iM set ss L).1 (fun x=>(hm x).trans ((iM set ss L).2 x).symm)
end Go.Proofs.YtnglogkkkpegnaaGreat
