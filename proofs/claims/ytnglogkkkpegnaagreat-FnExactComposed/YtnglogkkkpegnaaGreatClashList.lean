import Derived.Test.YtnglogkkkpegnaaGreatClashMath
import Derived.Test.YtnglogkkkpegnaaGreatPairMap
import Derived.Test.YtnglogkkkpegnaaGreatShared
set_option maxHeartbeats 6400000
set_option maxRecDepth 20000
namespace Go.Proofs.YtnglogkkkpegnaaGreat
open Go.RowKit
theorem iC {x:Int} (h0:0≤x) (h1:x≤1600):(Lit.int .i64 x).wf=true:=WalkArith.wf_i64 (by omega)
theorem mX {p st:Int} (hp:0≤p∧p≤40) (h0:0≤st∧st≤40):0≤p*st∧p*st≤1600:=by
 have h1:p*st≤40*40:=Int.mul_le_mul (by omega) (by omega) (by omega) (by omega)
 have h2:0≤p*st:=Int.mul_nonneg (by omega) (by omega)
 omega
theorem vG (su iu:Int) (u2 u3 u4 u5:Value) (p q:Int) (w:World) (h0:0≤su∧su≤40) (hp:0≤p∧p≤40) (hq:0≤q∧q≤40) :
  Calls Tryz.prog 66 #[.agg #[.int .i64 su,.int .i64 iu,u2,u3,u4,u5],.agg #[.int .i64 p,.int .i64 q]] w fun e w'=>e=.returned (.int .i64 (fJ su (p,q)))∧Below w.heap.size w w':=by
 have B0:Hid (∀ o p,Below w.heap.size w ((w.alloc o).alloc p)):=fun o p=>((Below.refl _ _).alloc (Nat.le_refl _) _).alloc (by simp) _
 have hm:=mX hp h0
 go_enter Tryz.func66,Tryz.ntmps66
 go_wp2_with fail
 go_ret
 exact ⟨rfl,B0.out _ _⟩
theorem zK (st it:Int) (v2 v3 v4 v5:Value) (su iu:Int) (u2 u3 u4 u5:Value) (M n:Nat) (S:Int→Int→Bool) (w:World) (hM:eQ w M n S) (h0:0≤st∧st≤40) (h1:0≤su∧su≤40) :
  Calls Tryz.prog 123 #[.agg #[.int .i64 st,.int .i64 it,v2,v3,v4,v5],.agg #[.int .i64 su,.int .i64 iu,u2,u3,u4,u5],.map (some M)] w fun e w'=>∃ v',e=.returned v'∧OwnsP w' w.heap.size v' (dR S su.toNat st.toNat).length (dR S su.toNat st.toNat)∧Below w.heap.size w w':=by
 have HM:=Lib.hid hM
 clear hM
 obtain ⟨nA,hnA⟩:∃ n,n=st.toNat:=⟨_,rfl⟩
 obtain ⟨nB,hnB⟩:∃ n,n=su.toNat:=⟨_,rfl⟩
 rw [← hnA,← hnB]
 have DY:nA≤40:=by omega
 have Bv:nB≤40:=by omega
 have HNA:=Lib.hid hnA
 have HNB:=Lib.hid hnB
 clear hnA hnB
 have S0:=Lib.hid (aI.start w #[.int .i64 st,.int .i64 it,v2,v3,v4,v5] #[.int .i64 su,.int .i64 iu,u2,u3,u4,u5] 27)
 have hsz0:((w.alloc (.cells #[.int .i64 st,.int .i64 it,v2,v3,v4,v5] 27)).alloc (.cells #[.int .i64 su,.int .i64 iu,u2,u3,u4,u5] 27)).heap.size=w.heap.size+2:=by simp
 have HSZ:=Lib.hid hsz0
 have RB0:Hid (Below (w.heap.size+2) ((w.alloc (.cells #[.int .i64 st,.int .i64 it,v2,v3,v4,v5] 27)).alloc (.cells #[.int .i64 su,.int .i64 iu,u2,u3,u4,u5] 27)) ((w.alloc (.cells #[.int .i64 st,.int .i64 it,v2,v3,v4,v5] 27)).alloc (.cells #[.int .i64 su,.int .i64 iu,u2,u3,u4,u5] 27))):=by unfold Hid;rw [← HSZ.out];exact Below.refl _ _
 have HBX:Hid (∀ W,Below (w.heap.size+2) ((w.alloc (.cells #[.int .i64 st,.int .i64 it,v2,v3,v4,v5] 27)).alloc (.cells #[.int .i64 su,.int .i64 iu,u2,u3,u4,u5] 27)) W→Below w.heap.size w W∧ae W w.heap.size #[.int .i64 st,.int .i64 it,v2,v3,v4,v5] 27∧ae W (w.heap.size+1) #[.int .i64 su,.int .i64 iu,u2,u3,u4,u5] 27):=fun W hW=>by
  rw [← HSZ.out] at hW
  exact S0.out.below hW
 clear hsz0
 have ca0:=S0.out.2.1.cell (j:=0) (u:=.int .i64 st) rfl
 go_enter Tryz.func123,Tryz.ntmps123
 go_wp2_with fail
 clear ca0
 go_loopw [7,13] (fun pv iv wr=>∃ (k len:Nat) (v0:Value),k≤nA∧v0=pv∧iv=.int .i64 (k:Int)∧Hid (OwnsP wr (w.heap.size+2) v0 len (dR S nB k))∧Hid (Below (w.heap.size+2) ((w.alloc (.cells #[.int .i64 st,.int .i64 it,v2,v3,v4,v5] 27)).alloc (.cells #[.int .i64 su,.int .i64 iu,u2,u3,u4,u5] 27)) wr)) (fun _ iv _=>nA - (intOf iv).toNat)
 case atStart=>exact ⟨0,0,_,Nat.zero_le _,rfl,rfl,World.ownsRow_nil _ _ _ _,RB0.out⟩
 case round =>
  clear RB0
  obtain ⟨k,len,v0,hk,rfl,rfl,HO,HB⟩:=hrel
  by_cases hlt:(k:Int)<st
  ·have hkn:k<nA:=by have h1:=HNA.out;omega
   have cb0:=(HBX.out _ HB.out).2.2.cell (j:=0) (u:=.int .i64 su) rfl
   go_wp2_with fail
   clear cb0
   go_loopw [7,18] (fun pv jv wr=>∃ (j len:Nat) (v0:Value),j≤nB∧v0=pv∧jv=.int .i64 (j:Int)∧Hid (OwnsP wr (w.heap.size+2) v0 len (dR S nB k++rowP S k j))∧Hid (Below (w.heap.size+2) ((w.alloc (.cells #[.int .i64 st,.int .i64 it,v2,v3,v4,v5] 27)).alloc (.cells #[.int .i64 su,.int .i64 iu,u2,u3,u4,u5] 27)) wr)) (fun _ jv _=>nB - (intOf jv).toNat)
   case atStart=>exact ⟨0,len,_,Nat.zero_le _,rfl,rfl,by unfold Hid;simp only [rowP,List.append_nil];exact HO.out,HB.out⟩
   case round =>
    clear HO HB
    obtain ⟨j,len,v0,hj,rfl,rfl,HO,HB⟩:=hrel
    by_cases wU:(j:Int)<su
    ·have hjn:j<nB:=by have h1:=HNB.out;omega
     have hk40:(k:Int)≤1600:=by omega
     have DZ:(j:Int)≤1600:=by omega
     have wfk:=iC (x:=(k:Int)) (by omega) hk40
     have wfj:=iC (x:=(j:Int)) (by omega) DZ
     have hsw:w.heap.size+2≤wr.heap.size:=by have h1:=HB.out.size;have h2:=HSZ.out;omega
     have B1:Hid (Below (w.heap.size+2) ((w.alloc (.cells #[.int .i64 st,.int .i64 it,v2,v3,v4,v5] 27)).alloc (.cells #[.int .i64 su,.int .i64 iu,u2,u3,u4,u5] 27)) (wr.alloc (.cells #[.int .i64 (k:Int),.int .i64 (j:Int)] 84))):=HB.out.alloc hsw _
     have hlk:=((HM.out.below (HBX.out _ HB.out).1).alloc (.cells #[.int .i64 (k:Int),.int .i64 (j:Int)] 84)).look (p:=(k:Int)) (q:=(j:Int)) wfk wfj
     have X1:=ae.new wr #[.int .i64 (k:Int),.int .i64 (j:Int)] 84 rfl
     have x0:=X1.cell (j:=0) (u:=.int .i64 (k:Int)) rfl
     have x1:=X1.cell (j:=1) (u:=.int .i64 (j:Int)) rfl
     clear X1 wfk wfj
     obtain ⟨q,hq⟩:∃ q,q=S (k:Int) (j:Int):=⟨_,rfl⟩
     rw [← hq] at hlk
     have HQ:=Lib.hid hq
     clear hq
     cases q with
     | true =>
      have HR:Hid (dR S nB k++rowP S k (j+1)=(dR S nB k++rowP S k j)++[((k:Int),(j:Int))]):=by
       unfold Hid
       show _++(rowP S k j++_)=_
       rw [← HQ.out,List.append_assoc]
       rfl
      have hlen:len≤1000000:=by
       have h1:=HO.out.length
       have h2:=uA S nB k
       have h3:=wQ S k j
       have h4:k*nB≤40*40:=Nat.mul_le_mul (by omega) (by omega)
       rw [List.length_append] at h1
       omega
      have T1:=(HO.out.alloc (.cells #[.int .i64 (k:Int),.int .i64 (j:Int)] 84)).alloc (.cells #[.int .i64 (k:Int),.int .i64 (j:Int)] 84)
      have BT:Hid (Below (w.heap.size+2) ((w.alloc (.cells #[.int .i64 st,.int .i64 it,v2,v3,v4,v5] 27)).alloc (.cells #[.int .i64 su,.int .i64 iu,u2,u3,u4,u5] 27)) ((wr.alloc (.cells #[.int .i64 (k:Int),.int .i64 (j:Int)] 84)).alloc (.cells #[.int .i64 (k:Int),.int .i64 (j:Int)] 84))):=B1.out.alloc (by simp;omega) _
      have SP:Du ((wr.alloc (.cells #[.int .i64 (k:Int),.int .i64 (j:Int)] 84)).alloc (.cells #[.int .i64 (k:Int),.int .i64 (j:Int)] 84)) ⟨wr.heap.size+1,0,none⟩ ((k:Int),(j:Int)):=by simpa using zt (w:=wr.alloc (.cells #[.int .i64 (k:Int),.int .i64 (j:Int)] 84)) (t:=84) (p:=(k:Int)) (q:=(j:Int))
      go_wp2_with (at_builtin;refine yR rfl (.tmp 27) (.tmp 29) rfl (w.heap.size+2) _ len _ rfl T1 _ 1 ((k:Int),(j:Int)) rfl SP (by omega) (by simp;omega) ?_)
      intro vz w2 hown hgrow
      have B2:Hid (Below (w.heap.size+2) ((w.alloc (.cells #[.int .i64 st,.int .i64 it,v2,v3,v4,v5] 27)).alloc (.cells #[.int .i64 su,.int .i64 iu,u2,u3,u4,u5] 27)) w2):=BT.out.grown hgrow (by simp;omega) (fun q hq=>(T1.lt q hq).1)
      have O2:Hid (OwnsP w2 (w.heap.size+2) vz (len+1) (dR S nB k++rowP S k (j+1))):=by unfold Hid;rw [HR.out,List.append_assoc];exact hown
      clear hown hgrow T1 SP BT B1 hlk x0 x1
      go_wp2_with fail
      go_roundw
      case rel=>exact ⟨j+1,len+1,vz,by omega,rfl,by go_num,O2.out,B2.out⟩
      case measure=>simp [intOf];omega
     | false =>
      have HR:Hid (dR S nB k++rowP S k (j+1)=(dR S nB k++rowP S k j)):=by
       unfold Hid
       show _++(rowP S k j++_)=_
       rw [← HQ.out]
       simp
      have O2:Hid (OwnsP (wr.alloc (.cells #[.int .i64 (k:Int),.int .i64 (j:Int)] 84)) (w.heap.size+2) v0 len (dR S nB k++rowP S k (j+1))):=by rw [HR.out];exact HO.out.alloc _
      go_wp2_with fail
      go_roundw
      case rel=>exact ⟨j+1,len,v0,by omega,rfl,by go_num,O2.out,B1.out⟩
      case measure=>simp [intOf];omega
    ·obtain rfl:j=nB:=by have h1:=HNB.out;omega
     go_wp2_with fail
     go_roundw
     case rel=>exact ⟨k+1,len,v0,by omega,rfl,by go_num,HO.out,HB.out⟩
     case measure=>simp [intOf];omega
  ·obtain rfl:k=nA:=by have h1:=HNA.out;omega
   have e:=HO.out.length
   subst e
   obtain ⟨av,cv,rfl⟩:=HO.out.form
   go_wp2_with fail
   go_ret
   exact ⟨_,rfl,HO.out.mono (by omega),(HBX.out _ HB.out).1⟩
end Go.Proofs.YtnglogkkkpegnaaGreat
