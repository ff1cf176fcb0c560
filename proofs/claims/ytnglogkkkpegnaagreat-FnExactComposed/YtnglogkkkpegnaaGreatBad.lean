import Derived.Test.YtnglogkkkpegnaaGreatPairIdx
import Derived.Test.YtnglogkkkpegnaaGreatFast
import Derived.Test.YtnglogkkkpegnaaGreatProdSorted
import Derived.Test.YtnglogkkkpegnaaGreatRowOf
import Derived.Test.YtnglogkkkpegnaaGreatSpecHas
import Derived.Test.YtnglogkkkpegnaaGreatTrimMath
set_option maxHeartbeats 12800000
set_option maxRecDepth 20000
namespace Go.Proofs.YtnglogkkkpegnaaGreat
open Go.RowKit
def iY (w W:World) (A B C:Array Value) (p:Nat) (t:IaD):Prop :=
 aI w W w.heap.size (w.heap.size+1) 27 A B∧ae W p C 27∧bM W w.heap.size t (.agg C)
theorem iY.below {w W W':World} {A B C:Array Value} {p:Nat} {t:IaD} (h:iY w W A B C p t) (hb:Below W.heap.size W W'):iY w W' A B C p t:=⟨h.1.below hb,h.2.1.below hb,h.2.2.below hb⟩
theorem iY.drew {w W:World} {A B C:Array Value} {p:Nat} {t:IaD} (h:iY w W A B C p t):iY w W.drew A B C p t:=⟨h.1.drew,h.2.1,h.2.2.below (Below.refl _ _).drew⟩
theorem aB.parts {W:World} {st it:Int} {a2:Option Addr} {n2 c2:Nat} {a3:Option Addr} {n3 c3:Nat} {a4:Option Addr} {n4 c4:Nat} {a5:Option Addr} {n5 c5:Nat} {ins outs ah:List Int} {steps:List St} (h:aB W ⟨st,it,ins,outs,ah,steps⟩ (.agg #[.int .i64 st,.int .i64 it,.slice a2 n2 c2,.slice a3 n3 c3,.slice a4 n4 c4,.slice a5 n5 c5])):Row W a2 n2 ins∧Row W a3 n3 outs∧Row W a4 n4 ah∧eP W a5 n5 steps:=by
 obtain ⟨b2,m2,d2,b3,m3,d3,b4,m4,d4,b5,m5,d5,e,h2,h3,h4,h5⟩:=h
 simp only [Value.agg.injEq,Array.mk.injEq,List.cons.injEq,Value.slice.injEq,and_true,true_and] at e
 obtain ⟨⟨rfl,rfl,rfl⟩,⟨rfl,rfl,rfl⟩,⟨rfl,rfl,rfl⟩,rfl,rfl,rfl⟩:=e
 exact ⟨h2,h3,h4,h5⟩
theorem xC {a b:IaD}:(iy a b).length≤1600:=by
 unfold iy
 split
 ·rename_i hf
  obtain ⟨oka,okb,_⟩:=iQ hf
  have sA:=aN oka
  have sB:=aN okb
  rw [List.length_map]
  have h1:=uA (iV a b) b.states.toNat a.states.toNat
  have h2:a.states.toNat*b.states.toNat≤40*40:=Nat.mul_le_mul (by omega) (by omega)
  omega
 ·simp
theorem EP (a b:IaD):(iy a b).Pairwise (·<·):=by
 unfold iy
 split
 ·rename_i hf
  obtain ⟨oka,okb,_⟩:=iQ hf
  have sB:=aN okb
  exact Be (by omega) _
 ·exact List.Pairwise.nil
theorem Cm (a b:IaD):(gq a b).length≤2000:=by
 unfold gq
 split
 ·rename_i hp
  have h:=iM [0] (jh (aQ a b).ins (aQ a b).steps) (iy a b)
  have h1:=qf h.1 (fun y hy=>(h.2 y).1 hy)
  have h2:(jh (aQ a b).ins (aQ a b).steps).length≤(aQ a b).steps.length:=by
   unfold jh
   rw [List.length_map]
   exact List.length_filter_le _ _
  have h3:=dD (pY hp)
  have h4:=xC (a:=a) (b:=b)
  omega
 ·simp
theorem zk (a b:IaD) (v u:Value) (w:World) (h:aB w a v) (k:aB w b u) (fa:Small a) (fb:Small b) :
  Calls Tryz.prog 22 #[v,u] w (dE w w.heap.size (gq a b)):=by
 obtain ⟨q,hq⟩:∃ q,q=fQ a b:=⟨_,rfl⟩
 obtain ⟨⟨tst,tit,ay,ak,au,ai⟩,hT⟩:∃ t,t=gI a b:=⟨_,rfl⟩
 obtain ⟨x2,x3,x4,x5⟩:=qK fa fb
 rw [← hT] at x2 x3 x4 x5
 simp only at x2 x3 x4 x5
 have CPr:Hid (∀ W,Below w.heap.size w W→Calls Tryz.prog 55 #[v,u] W fun e w'=>∃ (xa2:Option Addr) (xc2:Nat) (xa3:Option Addr) (xc3:Nat) (xa4:Option Addr) (xc4:Nat) (xa5:Option Addr) (xc5:Nat),e=.returned (.tuple #[.agg #[.int .i64 tst,.int .i64 tit,.slice xa2 ay.length xc2,.slice xa3 ak.length xc3,.slice xa4 au.length xc4,.slice xa5 ai.length xc5],.bool q])∧bM w' W.heap.size ⟨tst,tit,ay,ak,au,ai⟩ (.agg #[.int .i64 tst,.int .i64 tit,.slice xa2 ay.length xc2,.slice xa3 ak.length xc3,.slice xa4 au.length xc4,.slice xa5 ai.length xc5])∧Below W.heap.size W w'):=fun W hW=>by
  rw [hq,hT]
  refine (uS a b v u W (h.below hW) (k.below hW) fa fb).mono fun e w' ⟨v',he,ho,hb⟩=>?_
  rw [← hT] at ho ⊢
  obtain ⟨_,_,_,_,_,_,_,_,rfl,_⟩:=ho.rowOf
  exact ⟨_,_,_,_,_,_,_,_,he,ho,hb⟩
 have HT:Hid (q=true→⟨tst,tit,ay,ak,au,ai⟩=aQ a b):=fun e=>by
  rw [hT]
  unfold gI
  rw [if_pos (by rw [← hq];exact e)]
 have HQ:=Lib.hid hq
 obtain ⟨L,hL⟩:∃ l,l=gq a b:=⟨_,rfl⟩
 rw [← hL]
 have HL:=Lib.hid hL
 clear hL
 obtain ⟨CL,hCL⟩:∃ l,l=iy a b:=⟨_,rfl⟩
 have hcl:CL.length≤1600:=by rw [hCL];exact xC
 have HC0:Hid (CL.Pairwise (·<·)):=by rw [hCL];exact EP a b
 have HCL:=Lib.hid hCL
 clear hCL
 clear hq hT
 obtain ⟨a2,n2,c2,a3,n3,c3,a4,n4,c4,a5,n5,c5,rfl,r2,r3,r4,r5⟩:=h
 obtain ⟨b2,m2,d2,b3,m3,d3,b4,m4,d4,b5,m5,d5,rfl,q2,q3,q4,q5⟩:=k
 obtain ⟨st,it,ins,outs,ah,steps⟩:=a
 obtain ⟨su,iu,jns,aF,aG,ax⟩:=b
 obtain ⟨f2,f3,f4,f5⟩:=fa
 obtain ⟨g2,g3,g4,g5⟩:=fb
 simp only at r2 r3 r4 r5 q2 q3 q4 q5 f2 f3 f4 f5 g2 g3 g4 g5
 have HA:Hid (∀ W,Below w.heap.size w W→aB W ⟨st,it,ins,outs,ah,steps⟩ (.agg #[.int .i64 st,.int .i64 it,.slice a2 n2 c2,.slice a3 n3 c3,.slice a4 n4 c4,.slice a5 n5 c5])):=fun W hW=>aB.below ⟨a2,n2,c2,a3,n3,c3,a4,n4,c4,a5,n5,c5,rfl,r2,r3,r4,r5⟩ hW
 have HB:Hid (∀ W,Below w.heap.size w W→aB W ⟨su,iu,jns,aF,aG,ax⟩ (.agg #[.int .i64 su,.int .i64 iu,.slice b2 m2 d2,.slice b3 m3 d3,.slice b4 m4 d4,.slice b5 m5 d5])):=fun W hW=>aB.below ⟨b2,m2,d2,b3,m3,d3,b4,m4,d4,b5,m5,d5,rfl,q2,q3,q4,q5⟩ hW
 have S0:=Lib.hid (aI.start w (iaC st it a2 n2 c2 a3 n3 c3 a4 n4 c4 a5 n5 c5) (iaC su iu b2 m2 d2 b3 m3 d3 b4 m4 d4 b5 m5 d5) 27)
 have FSA:Hid (Small ⟨st,it,ins,outs,ah,steps⟩):=⟨f2,f3,f4,f5⟩
 have FSB:Hid (Small ⟨su,iu,jns,aF,aG,ax⟩):=⟨g2,g3,g4,g5⟩
 clear r2 r3 r4 r5 q2 q3 q4 q5 f2 f3 f4 f5 g2 g3 g4 g5
 have CC:Hid (∀ W,Below w.heap.size w W→Calls Tryz.prog 56 #[.agg #[.int .i64 st,.int .i64 it,.slice a2 n2 c2,.slice a3 n3 c3,.slice a4 n4 c4,.slice a5 n5 c5],.agg #[.int .i64 su,.int .i64 iu,.slice b2 m2 d2,.slice b3 m3 d3,.slice b4 m4 d4,.slice b5 m5 d5]] W (dE W W.heap.size CL)):=fun W hW=>by
  rw [HCL.out]
  exact Aq ⟨st,it,ins,outs,ah,steps⟩ ⟨su,iu,jns,aF,aG,ax⟩ _ _ W (HA.out W hW) (HB.out W hW) FSA.out FSB.out
 obtain ⟨ca0,ca1,ca2,ca3,ca4,ca5⟩:=S0.out.2.1.aO
 obtain ⟨cb0,cb1,cb2,cb3,cb4,cb5⟩:=S0.out.2.2.aO
 go_enter Tryz.func22,Tryz.ntmps22
 go_wp2_with fail
 clear ca0 ca1 ca2 ca3 ca4 ca5 cb0 cb1 cb2 cb3 cb4 cb5
 refine (CPr.out _ S0.out.1).mono ?_
 rintro e w4 ⟨xa2,xc2,xa3,xc3,xa4,xc4,xa5,xc5,rfl,hT4,hb⟩
 have bx:=(Below.refl w4.heap.size w4).alloc (Nat.le_refl _) (.cells #[.int .i64 tst,.int .i64 tit,.slice xa2 ay.length xc2,.slice xa3 ak.length xc3,.slice xa4 au.length xc4,.slice xa5 ai.length xc5] 27)
 have S4:=S0.out.below hb
 have S5:Hid (iY w (w4.alloc (.cells #[.int .i64 tst,.int .i64 tit,.slice xa2 ay.length xc2,.slice xa3 ak.length xc3,.slice xa4 au.length xc4,.slice xa5 ai.length xc5] 27)) (iaC st it a2 n2 c2 a3 n3 c3 a4 n4 c4 a5 n5 c5) (iaC su iu b2 m2 d2 b3 m3 d3 b4 m4 d4 b5 m5 d5) (iaC tst tit xa2 ay.length xc2 xa3 ak.length xc3 xa4 au.length xc4 xa5 ai.length xc5) w4.heap.size ⟨tst,tit,ay,ak,au,ai⟩):=⟨S4.below bx,ae.new w4 #[.int .i64 tst,.int .i64 tit,.slice xa2 ay.length xc2,.slice xa3 ak.length xc3,.slice xa4 au.length xc4,.slice xa5 ai.length xc5] 27 rfl,(hT4.mono S0.out.1.size).below bx⟩
 clear hb hT4 bx S4 S0 CPr
 cases q with
 | false =>
  have HL0:Hid (L=[]):=by
   rw [HL.out]
   unfold gq
   rw [← HQ.out]
   rfl
  go_wp2_with fail
  go_ret
  rw [HL0.out]
  have ho:aj ((w4.alloc (.cells #[.int .i64 tst,.int .i64 tit,.slice xa2 ay.length xc2,.slice xa3 ak.length xc3,.slice xa4 au.length xc4,.slice xa5 ai.length xc5] 27)).alloc (.cells #[] 3)) w.heap.size (.slice (some ⟨w4.heap.size+1,0,none⟩) 0 0) 0 []:=by
   have h0:=(ed (w4.alloc (.cells #[.int .i64 tst,.int .i64 tit,.slice xa2 ay.length xc2,.slice xa3 ak.length xc3,.slice xa4 au.length xc4,.slice xa5 ai.length xc5] 27)) [] 0 rfl (by unfold maxLen;omega)).mono S5.out.1.1.size
   simpa using h0
  exact ⟨_,_,rfl,ho,S5.out.1.1.alloc S5.out.1.1.size _⟩
 | true =>
  have hp:fQ ⟨st,it,ins,outs,ah,steps⟩ ⟨su,iu,jns,aF,aG,ax⟩=true:=HQ.out.symm
  have ht:=HT.out rfl
  have hln:=dD (pY hp)
  rw [← ht] at hln
  simp only at hln
  have HLL:Hid (L=kK [0] (jh ay ai) CL):=by
   unfold Hid
   rw [HL.out,HCL.out]
   unfold gq
   rw [if_pos hp,← ht]
  clear HL HCL hp ht HT HQ
  obtain ⟨BS,hBS⟩:∃ l,l=jh ay ai:=⟨_,rfl⟩
  have hbsl:BS.length≤400:=by
   rw [hBS]
   unfold jh
   rw [List.length_map]
   exact Nat.le_trans (List.length_filter_le _ _) hln
  rw [← hBS] at HLL
  have HBS:=Lib.hid hBS
  clear hBS
  have hs5:=S5.out.1.1.size
  obtain ⟨ca0,ca1,ca2,ca3,ca4,ca5⟩:=S5.out.1.2.1.aO
  obtain ⟨cb0,cb1,cb2,cb3,cb4,cb5⟩:=S5.out.1.2.2.aO
  go_wp2_with fail
  clear ca0 ca1 ca2 ca3 ca4 ca5 cb0 cb1 cb2 cb3 cb4 cb5
  refine (CC.out _ S5.out.1.1).mono ?_
  rintro e w6 ⟨g0,c0,rfl,ho,hb⟩
  have S6:=Lib.hid (S5.out.below hb)
  have O6:=Lib.hid (ho.mono hs5)
  clear ho hb S5 CC
  go_wp2_with fail
  go_loopw [7] (fun out wr=>∃ (g e0 len:Nat) (O:List Int),out=.slice (some ⟨g,0,none⟩) len e0∧Hid (aj wr w.heap.size (.slice (some ⟨g,0,none⟩) len e0) len O)∧len≤2000∧Hid (O.Pairwise (·<·)∧(∀ x∈CL,x∈O)∧∀ y∈O,iw [0] BS CL y)∧Hid (iY w wr (iaC st it a2 n2 c2 a3 n3 c3 a4 n4 c4 a5 n5 c5) (iaC su iu b2 m2 d2 b3 m3 d3 b4 m4 d4 b5 m5 d5) (iaC tst tit xa2 ay.length xc2 xa3 ak.length xc3 xa4 au.length xc4 xa5 ai.length xc5) w4.heap.size ⟨tst,tit,ay,ak,au,ai⟩)) (fun out _=>2000 - lenOf out)
  case atStart=>exact ⟨g0,c0,CL.length,CL,rfl,O6.out,by omega,⟨HC0.out,fun x hx=>hx,fun y hy=>.start y hy⟩,S6.out⟩
  case round =>
   clear O6 S6
   obtain ⟨g,e0,len,O,rfl,HO,hlen,HI,HS⟩:=hrel
   go_wp2_with fail
   go_loopw [7,9] (fun out i wr=>∃ (k j2 e2 bu:Nat) (O2:List Int),k≤ai.length∧i=.int .i64 k∧out=.slice (some ⟨j2,0,none⟩) bu e2∧Hid (aj wr w.heap.size (.slice (some ⟨j2,0,none⟩) bu e2) bu O2)∧Hid (O2=gQ ay (ai.take k) O)∧Hid (iY w wr (iaC st it a2 n2 c2 a3 n3 c3 a4 n4 c4 a5 n5 c5) (iaC su iu b2 m2 d2 b3 m3 d3 b4 m4 d4 b5 m5 d5) (iaC tst tit xa2 ay.length xc2 xa3 ak.length xc3 xa4 au.length xc4 xa5 ai.length xc5) w4.heap.size ⟨tst,tit,ay,ak,au,ai⟩)) (fun _ i _=>ai.length - (intOf i).toNat)
   case atStart=>exact ⟨0,g,e0,len,O,Nat.zero_le _,rfl,rfl,HO.out,by simp [Hid,gQ],HS.out⟩
   case round =>
    obtain ⟨k,j2,e2,bu,O2,hk,rfl,rfl,HO2,HT,HS2⟩:=hrel
    have hlen2:bu≤2000:=by
     have h0:O2=dh [0] (jh ay (ai.take k)) O:=by rw [HT.out,vM]
     have h1:=jJ (set:=[0]) (ss:=jh ay (ai.take k)) HI.out.1
     have h2:=oO (set:=[0]) (ss:=jh ay (ai.take k)) (ss':=BS) (L:=CL) (fun s hs=>by
      rw [HBS.out]
      unfold jh at hs ⊢
      obtain ⟨y,hy,rfl⟩:=List.mem_map.1 hs
      obtain ⟨h1,h2⟩:=List.mem_filter.1 hy
      exact List.mem_map.2 ⟨y,List.mem_filter.2 ⟨List.mem_of_mem_take h1,h2⟩,rfl⟩) HI.out.2.2
     have h3:=qf h1 h2
     rw [← h0,HO2.out.length] at h3
     omega
    have kb:=HS2.out.2.1.cell (j:=5) (u:=.slice xa5 ai.length xc5) rfl
    by_cases hlt:k<ai.length
    ·have r5:=HS2.out.2.2.yJ.parts.2.2.2
     obtain ⟨b,off,rfl,hbx,hcell⟩:=r5.2 (by omega)
     obtain ⟨⟨xf,xa,xt⟩,hs⟩:∃ t,t=ai[k]:=⟨_,rfl⟩
     obtain ⟨s0,s1,s2⟩:=hcell k ai[k] (List.getElem?_eq_getElem hlt)
     rw [← hs] at s0 s1 s2
     simp only at s0 s1 s2
     obtain ⟨q1,hq1⟩:∃ q,q=hasB ay xa:=⟨_,rfl⟩
     obtain ⟨q2,hq2⟩:∃ q,q=hasB O2 xt:=⟨_,rfl⟩
     have HP:Hid (gQ ay (ai.take (k+1)) O=if !q1&&q2 then put O2 xf else O2):=by
      unfold Hid
      rw [List.take_succ_eq_append_getElem hlt,← hs,Dc,← HT.out,hq1,hq2]
     have bx:Hid (Below wr.heap.size wr (wr.alloc (.cells #[.int .i64 xf,.int .i64 xa,.int .i64 xt] 77))):=(Below.refl _ _).alloc (Nat.le_refl _) _
     have HS3:=Lib.hid (HS2.out.below bx.out)
     have HO3:=Lib.hid (HO2.out.below bx.out)
     have X1:=Lib.hid (ae.new wr #[.int .i64 xf,.int .i64 xa,.int .i64 xt] 77 rfl)
     have C1:Hid (∀ W,iY w W (iaC st it a2 n2 c2 a3 n3 c3 a4 n4 c4 a5 n5 c5) (iaC su iu b2 m2 d2 b3 m3 d3 b4 m4 d4 b5 m5 d5) (iaC tst tit xa2 ay.length xc2 xa3 ak.length xc3 xa4 au.length xc4 (some ⟨b,off,none⟩) ai.length xc5) w4.heap.size ⟨tst,tit,ay,ak,au,ai⟩→Calls Tryz.prog 57 #[.slice xa2 ay.length xc2,.int .i64 xa] W fun e w'=>e=.returned (.bool q1)∧W=w'):=fun W hW=>by
      rw [hq1]
      exact (bz _ _ _ xa ay W hW.2.2.yJ.parts.1 (by omega)).mono fun _ _ h=>⟨h.1,h.2.symm⟩
     have C2:Hid (Calls Tryz.prog 57 #[.slice (some ⟨j2,0,none⟩) bu e2,.int .i64 xt] (wr.alloc (.cells #[.int .i64 xf,.int .i64 xa,.int .i64 xt] 77)) fun e w'=>e=.returned (.bool q2)∧(wr.alloc (.cells #[.int .i64 xf,.int .i64 xa,.int .i64 xt] 77))=w'):=by
      unfold Hid
      rw [hq2]
      exact (bz _ bu e2 xt O2 _ HO3.out.row.2.2.2 (by omega)).mono fun _ _ h=>⟨h.1,h.2.symm⟩
     have y0:=X1.out.cell (j:=0) (u:=.int .i64 xf) rfl
     have y1:=X1.out.cell (j:=1) (u:=.int .i64 xa) rfl
     have y2:=X1.out.cell (j:=2) (u:=.int .i64 xt) rfl
     have kb2:=HS3.out.2.1.cell (j:=2) (u:=.slice xa2 ay.length xc2) rfl
     have hsz3:=HS3.out.1.1.size
     clear hq1 hq2 hs hcell HT r5 HO2 HS2
     go_wp2_with fail
     refine (C1.out _ HS3.out).mono ?_
     rintro e w3 ⟨rfl,rfl⟩
     clear s0 s1 s2 kb
     cases q1 with
     | true =>
      have HP2:Hid (O2=gQ ay (ai.take (k+1)) O):=HP.out.symm
      go_wp2_with fail
      go_roundw
      case rel=>exact ⟨k+1,j2,e2,bu,O2,by omega,by go_num,rfl,HO3.out,HP2.out,HS3.out⟩
      case measure=>simp [intOf];omega
     | false =>
      cases q2 with
      | false =>
       have HP2:Hid (O2=gQ ay (ai.take (k+1)) O):=HP.out.symm
       go_wp2_with fail
       refine C2.out.mono ?_
       rintro e w3 ⟨rfl,rfl⟩
       go_wp2_with fail
       go_roundw
       case rel=>exact ⟨k+1,j2,e2,bu,O2,by omega,by go_num,rfl,HO3.out,HP2.out,HS3.out⟩
       case measure=>simp [intOf];omega
      | true =>
       have HP2:Hid (put O2 xf=gQ ay (ai.take (k+1)) O):=HP.out.symm
       go_wp2_with fail
       refine C2.out.mono ?_
       rintro e w3 ⟨rfl,rfl⟩
       go_wp2_with fail
       refine (put_any j2 bu e2 xf O2 w.heap.size _ HO3.out (by omega) hsz3).mono ?_
       rintro e w3 ⟨g3,e3,rfl,ho,hb3⟩
       have HO4:=Lib.hid ho
       have HS4:=Lib.hid (HS3.out.below hb3)
       clear ho hb3 y0 y1 y2 kb2
       go_wp2_with fail
       go_roundw
       case rel=>exact ⟨k+1,g3,e3,_,put O2 xf,by omega,by go_num,rfl,HO4.out,HP2.out,HS4.out⟩
       case measure=>simp [intOf];omega
    ·have HE:Hid (O2=dh [0] BS O):=by
      have h1:=HT.out
      rw [List.take_of_length_le (by omega)] at h1
      rw [HBS.out,← vM]
      exact h1
     have hge:len≤bu:=by
      have:=wM (set:=[0]) (ss:=BS) HI.out.1
      rw [← HE.out,HO2.out.length,HO.out.length] at this
      exact this
     have HI2:Hid (O2.Pairwise (·<·)∧(∀ x∈CL,x∈O2)∧∀ y∈O2,iw [0] BS CL y):=by
      rw [HE.out]
      exact ⟨jJ HI.out.1,fun x hx=>nJ (HI.out.2.1 x hx),oO (fun _ h=>h) HI.out.2.2⟩
     by_cases heq:bu=len
     ·have HR:Hid (O2=L):=by
       have hl:(dh [0] BS O).length=O.length:=by rw [← HE.out,HO2.out.length,HO.out.length,heq]
       rw [HLL.out,HE.out,rM HI.out.1 hl]
       exact zB HI.out.1 (zA HI.out.1 HI.out.2.1 HI.out.2.2 hl)
      have hd:((bu:Int) == (len:Int))=true:=by simp [heq]
      clear heq
      go_wp2_with fail
      go_ret
      have e:=HO2.out.length
      rw [← HR.out]
      subst e
      exact ⟨_,_,rfl,HO2.out,HS2.out.1.1⟩
     ·have hd:((bu:Int) == (len:Int))=false:=by simp;omega
      go_wp2_with fail
      go_roundw
      case rel=>exact ⟨j2,e2,bu,O2,rfl,HO2.out,hlen2,HI2.out,HS2.out⟩
      case measure=>simp [lenOf];omega
theorem yA (a b:IaD) (v u:Value) (w:World) (h:aB w a v) (k:aB w b u) (fa:Small a) (fb:Small b) :
  Calls Tryz.prog 30 #[v,u] w fun e w'=>e=.returned (.bool (ji a b))∧Below w.heap.size w w':=by
 obtain ⟨q,hq⟩:∃ q,q=fQ a b:=⟨_,rfl⟩
 obtain ⟨⟨tst,tit,ay,ak,au,ai⟩,hT⟩:∃ t,t=gI a b:=⟨_,rfl⟩
 obtain ⟨x2,x3,x4,x5⟩:=qK fa fb
 rw [← hT] at x2 x3 x4 x5
 simp only at x2 x3 x4 x5
 have CPr:Hid (∀ W,Below w.heap.size w W→Calls Tryz.prog 55 #[v,u] W fun e w'=>∃ (xa2:Option Addr) (xc2:Nat) (xa3:Option Addr) (xc3:Nat) (xa4:Option Addr) (xc4:Nat) (xa5:Option Addr) (xc5:Nat),e=.returned (.tuple #[.agg #[.int .i64 tst,.int .i64 tit,.slice xa2 ay.length xc2,.slice xa3 ak.length xc3,.slice xa4 au.length xc4,.slice xa5 ai.length xc5],.bool q])∧bM w' W.heap.size ⟨tst,tit,ay,ak,au,ai⟩ (.agg #[.int .i64 tst,.int .i64 tit,.slice xa2 ay.length xc2,.slice xa3 ak.length xc3,.slice xa4 au.length xc4,.slice xa5 ai.length xc5])∧Below W.heap.size W w'):=fun W hW=>by
  rw [hq,hT]
  refine (uS a b v u W (h.below hW) (k.below hW) fa fb).mono fun e w' ⟨v',he,ho,hb⟩=>?_
  rw [← hT] at ho ⊢
  obtain ⟨_,_,_,_,_,_,_,_,rfl,_⟩:=ho.rowOf
  exact ⟨_,_,_,_,_,_,_,_,he,ho,hb⟩
 have HT:Hid (q=true→⟨tst,tit,ay,ak,au,ai⟩=aQ a b):=fun e=>by
  rw [hT]
  unfold gI
  rw [if_pos (by rw [← hq];exact e)]
 have HQ:=Lib.hid hq
 obtain ⟨r,hr⟩:∃ r,r=ji a b:=⟨_,rfl⟩
 rw [← hr]
 have HR:Hid (r=(q&&!hasB (gq a b) (aQ a b).init)):=by
  unfold Hid
  rw [hr,hq]
  rfl
 clear hr
 obtain ⟨BL,hBL⟩:∃ l,l=gq a b:=⟨_,rfl⟩
 have hbl:BL.length≤2000:=by rw [hBL];exact Cm a b
 rw [← hBL] at HR
 have HBL:=Lib.hid hBL
 clear hBL
 clear hq hT
 obtain ⟨a2,n2,c2,a3,n3,c3,a4,n4,c4,a5,n5,c5,rfl,r2,r3,r4,r5⟩:=h
 obtain ⟨b2,m2,d2,b3,m3,d3,b4,m4,d4,b5,m5,d5,rfl,q2,q3,q4,q5⟩:=k
 obtain ⟨st,it,ins,outs,ah,steps⟩:=a
 obtain ⟨su,iu,jns,aF,aG,ax⟩:=b
 obtain ⟨f2,f3,f4,f5⟩:=fa
 obtain ⟨g2,g3,g4,g5⟩:=fb
 simp only at r2 r3 r4 r5 q2 q3 q4 q5 f2 f3 f4 f5 g2 g3 g4 g5
 have HA:Hid (∀ W,Below w.heap.size w W→aB W ⟨st,it,ins,outs,ah,steps⟩ (.agg #[.int .i64 st,.int .i64 it,.slice a2 n2 c2,.slice a3 n3 c3,.slice a4 n4 c4,.slice a5 n5 c5])):=fun W hW=>aB.below ⟨a2,n2,c2,a3,n3,c3,a4,n4,c4,a5,n5,c5,rfl,r2,r3,r4,r5⟩ hW
 have HB:Hid (∀ W,Below w.heap.size w W→aB W ⟨su,iu,jns,aF,aG,ax⟩ (.agg #[.int .i64 su,.int .i64 iu,.slice b2 m2 d2,.slice b3 m3 d3,.slice b4 m4 d4,.slice b5 m5 d5])):=fun W hW=>aB.below ⟨b2,m2,d2,b3,m3,d3,b4,m4,d4,b5,m5,d5,rfl,q2,q3,q4,q5⟩ hW
 have S0:=Lib.hid (aI.start w (iaC st it a2 n2 c2 a3 n3 c3 a4 n4 c4 a5 n5 c5) (iaC su iu b2 m2 d2 b3 m3 d3 b4 m4 d4 b5 m5 d5) 27)
 have FSA:Hid (Small ⟨st,it,ins,outs,ah,steps⟩):=⟨f2,f3,f4,f5⟩
 have FSB:Hid (Small ⟨su,iu,jns,aF,aG,ax⟩):=⟨g2,g3,g4,g5⟩
 clear r2 r3 r4 r5 q2 q3 q4 q5 f2 f3 f4 f5 g2 g3 g4 g5
 have CBD0:Hid (∀ W,Below w.heap.size w W→Calls Tryz.prog 22 #[.agg #[.int .i64 st,.int .i64 it,.slice a2 n2 c2,.slice a3 n3 c3,.slice a4 n4 c4,.slice a5 n5 c5],.agg #[.int .i64 su,.int .i64 iu,.slice b2 m2 d2,.slice b3 m3 d3,.slice b4 m4 d4,.slice b5 m5 d5]] W fun e w'=>∃ ad cc,e=.returned (.slice ad BL.length cc)∧Row w' ad BL.length BL∧Below W.heap.size W w'):=fun W hW=>by
  rw [HBL.out]
  refine (zk ⟨st,it,ins,outs,ah,steps⟩ ⟨su,iu,jns,aF,aG,ax⟩ _ _ W (HA.out W hW) (HB.out W hW) FSA.out FSB.out).mono ?_
  rintro e w' ⟨g,cc,rfl,ho,hb⟩
  exact ⟨_,cc,rfl,ho.row.2.2.2,hb⟩
 obtain ⟨z,hz⟩:∃ z,z=hasB BL tit:=⟨_,rfl⟩
 have CSH:Hid (∀ W ad cc,Row W ad BL.length BL→Calls Tryz.prog 57 #[.slice ad BL.length cc,.int .i64 tit] W fun e w'=>e=.returned (.bool z)∧W=w'):=fun W ad cc hr=>by
  rw [hz]
  exact (bz _ _ _ tit BL W hr (by omega)).mono fun _ _ h=>⟨h.1,h.2.symm⟩
 have HZ:Hid (r=(q&&!z)):=by
  unfold Hid
  rw [HR.out,hz]
  cases q with
  | false=>rfl
  | true =>
   have h0:=HT.out rfl
   rw [← h0]
 clear HR hz HBL HQ HT HA HB FSA FSB
 obtain ⟨ca0,ca1,ca2,ca3,ca4,ca5⟩:=S0.out.2.1.aO
 obtain ⟨cb0,cb1,cb2,cb3,cb4,cb5⟩:=S0.out.2.2.aO
 go_enter Tryz.func30,Tryz.ntmps30
 go_wp2_with fail
 clear ca0 ca1 ca2 ca3 ca4 ca5 cb0 cb1 cb2 cb3 cb4 cb5
 refine (CPr.out _ S0.out.1).mono ?_
 rintro e w4 ⟨xa2,xc2,xa3,xc3,xa4,xc4,xa5,xc5,rfl,hT4,hb⟩
 have bx:=(Below.refl w4.heap.size w4).alloc (Nat.le_refl _) (.cells #[.int .i64 tst,.int .i64 tit,.slice xa2 ay.length xc2,.slice xa3 ak.length xc3,.slice xa4 au.length xc4,.slice xa5 ai.length xc5] 27)
 have S4:=S0.out.below hb
 have S5:Hid (iY w (w4.alloc (.cells #[.int .i64 tst,.int .i64 tit,.slice xa2 ay.length xc2,.slice xa3 ak.length xc3,.slice xa4 au.length xc4,.slice xa5 ai.length xc5] 27)) (iaC st it a2 n2 c2 a3 n3 c3 a4 n4 c4 a5 n5 c5) (iaC su iu b2 m2 d2 b3 m3 d3 b4 m4 d4 b5 m5 d5) (iaC tst tit xa2 ay.length xc2 xa3 ak.length xc3 xa4 au.length xc4 xa5 ai.length xc5) w4.heap.size ⟨tst,tit,ay,ak,au,ai⟩):=⟨S4.below bx,ae.new w4 #[.int .i64 tst,.int .i64 tit,.slice xa2 ay.length xc2,.slice xa3 ak.length xc3,.slice xa4 au.length xc4,.slice xa5 ai.length xc5] 27 rfl,(hT4.mono S0.out.1.size).below bx⟩
 clear hb hT4 bx S4 S0 CPr
 have CBD:Hid (∀ W,iY w W (iaC st it a2 n2 c2 a3 n3 c3 a4 n4 c4 a5 n5 c5) (iaC su iu b2 m2 d2 b3 m3 d3 b4 m4 d4 b5 m5 d5) (iaC tst tit xa2 ay.length xc2 xa3 ak.length xc3 xa4 au.length xc4 xa5 ai.length xc5) w4.heap.size ⟨tst,tit,ay,ak,au,ai⟩→Calls Tryz.prog 22 #[.agg #[.int .i64 st,.int .i64 it,.slice a2 n2 c2,.slice a3 n3 c3,.slice a4 n4 c4,.slice a5 n5 c5],.agg #[.int .i64 su,.int .i64 iu,.slice b2 m2 d2,.slice b3 m3 d3,.slice b4 m4 d4,.slice b5 m5 d5]] W fun e w'=>∃ ad cc,e=.returned (.slice ad BL.length cc)∧Row w' ad BL.length BL∧Below W.heap.size W w'):=fun W hW=>CBD0.out W hW.1.1
 clear CBD0
 have SD:=S5.out.drew
 clear S5
 cases q with
 | false =>
  go_wp2_with fail
  refine fK (S:=fun w'=>iY w w' (iaC st it a2 n2 c2 a3 n3 c3 a4 n4 c4 a5 n5 c5) (iaC su iu b2 m2 d2 b3 m3 d3 b4 m4 d4 b5 m5 d5) (iaC tst tit xa2 ay.length xc2 xa3 ak.length xc3 xa4 au.length xc4 xa5 ai.length xc5) w4.heap.size ⟨tst,tit,ay,ak,au,ai⟩) 11 (by kernel_rfl) (by kernel_rfl) (by kernel_rfl) SD (fun hHeld=>?_)
  refine aW 0 13 (.bool false) (.tmp 6) (fuel:=10) rfl rfl (by kernel_rfl) (fun _ _ _ h=>h) (by kernel_rfl) (by kernel_rfl) (by first|exact Or.inl rfl|exact Or.inr rfl) hHeld (tf 1 11) (by kernel_rfl) (fun K hK=>?_)
  go_big_move
  refine hK.out _ ?_
  clear hK K
  refine aW 1 14 (.bool false) (.tmp 13) (fuel:=9) rfl rfl (by kernel_rfl) (fun _ _ _ h=>h) (by kernel_rfl) (by kernel_rfl) (by first|exact Or.inl rfl|exact Or.inr rfl) hHeld (tf 3 11) (by kernel_rfl) (fun K hK=>?_)
  go_big_move
  refine hK.out _ ?_
  clear hK K
  refine ng 2 15 (fuel:=8) rfl rfl (by kernel_rfl) (fun _ _ _ h=>h) (by kernel_rfl) hHeld (tf 7 11) (by kernel_rfl) (fun K hK=>?_)
  go_big_move
  refine hK.out _ ?_
  clear hK K
  refine ng 3 16 (fuel:=7) rfl rfl (by kernel_rfl) (fun _ _ _ h=>h) (by kernel_rfl) hHeld (tf 15 11) (by kernel_rfl) (fun K hK=>?_)
  go_big_move
  refine hK.out _ ?_
  clear hK K
  refine ng 4 17 (fuel:=6) rfl rfl (by kernel_rfl) (fun _ _ _ h=>h) (by kernel_rfl) hHeld (tf 31 11) (by kernel_rfl) (fun K hK=>?_)
  go_big_move
  refine hK.out _ ?_
  clear hK K
  refine ng 5 18 (fuel:=5) rfl rfl (by kernel_rfl) (fun _ _ _ h=>h) (by kernel_rfl) hHeld (tf 63 11) (by kernel_rfl) (fun K hK=>?_)
  go_big_move
  refine hK.out _ ?_
  clear hK K
  refine ng 6 19 (fuel:=4) rfl rfl (by kernel_rfl) (fun _ _ _ h=>h) (by kernel_rfl) hHeld (tf 127 11) (by kernel_rfl) (fun K hK=>?_)
  go_big_move
  refine hK.out _ ?_
  clear hK K
  refine ng 7 20 (fuel:=3) rfl rfl (by kernel_rfl) (fun _ _ _ h=>h) (by kernel_rfl) hHeld (tf 255 11) (by kernel_rfl) (fun K hK=>?_)
  go_big_move
  refine hK.out _ ?_
  clear hK K
  refine ng 8 21 (fuel:=2) rfl rfl (by kernel_rfl) (fun _ _ _ h=>h) (by kernel_rfl) hHeld (tf 511 11) (by kernel_rfl) (fun K hK=>?_)
  go_big_move
  refine hK.out _ ?_
  clear hK K
  refine ku 9 22 (.bool false) (.tmp 14) (.bool false) (.tmp 21) (undef) (fuel:=1) rfl rfl (by kernel_rfl) (fun _ _ _ h=>h) (by kernel_rfl) (by kernel_rfl) (by kernel_rfl) (fun ρ hr0 hr1 hc w hSw=>by simp [go_sem,hc,hr0,hr1]) hHeld (tf 1023 11) (by kernel_rfl) (fun K hK=>?_)
  go_big_move
  refine hK.out _ ?_
  clear hK K
  refine aW 10 4 (.bool false) (.tmp 22) (fuel:=0) rfl rfl (by kernel_rfl) (fun _ _ _ h=>h) (by kernel_rfl) (by kernel_rfl) (by first|exact Or.inl rfl|exact Or.inr rfl) hHeld (tf 2047 11) (by kernel_rfl) (fun K hK=>?_)
  go_big_move
  refine hK.out _ ?_
  clear hK K
  refine wpAnyH_done (by kernel_rfl) ?_ _
  have SE:=Lib.hid hHeld
  clear hHeld SD
  go_wp2_with fail
  go_ret
  exact ⟨aH (by rw [HZ.out];rfl),SE.out.1.1⟩
 | true =>
  cases z with
  | false =>
   go_wp2_with fail
   refine fK (S:=fun w'=>iY w w' (iaC st it a2 n2 c2 a3 n3 c3 a4 n4 c4 a5 n5 c5) (iaC su iu b2 m2 d2 b3 m3 d3 b4 m4 d4 b5 m5 d5) (iaC tst tit xa2 ay.length xc2 xa3 ak.length xc3 xa4 au.length xc4 xa5 ai.length xc5) w4.heap.size ⟨tst,tit,ay,ak,au,ai⟩) 11 (by kernel_rfl) (by kernel_rfl) (by kernel_rfl) SD (fun hHeld=>?_)
   refine aW 0 13 (.bool true) (.tmp 6) (fuel:=10) rfl rfl (by kernel_rfl) (fun _ _ _ h=>h) (by kernel_rfl) (by kernel_rfl) (by first|exact Or.inl rfl|exact Or.inr rfl) hHeld (tf 1 11) (by kernel_rfl) (fun K hK=>?_)
   go_big_move
   refine hK.out _ ?_
   clear hK K
   refine aW 1 14 (.bool true) (.tmp 13) (fuel:=9) rfl rfl (by kernel_rfl) (fun _ _ _ h=>h) (by kernel_rfl) (by kernel_rfl) (by first|exact Or.inl rfl|exact Or.inr rfl) hHeld (tf 3 11) (by kernel_rfl) (fun K hK=>?_)
   go_big_move
   refine hK.out _ ?_
   clear hK K
   refine dN 2 15 (.agg #[.int .i64 st,.int .i64 it,.slice a2 n2 c2,.slice a3 n3 c3,.slice a4 n4 c4,.slice a5 n5 c5]) (fuel:=8) rfl rfl (by kernel_rfl) (fun _ _ _ h=>h) (yieldsIf_load_mid (by rfl) _ _ rfl (w.heap.size) 0 rfl (iaC st it a2 n2 c2 a3 n3 c3 a4 n4 c4 a5 n5 c5).toList _ (fun w hw=>hw.1.2.1.range) Tryz.underlying27 rfl (by kernel_rfl)) hHeld (tf 7 11) (by kernel_rfl) (fun K hK=>?_)
   go_big_move
   refine hK.out _ ?_
   clear hK K
   refine dN 3 16 (.agg #[.int .i64 su,.int .i64 iu,.slice b2 m2 d2,.slice b3 m3 d3,.slice b4 m4 d4,.slice b5 m5 d5]) (fuel:=7) rfl rfl (by kernel_rfl) (fun _ _ _ h=>h) (yieldsIf_load_mid (by rfl) _ _ rfl (w.heap.size+1) 0 rfl (iaC su iu b2 m2 d2 b3 m3 d3 b4 m4 d4 b5 m5 d5).toList _ (fun w hw=>hw.1.2.2.range) Tryz.underlying27 rfl (by kernel_rfl)) hHeld (tf 15 11) (by kernel_rfl) (fun K hK=>?_)
   go_big_move
   refine hK.out _ ?_
   clear hK K
   refine aZ 5 18 (.pointer (some ⟨w4.heap.size,1,none⟩)) (.tmp 5) (.pointer (some ⟨w4.heap.size,0,none⟩)) (fuel:=6) rfl rfl (by kernel_rfl) (fun _ _ _ h=>h) (by kernel_rfl) (by kernel_rfl) (fun ρ hr0 _ w hSw=>by simp [go_sem,hr0]) hHeld (tf 47 11) (by kernel_rfl) (fun K hK=>?_)
   go_big_move
   refine hK.out _ ?_
   clear hK K
   refine aZ 6 19 (.int .i64 tit) (.tmp 18) (.pointer (some ⟨w4.heap.size,1,none⟩)) (fuel:=5) rfl rfl (by kernel_rfl) (fun _ _ _ h=>h) (by kernel_rfl) (by kernel_rfl) (fun ρ hr0 _ w hSw=>by have m:=hSw.2.1.cell (j:=1) (u:=.int .i64 tit) rfl;simp [go_sem,hr0,m]) hHeld (tf 111 11) (by kernel_rfl) (fun K hK=>?_)
   go_big_move
   refine hK.out _ ?_
   clear hK K
   refine wpAnyH_ready (rs:=[4]) (fuel:=4) (by kernel_rfl) (by simp) ?_
   refine aC rfl (by kernel_rfl) (tf 127 11) (by kernel_rfl) (fun K hK=>?_) AllReadyH.nil
   simp only [sI3,sI4,sI5]
   go_big_op
   refine (CBD.out _ hHeld).mono ?_
   rintro e w6 ⟨ad,cc,rfl,hrw,hb⟩
   have hS6:iY w w6 (iaC st it a2 n2 c2 a3 n3 c3 a4 n4 c4 a5 n5 c5) (iaC su iu b2 m2 d2 b3 m3 d3 b4 m4 d4 b5 m5 d5) (iaC tst tit xa2 ay.length xc2 xa3 ak.length xc3 xa4 au.length xc4 xa5 ai.length xc5) w4.heap.size ⟨tst,tit,ay,ak,au,ai⟩:=hHeld.below hb
   have HRW:=Lib.hid hrw
   clear hb hrw
   refine hK.out _ _ hS6 (fun hHeld=>?_)
   clear hK K
   refine wpAnyH_ready (rs:=[7]) (fuel:=3) (by kernel_rfl) (by simp) ?_
   refine aC rfl (by kernel_rfl) (tf 255 11) (by kernel_rfl) (fun K hK=>?_) AllReadyH.nil
   simp only [sI3,sI4,sI5]
   go_big_op
   refine (CSH.out _ _ _ HRW.out).mono ?_
   rintro e wz ⟨rfl,rfl⟩
   refine hK.out _ _ hHeld (fun hHeld=>?_)
   clear hK K
   refine aZ 8 21 (.bool true) (.tmp 20) (.bool false) (fuel:=2) rfl rfl (by kernel_rfl) (fun _ _ _ h=>h) (by kernel_rfl) (by kernel_rfl) (fun ρ hr0 _ w hSw=>by simp [go_sem,hr0]) hHeld (tf 511 11) (by kernel_rfl) (fun K hK=>?_)
   go_big_move
   refine hK.out _ ?_
   clear hK K
   refine ku 9 22 (.bool true) (.tmp 14) (.bool true) (.tmp 21) (.bool true) (fuel:=1) rfl rfl (by kernel_rfl) (fun _ _ _ h=>h) (by kernel_rfl) (by kernel_rfl) (by kernel_rfl) (fun ρ hr0 hr1 hc w hSw=>by simp [go_sem,hc,hr0,hr1]) hHeld (tf 1023 11) (by kernel_rfl) (fun K hK=>?_)
   go_big_move
   refine hK.out _ ?_
   clear hK K
   refine aW 10 4 (.bool true) (.tmp 22) (fuel:=0) rfl rfl (by kernel_rfl) (fun _ _ _ h=>h) (by kernel_rfl) (by kernel_rfl) (by first|exact Or.inl rfl|exact Or.inr rfl) hHeld (tf 2047 11) (by kernel_rfl) (fun K hK=>?_)
   go_big_move
   refine hK.out _ ?_
   clear hK K
   refine wpAnyH_done (by kernel_rfl) ?_ _
   have SE:=Lib.hid hHeld
   clear hHeld SD
   go_wp2_with fail
   go_ret
   exact ⟨aH (by rw [HZ.out];rfl),SE.out.1.1⟩
  | true =>
   go_wp2_with fail
   refine fK (S:=fun w'=>iY w w' (iaC st it a2 n2 c2 a3 n3 c3 a4 n4 c4 a5 n5 c5) (iaC su iu b2 m2 d2 b3 m3 d3 b4 m4 d4 b5 m5 d5) (iaC tst tit xa2 ay.length xc2 xa3 ak.length xc3 xa4 au.length xc4 xa5 ai.length xc5) w4.heap.size ⟨tst,tit,ay,ak,au,ai⟩) 11 (by kernel_rfl) (by kernel_rfl) (by kernel_rfl) SD (fun hHeld=>?_)
   refine aW 0 13 (.bool true) (.tmp 6) (fuel:=10) rfl rfl (by kernel_rfl) (fun _ _ _ h=>h) (by kernel_rfl) (by kernel_rfl) (by first|exact Or.inl rfl|exact Or.inr rfl) hHeld (tf 1 11) (by kernel_rfl) (fun K hK=>?_)
   go_big_move
   refine hK.out _ ?_
   clear hK K
   refine aW 1 14 (.bool true) (.tmp 13) (fuel:=9) rfl rfl (by kernel_rfl) (fun _ _ _ h=>h) (by kernel_rfl) (by kernel_rfl) (by first|exact Or.inl rfl|exact Or.inr rfl) hHeld (tf 3 11) (by kernel_rfl) (fun K hK=>?_)
   go_big_move
   refine hK.out _ ?_
   clear hK K
   refine dN 2 15 (.agg #[.int .i64 st,.int .i64 it,.slice a2 n2 c2,.slice a3 n3 c3,.slice a4 n4 c4,.slice a5 n5 c5]) (fuel:=8) rfl rfl (by kernel_rfl) (fun _ _ _ h=>h) (yieldsIf_load_mid (by rfl) _ _ rfl (w.heap.size) 0 rfl (iaC st it a2 n2 c2 a3 n3 c3 a4 n4 c4 a5 n5 c5).toList _ (fun w hw=>hw.1.2.1.range) Tryz.underlying27 rfl (by kernel_rfl)) hHeld (tf 7 11) (by kernel_rfl) (fun K hK=>?_)
   go_big_move
   refine hK.out _ ?_
   clear hK K
   refine dN 3 16 (.agg #[.int .i64 su,.int .i64 iu,.slice b2 m2 d2,.slice b3 m3 d3,.slice b4 m4 d4,.slice b5 m5 d5]) (fuel:=7) rfl rfl (by kernel_rfl) (fun _ _ _ h=>h) (yieldsIf_load_mid (by rfl) _ _ rfl (w.heap.size+1) 0 rfl (iaC su iu b2 m2 d2 b3 m3 d3 b4 m4 d4 b5 m5 d5).toList _ (fun w hw=>hw.1.2.2.range) Tryz.underlying27 rfl (by kernel_rfl)) hHeld (tf 15 11) (by kernel_rfl) (fun K hK=>?_)
   go_big_move
   refine hK.out _ ?_
   clear hK K
   refine aZ 5 18 (.pointer (some ⟨w4.heap.size,1,none⟩)) (.tmp 5) (.pointer (some ⟨w4.heap.size,0,none⟩)) (fuel:=6) rfl rfl (by kernel_rfl) (fun _ _ _ h=>h) (by kernel_rfl) (by kernel_rfl) (fun ρ hr0 _ w hSw=>by simp [go_sem,hr0]) hHeld (tf 47 11) (by kernel_rfl) (fun K hK=>?_)
   go_big_move
   refine hK.out _ ?_
   clear hK K
   refine aZ 6 19 (.int .i64 tit) (.tmp 18) (.pointer (some ⟨w4.heap.size,1,none⟩)) (fuel:=5) rfl rfl (by kernel_rfl) (fun _ _ _ h=>h) (by kernel_rfl) (by kernel_rfl) (fun ρ hr0 _ w hSw=>by have m:=hSw.2.1.cell (j:=1) (u:=.int .i64 tit) rfl;simp [go_sem,hr0,m]) hHeld (tf 111 11) (by kernel_rfl) (fun K hK=>?_)
   go_big_move
   refine hK.out _ ?_
   clear hK K
   refine wpAnyH_ready (rs:=[4]) (fuel:=4) (by kernel_rfl) (by simp) ?_
   refine aC rfl (by kernel_rfl) (tf 127 11) (by kernel_rfl) (fun K hK=>?_) AllReadyH.nil
   simp only [sI3,sI4,sI5]
   go_big_op
   refine (CBD.out _ hHeld).mono ?_
   rintro e w6 ⟨ad,cc,rfl,hrw,hb⟩
   have hS6:iY w w6 (iaC st it a2 n2 c2 a3 n3 c3 a4 n4 c4 a5 n5 c5) (iaC su iu b2 m2 d2 b3 m3 d3 b4 m4 d4 b5 m5 d5) (iaC tst tit xa2 ay.length xc2 xa3 ak.length xc3 xa4 au.length xc4 xa5 ai.length xc5) w4.heap.size ⟨tst,tit,ay,ak,au,ai⟩:=hHeld.below hb
   have HRW:=Lib.hid hrw
   clear hb hrw
   refine hK.out _ _ hS6 (fun hHeld=>?_)
   clear hK K
   refine wpAnyH_ready (rs:=[7]) (fuel:=3) (by kernel_rfl) (by simp) ?_
   refine aC rfl (by kernel_rfl) (tf 255 11) (by kernel_rfl) (fun K hK=>?_) AllReadyH.nil
   simp only [sI3,sI4,sI5]
   go_big_op
   refine (CSH.out _ _ _ HRW.out).mono ?_
   rintro e wz ⟨rfl,rfl⟩
   refine hK.out _ _ hHeld (fun hHeld=>?_)
   clear hK K
   refine aZ 8 21 (.bool false) (.tmp 20) (.bool true) (fuel:=2) rfl rfl (by kernel_rfl) (fun _ _ _ h=>h) (by kernel_rfl) (by kernel_rfl) (fun ρ hr0 _ w hSw=>by simp [go_sem,hr0]) hHeld (tf 511 11) (by kernel_rfl) (fun K hK=>?_)
   go_big_move
   refine hK.out _ ?_
   clear hK K
   refine ku 9 22 (.bool false) (.tmp 14) (.bool true) (.tmp 21) (.bool false) (fuel:=1) rfl rfl (by kernel_rfl) (fun _ _ _ h=>h) (by kernel_rfl) (by kernel_rfl) (by kernel_rfl) (fun ρ hr0 hr1 hc w hSw=>by simp [go_sem,hc,hr0,hr1]) hHeld (tf 1023 11) (by kernel_rfl) (fun K hK=>?_)
   go_big_move
   refine hK.out _ ?_
   clear hK K
   refine aW 10 4 (.bool false) (.tmp 22) (fuel:=0) rfl rfl (by kernel_rfl) (fun _ _ _ h=>h) (by kernel_rfl) (by kernel_rfl) (by first|exact Or.inl rfl|exact Or.inr rfl) hHeld (tf 2047 11) (by kernel_rfl) (fun K hK=>?_)
   go_big_move
   refine hK.out _ ?_
   clear hK K
   refine wpAnyH_done (by kernel_rfl) ?_ _
   have SE:=Lib.hid hHeld
   clear hHeld SD
   go_wp2_with fail
   go_ret
   exact ⟨aH (by rw [HZ.out];rfl),SE.out.1.1⟩
open Go.RowKit
def eG (a:IaD) (B:List Int):IaD:={ a with steps:=a.steps.filter fun x => !hasB B x.1&&!hasB B x.2.2 }
def eX (n:Nat) (B:List Int):List Int:=((List.range n).map fun i:Nat=>(i:Int)).filter fun s => !hasB B s
theorem Ir {n:Nat} {B:List Int} {s:Int}:s∈eX n B↔(0≤s∧s<n)∧s∉B:=by
 unfold eX
 rw [List.mem_filter,List.mem_map]
 constructor
 ·rintro ⟨⟨i,hi,rfl⟩,h⟩
  have:=List.mem_range.1 hi
  refine ⟨by omega,?_⟩
  simpa [hasB] using h
 ·rintro ⟨h,hb⟩
  exact ⟨⟨s.toNat,List.mem_range.2 (by omega),by omega⟩,by simpa [hasB] using hb⟩
theorem ER (n:Nat) (B:List Int):(eX n B).Pairwise (·<·):=by
 unfold eX
 refine List.Pairwise.filter _ ?_
 rw [List.pairwise_map]
 exact List.pairwise_lt_range.imp (fun h=>by omega)
theorem FQ (n:Nat) (B:List Int):eX (n+1) B=if hasB B (n:Int) then eX n B else eX n B++[(n:Int)]:=by
 unfold eX
 rw [List.range_succ,List.map_append,List.filter_append]
 cases h:hasB B (n:Int) <;> simp [h]
theorem sV {L:List Int} (hr:L.Pairwise (·<·)) {x y:Int} (hx:x∈L) (hy:y∈L) (h:x<y):placeOf L x<placeOf L y:=by
 obtain ⟨i,hi,rfl⟩:=List.getElem_of_mem hx
 obtain ⟨j,hj,rfl⟩:=List.getElem_of_mem hy
 have hn:L.Nodup:=hr.imp (fun h e=>by omega)
 have e1:L.idxOf L[i]=i:=hn.idxOf_getElem i hi
 have e2:L.idxOf L[j]=j:=hn.idxOf_getElem j hj
 unfold placeOf
 rw [if_pos hx,if_pos hy,e1,e2]
 by_cases hij:i<j
 ·omega
 ·exfalso
  by_cases e:i=j
  ·subst e
   omega
  ·have:=List.pairwise_iff_getElem.1 hr j i hj hi (by omega)
   omega
theorem vO {L:List Int} {x:Int} (hx:x∈L):0≤placeOf L x∧placeOf L x<L.length:=by
 unfold placeOf
 rw [if_pos hx]
 have:=List.idxOf_lt_length_of_mem hx
 omega
theorem rV {L:List Int} {x y:Int} (hx:x∈L) (hy:y∈L) (h:placeOf L x=placeOf L y):x=y:=by
 unfold placeOf at h
 rw [if_pos hx,if_pos hy] at h
 have h1:L.idxOf x=L.idxOf y:=by omega
 have e1:=List.getElem_idxOf (List.idxOf_lt_length_of_mem hx)
 have e2:=List.getElem_idxOf (List.idxOf_lt_length_of_mem hy)
 rw [← e1,← e2]
 simp only [h1]
theorem JD {a:IaD} (h:aJ a=true) {ss:List St} (hs:ss.Sublist a.steps):aJ { a with steps:=ss }=true:=by
 have h0:=h
 simp only [aJ,sW,Bool.and_eq_true,decide_eq_true_eq] at h0
 obtain ⟨⟨⟨⟨h1,h2⟩,⟨⟨⟨h3,h4⟩,h5⟩,h6⟩⟩,h7⟩,h8⟩:=h0
 have h9:stepsB { a with steps:=ss } ss=true:=by
  refine uT _ ss ((jD a _ h8).sublist hs) (fun x hx=>?_) ((um a _ h8).sublist hs)
  exact jC a a.steps h8 x (hs.subset hx)
 have h10:apartB { a with steps:=ss }=true:=h7
 have h11:jH { a with steps:=ss } a.init=true:=h2
 simp only [aJ,sW,Bool.and_eq_true,decide_eq_true_eq]
 exact ⟨⟨⟨⟨h1,h11⟩,⟨⟨⟨h3,h4⟩,h5⟩,Nat.le_trans hs.length_le h6⟩⟩,h10⟩,h9⟩
theorem Jj {a:IaD} (h:aJ a=true) (B:List Int):aJ (eG a B)=true:=JD h List.filter_sublist
def gOf (L:List Int) (x:St):St:=(placeOf L x.1,x.2.1,placeOf L x.2.2)
theorem og (a:IaD) (L:List Int):(bK a L).steps=(a.steps.filter fun x=>hasB L x.1&&hasB L x.2.2).map (gOf L):=by
 unfold bK
 simp only
 rw [List.filter_map]
 congr 1
 refine List.filter_congr fun x _=>?_
 simp only [Function.comp,vF,hasB]
theorem FU {L:List Int} (hr:L.Pairwise (·<·)) {x y:St} (hx:x.1∈L∧x.2.2∈L) (hy:y.1∈L∧y.2.2∈L) (h:Ahead x y):Ahead (gOf L x) (gOf L y):=by
 unfold Ahead gOf at *
 simp only
 rcases h with h|⟨e,h⟩
 ·exact Or.inl (sV hr hx.1 hy.1 h)
 ·rcases h with h|⟨e2,h⟩
  ·exact Or.inr ⟨by rw [e],Or.inl h⟩
  ·exact Or.inr ⟨by rw [e],Or.inr ⟨e2,sV hr hx.2 hy.2 h⟩⟩
theorem pR {L:List Int} {x:St}:(hasB L x.1&&hasB L x.2.2)=true↔x.1∈L∧x.2.2∈L:=by simp [hasB]
theorem KD {a:IaD} (h:aJ a=true) {L:List Int} (hr:L.Pairwise (·<·)) (hl:∀ s∈L,0≤s∧s<a.states) (hi:a.init∈L):aJ (bK a L)=true:=by
 have h0:=h
 have hst:=aN h
 simp only [aJ,sW,Bool.and_eq_true,decide_eq_true_eq] at h0
 obtain ⟨⟨⟨⟨h1,h2⟩,⟨⟨⟨h3,h4⟩,h5⟩,h6⟩⟩,h7⟩,h8⟩:=h0
 have hlen:L.length≤40:=xY (hr.imp (fun h e=>by omega)) (fun y hy=>by have:=hl y hy;omega)
 have hpos:0<L.length:=List.length_pos_of_mem hi
 have hpl:=vO hi
 have e:=og a L
 have hp:(a.steps.filter fun x=>hasB L x.1&&hasB L x.2.2).Sublist a.steps:=List.filter_sublist
 have h9:stepsB (bK a L) (bK a L).steps=true:=by
  rw [e]
  refine uT _ _ ?_ (fun x hx=>?_) ?_
  ·rw [List.pairwise_map]
   refine (List.Pairwise.and_mem.1 ((jD a _ h8).sublist hp)).imp ?_
   rintro x y ⟨hx,hy,hxy⟩
   exact FU hr (pR.1 (List.mem_filter.1 hx).2) (pR.1 (List.mem_filter.1 hy).2) hxy
  ·obtain ⟨y,hy,rfl⟩:=List.mem_map.1 hx
   obtain ⟨hy,hk⟩:=List.mem_filter.1 hy
   obtain ⟨k1,k2⟩:=pR.1 hk
   have hg:=jC a a.steps h8 y hy
   have q1:=vO k1
   have q2:=vO k2
   unfold bH jH at hg ⊢
   simp only [Bool.and_eq_true,btw,decide_eq_true_eq] at hg ⊢
   exact ⟨⟨⟨q1.1,by simp only [gOf,bK];omega⟩,⟨q2.1,by simp only [gOf,bK];omega⟩⟩,hg.2⟩
  ·rw [List.pairwise_map]
   refine (List.Pairwise.and_mem.1 ((um a _ h8).sublist hp)).imp ?_
   rintro x y ⟨hx,hy,hxy⟩ e1 e2 e3
   exact hxy (rV (pR.1 (List.mem_filter.1 hx).2).1 (pR.1 (List.mem_filter.1 hy).2).1 e1) e2 e3
 have h10:apartB (bK a L)=true:=h7
 have h11:(bK a L).steps.length≤400:=by
  rw [e,List.length_map]
  exact Nat.le_trans hp.length_le h6
 simp only [aJ,sW,Bool.and_eq_true,decide_eq_true_eq]
 refine ⟨⟨⟨⟨?_,?_⟩,⟨⟨⟨h3,h4⟩,h5⟩,h11⟩⟩,h10⟩,h9⟩
 ·have e1:(bK a L).states=(L.length:Int):=rfl
  rw [e1]
  unfold btw
  rw [decide_eq_true (by omega),decide_eq_true (by omega)]
  rfl
 ·have e1:(bK a L).states=(L.length:Int):=rfl
  have e2:(bK a L).init=placeOf L a.init:=rfl
  unfold jH
  rw [e1,e2]
  unfold btw
  rw [decide_eq_true (by omega),decide_eq_true (by omega)]
  rfl
theorem vP {L K:List Int} (hK:∀ x∈L,x∈K) {x:Int} (hx:x∈L):placeOf (L.map (placeOf K)) (placeOf K x)=placeOf L x:=by
 induction L with
 | nil=>cases hx
 | cons y r ih =>
  by_cases e:x=y
  ·subst e
   unfold placeOf
   simp
  ·have hxr:x∈r:=by
    rcases List.mem_cons.1 hx with h|h
    ·exact absurd h e
    ·exact h
   have hne:¬ placeOf K x=placeOf K y:=fun h=>e (rV (hK x hx) (hK y (by simp)) h)
   have ih':=ih (fun z hz=>hK z (List.mem_cons_of_mem _ hz)) hxr
   have hm:placeOf K x∈r.map (placeOf K):=List.mem_map.2 ⟨x,hxr,rfl⟩
   have q1:placeOf (y :: r) x=placeOf r x+1:=by
    unfold placeOf
    rw [if_pos hx,if_pos hxr,List.idxOf_cons,beq_false_of_ne (fun h=>e h.symm)]
    simp
   have q2:placeOf ((y :: r).map (placeOf K)) (placeOf K x)=placeOf (r.map (placeOf K)) (placeOf K x)+1:=by
    rw [List.map_cons]
    generalize placeOf K x=u at hm hne
    generalize placeOf K y=v at hne
    generalize r.map (placeOf K)=t at hm
    unfold placeOf
    rw [if_pos (List.mem_cons_of_mem _ hm),if_pos hm,List.idxOf_cons,beq_false_of_ne (fun h=>hne h.symm)]
    simp
   rw [q1,q2,ih']
theorem KE {a:IaD} (h:aJ a=true) {B:List Int} (hi:a.init∉B):dG (eG a B)=dG (bK a (eX a.states.toNat B)):=by
 have hst:=aN h
 have hin:=gV h
 have hen:=dH h
 obtain ⟨K,hK⟩:∃ K,K=eX a.states.toNat B:=⟨_,rfl⟩
 have mK:∀ {s:Int},s∈K↔(0≤s∧s<a.states)∧s∉B:=fun {s}=>by
  rw [hK,Ir]
  have:((a.states.toNat:Nat):Int)=a.states:=by omega
  rw [this]
 have rK:K.Pairwise (·<·):=by rw [hK];exact ER _ _
 have hiK:a.init∈K:=mK.2 ⟨by omega,hi⟩
 rw [← hK]
 have ok1:=Jj h B
 have ok2:=KD h rK (fun s hs=>(mK.1 hs).1) hiK
 obtain ⟨R,hR⟩:∃ R,R=aP (eG a B):=⟨_,rfl⟩
 have mR:∀ {s:Int},s∈R↔iw (aV a) (eG a B).steps [a.init] s:=fun {s}=>by
  rw [hR]
  exact kL
 have Bc:∀ {x:St},x∈(eG a B).steps↔x∈a.steps∧x.1∉B∧x.2.2∉B:=fun {x}=>by
  unfold eG
  rw [List.mem_filter]
  simp [hasB]
 have sR:∀ s∈R,s∈K:=fun s hs=>by
  have hc:=mR.1 hs
  cases hc with
  | start _ h0 =>
   rw [List.mem_singleton.1 h0]
   exact hiK
  | step x hx _ _ =>
   obtain ⟨h1,h2,h3⟩:=Bc.1 hx
   have h4:=(hen x h1).2.1
   exact mK.2 ⟨by omega,h3⟩
 have rR:R.Pairwise (·<·):=by rw [hR];exact uz _
 have JO:∀ {t:St},t∈(bK a K).steps↔∃ x∈a.steps,(x.1∈K∧x.2.2∈K)∧gOf K x=t:=fun {t}=>by
  rw [og,List.mem_map]
  constructor
  ·rintro ⟨x,hx,rfl⟩
   obtain ⟨h1,h2⟩:=List.mem_filter.1 hx
   exact ⟨x,h1,pR.1 h2,rfl⟩
  ·rintro ⟨x,hx,hk,rfl⟩
   exact ⟨x,List.mem_filter.2 ⟨hx,pR.2 hk⟩,rfl⟩
 have rQ:aP (bK a K)=R.map (placeOf K):=by
  refine vS (uz _) ?_ (fun z=>?_)
  ·rw [List.pairwise_map]
   refine (List.Pairwise.and_mem.1 rR).imp ?_
   rintro x y ⟨hx,hy,hxy⟩
   exact sV rK (sR x hx) (sR y hy) hxy
  ·rw [kL,List.mem_map]
   constructor
   ·intro hc
    induction hc with
    | start z h0 =>
     rw [List.mem_singleton.1 h0]
     exact ⟨a.init,mR.2 (.start _ (by simp)),rfl⟩
    | step t ht ha _ ih =>
     obtain ⟨x,hx,⟨k1,k2⟩,rfl⟩:=JO.1 ht
     obtain ⟨s,hs,e⟩:=ih
     have e':s=x.1:=rV (sR s hs) k1 e
     subst e'
     exact ⟨x.2.2,mR.2 (.step x (Bc.2 ⟨hx,(mK.1 k1).2,(mK.1 k2).2⟩) ha (mR.1 hs)),rfl⟩
   ·rintro ⟨s,hs,rfl⟩
    have hc:=mR.1 hs
    clear hs
    induction hc with
    | start z h0 =>
     rw [List.mem_singleton.1 h0]
     exact .start _ (by simp [bK])
    | step x hx ha hprev ih =>
     have k1:=sR _ (mR.2 hprev)
     obtain ⟨h1,h2,h3⟩:=Bc.1 hx
     have h4:=(hen x h1).2.1
     have k2:x.2.2∈K:=mK.2 ⟨by omega,h3⟩
     exact iw.step (gOf K x) (JO.2 ⟨x,h1,⟨k1,k2⟩,rfl⟩) ha ih
 unfold dG
 rw [if_pos ok1,if_pos ok2,rQ,← hR]
 have eS:(bK (eG a B) R).steps=(bK (bK a K) (R.map (placeOf K))).steps:=by
  rw [og,og,og a K,List.filter_map,List.map_map]
  have e1:(eG a B).steps=a.steps.filter fun x => !hasB B x.1&&!hasB B x.2.2:=rfl
  rw [e1,List.filter_filter,List.filter_filter]
  have hmm:∀ {s:Int},s∈K→(placeOf K s∈R.map (placeOf K)↔s∈R):=fun {s} hs=>by
   rw [List.mem_map]
   exact ⟨fun ⟨y,hy,e⟩=>by rw [← rV (sR y hy) hs e];exact hy,fun h=>⟨s,h,rfl⟩⟩
  have e2:(a.steps.filter fun x=>(hasB R x.1&&hasB R x.2.2)&&(!hasB B x.1&&!hasB B x.2.2))=a.steps.filter fun x=>(((fun x=>hasB (R.map (placeOf K)) x.1&&hasB (R.map (placeOf K)) x.2.2) ∘ gOf K) x)&&(hasB K x.1&&hasB K x.2.2):=by
   refine List.filter_congr fun x hx=>?_
   rw [Bool.eq_iff_iff]
   simp only [Function.comp,gOf,hasB,Bool.and_eq_true,decide_eq_true_eq,Bool.not_eq_true',decide_eq_false_iff_not]
   constructor
   ·rintro ⟨⟨h1,h2⟩,h3,h4⟩
    exact ⟨⟨decide_eq_true ((hmm (sR _ h1)).2 h1),decide_eq_true ((hmm (sR _ h2)).2 h2)⟩,sR _ h1,sR _ h2⟩
   ·rintro ⟨⟨h1,h2⟩,h3,h4⟩
    exact ⟨⟨(hmm h3).1 (of_decide_eq_true h1),(hmm h4).1 (of_decide_eq_true h2)⟩,(mK.1 h3).2,(mK.1 h4).2⟩
  rw [← e2]
  refine List.map_congr_left fun x hx=>?_
  obtain ⟨_,hx⟩:=List.mem_filter.1 hx
  simp only [hasB,Bool.and_eq_true,decide_eq_true_eq] at hx
  simp only [gOf,Function.comp]
  rw [vP sR hx.1.1,vP sR hx.1.2]
 have eI:placeOf R a.init=placeOf (R.map (placeOf K)) (placeOf K a.init):=(vP sR (mR.2 (.start _ (by simp)))).symm
 have x1:bK (eG a B) R={ states:=R.length,init:=placeOf R a.init,ins:=a.ins,outs:=a.outs,ah:=a.ah,steps:=(bK (eG a B) R).steps }:=rfl
 have x2:bK (bK a K) (R.map (placeOf K))={ states:=(R.map (placeOf K)).length,init:=placeOf (R.map (placeOf K)) (placeOf K a.init),ins:=a.ins,outs:=a.outs,ah:=a.ah,steps:=(bK (bK a K) (R.map (placeOf K))).steps }:=rfl
 rw [x1,x2,← eS,← eI,List.length_map]
open Go.RowKit
theorem eP.grown {w w':World} {a:Option Addr} {n b:Nat} {ss:List St} (h:eP w a n ss) (hg:w.grownBy w' (some b)) (hb:∀ q,a=some q→0<n→q.block≠b):eP w' a n ss:=by
 refine ⟨h.1,fun hn=>?_⟩
 obtain ⟨b',off,e,hlt,hc⟩:=h.2 hn
 have hne:b'≠b:=hb _ e hn
 refine ⟨b',off,e,Nat.lt_of_lt_of_le hlt hg.size,fun j s hs=>?_⟩
 obtain ⟨c0,c1,c2⟩:=hc j s hs
 have hk:=hg.block b' hlt (fun e=>hne (Option.some.inj e))
 exact ⟨(World.cell?_of_block hk).trans c0,(World.cell?_of_block hk).trans c1,(World.cell?_of_block hk).trans c2⟩
theorem FV {a:IaD} (h:aJ a=true):dG a=bK a (aP a):=by
 unfold dG
 rw [h]
 rfl
theorem Bf (st it:Int) (b2 o2 n2 c2 b3 o3 n3 c3 b4 o4 n4 c4:Nat) (a5:Option Addr) (n5 c5:Nat) (ins outs ah:List Int) (steps:List St) (w:World)
  (r2:Row w (some ⟨b2,o2,none⟩) n2 ins) (r3:Row w (some ⟨b3,o3,none⟩) n3 outs) (r4:Row w (some ⟨b4,o4,none⟩) n4 ah) (r5:eP w a5 n5 steps) (f2:n2≤1048576) (f3:n3≤1048576) (f4:n4≤1048576) (f5:n5≤1048576) :
  Calls Tryz.prog 78 #[.agg #[.int .i64 st,.int .i64 it,.slice (some ⟨b2,o2,none⟩) n2 c2,.slice (some ⟨b3,o3,none⟩) n3 c3,.slice (some ⟨b4,o4,none⟩) n4 c4,.slice a5 n5 c5]] w fun e w'=>∃ v,e=.returned v∧fZ w' w.heap.size (dG ⟨st,it,ins,outs,ah,steps⟩) v∧Below w.heap.size w w':=by
 have h:aB w ⟨st,it,ins,outs,ah,steps⟩ (.agg #[.int .i64 st,.int .i64 it,.slice (some ⟨b2,o2,none⟩) n2 c2,.slice (some ⟨b3,o3,none⟩) n3 c3,.slice (some ⟨b4,o4,none⟩) n4 c4,.slice a5 n5 c5]):=⟨_,_,_,_,_,_,_,_,_,_,_,_,rfl,r2,r3,r4,r5⟩
 have CO:Hid (∀ W,Below w.heap.size w W→Calls Tryz.prog 126 #[.agg #[.int .i64 st,.int .i64 it,.slice (some ⟨b2,o2,none⟩) n2 c2,.slice (some ⟨b3,o3,none⟩) n3 c3,.slice (some ⟨b4,o4,none⟩) n4 c4,.slice a5 n5 c5]] W fun e w'=>e=.returned (.bool (aJ ⟨st,it,ins,outs,ah,steps⟩))∧Below W.heap.size W w'):=fun W hW=>mQ ⟨st,it,ins,outs,ah,steps⟩ _ W (h.below hW) (by rw [r2.1];exact f2) (by rw [r3.1];exact f3) (by rw [r4.1];exact f4) (by rw [r5.1];exact f5)
 have CR:Hid (aJ ⟨st,it,ins,outs,ah,steps⟩=true→∀ W,Below w.heap.size w W→Calls Tryz.prog 127 #[.agg #[.int .i64 st,.int .i64 it,.slice (some ⟨b2,o2,none⟩) n2 c2,.slice (some ⟨b3,o3,none⟩) n3 c3,.slice (some ⟨b4,o4,none⟩) n4 c4,.slice a5 n5 c5]] W (dE W W.heap.size (aP ⟨st,it,ins,outs,ah,steps⟩))):=fun hok W hW=>by
  have:=A7 ⟨st,it,ins,outs,ah,steps⟩ _ W (h.below hW) (by rw [r2.1];exact f2) (by rw [r3.1];exact f3) (by rw [r4.1];exact f4) (by rw [r5.1];exact f5)
  rwa [if_pos hok] at this
 have RL:Hid (aJ ⟨st,it,ins,outs,ah,steps⟩=true→(aP ⟨st,it,ins,outs,ah,steps⟩).length≤4194304):=fun hok=>by
  have:=FM ⟨st,it,ins,outs,ah,steps⟩ (by rw [r5.1];exact f5)
  rwa [if_pos hok] at this
 obtain ⟨kn,hkn⟩:∃ k,k=(aP ⟨st,it,ins,outs,ah,steps⟩).length:=⟨_,rfl⟩
 have CY:Hid (∀ W ka kc,Below w.heap.size w W→Row W ka kn (aP ⟨st,it,ins,outs,ah,steps⟩)→kn≤4194304→Calls Tryz.prog 79 #[.agg #[.int .i64 st,.int .i64 it,.slice (some ⟨b2,o2,none⟩) n2 c2,.slice (some ⟨b3,o3,none⟩) n3 c3,.slice (some ⟨b4,o4,none⟩) n4 c4,.slice a5 n5 c5],.slice ka kn kc] W fun e w'=>∃ v,e=.returned v∧fZ w' W.heap.size (bK ⟨st,it,ins,outs,ah,steps⟩ (aP ⟨st,it,ins,outs,ah,steps⟩)) v∧Below W.heap.size W w'):=fun W ka kc hW hr hk=>(Eh st it b2 o2 n2 c2 b3 o3 n3 c3 b4 o4 n4 c4 a5 n5 c5 ins outs ah steps ka kn kc _ W (r2.below hW) (r3.below hW) (r4.below hW) (r5.below hW) hr f2 f3 f4 f5 hk).mono fun _ _ ⟨v,he,hr,_,hb⟩=>⟨v,he,hr,hb⟩
 clear r2 r3 r4 r5 h f2 f3 f4 f5
 have HKN:=Lib.hid hkn
 clear hkn
 obtain ⟨q,hq⟩:∃ q,q=aJ ⟨st,it,ins,outs,ah,steps⟩:=⟨_,rfl⟩
 rw [← hq] at CO CR RL
 have HQ:=Lib.hid hq.symm
 obtain ⟨res,hres⟩:∃ r,r=dG ⟨st,it,ins,outs,ah,steps⟩:=⟨_,rfl⟩
 rw [← hres]
 have Eg:=Lib.hid hres
 clear hq hres
 have B0:Hid (∀ o o',Below w.heap.size w ((w.alloc o).alloc o')):=fun o o'=>((Below.refl _ _).alloc (Nat.le_refl _) _).alloc (by simp) _
 have V0:Hid (ae ((w.alloc (.cells #[.int .i64 st,.int .i64 it,.slice (some ⟨b2,o2,none⟩) n2 c2,.slice (some ⟨b3,o3,none⟩) n3 c3,.slice (some ⟨b4,o4,none⟩) n4 c4,.slice a5 n5 c5] 27)).alloc (.cells #[.int .i64 0,.int .i64 0,.slice none 0 0,.slice none 0 0,.slice none 0 0,.slice none 0 0] 27)) w.heap.size #[.int .i64 st,.int .i64 it,.slice (some ⟨b2,o2,none⟩) n2 c2,.slice (some ⟨b3,o3,none⟩) n3 c3,.slice (some ⟨b4,o4,none⟩) n4 c4,.slice a5 n5 c5] 27):=(ae.new w _ _ rfl).alloc _
 have VR0:Hid (ae ((w.alloc (.cells #[.int .i64 st,.int .i64 it,.slice (some ⟨b2,o2,none⟩) n2 c2,.slice (some ⟨b3,o3,none⟩) n3 c3,.slice (some ⟨b4,o4,none⟩) n4 c4,.slice a5 n5 c5] 27)).alloc (.cells #[.int .i64 0,.int .i64 0,.slice none 0 0,.slice none 0 0,.slice none 0 0,.slice none 0 0] 27)) (w.heap.size+1) #[.int .i64 0,.int .i64 0,.slice none 0 0,.slice none 0 0,.slice none 0 0,.slice none 0 0] 27):=ae.new _ _ _ (by simp)
 go_enter Tryz.func78,Tryz.ntmps78
 go_wp2_with fail
 refine (CO.out _ (B0.out _ _)).mono ?_
 rintro e w1 ⟨rfl,hb⟩
 have B1:Hid (Below w.heap.size w w1):=(B0.out _ _).trans (hb.mono (B0.out _ _).size)
 have V1:=Lib.hid (V0.out.below hb)
 have VR1:=Lib.hid (VR0.out.below hb)
 clear hb V0 VR0 CO B0
 cases q with
 | false =>
  have TH:Hid (w1.there (w.heap.size+1) 0 6):=VR1.out.there rfl
  have RG2:Hid ((w1.setCells (w.heap.size+1) 0 [.int .i64 0,.int .i64 0,.slice none 0 0,.slice none 0 0,.slice none 0 0,.slice none 0 0]).rangeAt (w.heap.size+1) 0 [.int .i64 0,.int .i64 0,.slice none 0 0,.slice none 0 0,.slice none 0 0,.slice none 0 0]):=World.rangeAt_setCells_same w1 (w.heap.size+1) 0 _ TH.out
  have HGS:=Lib.hid (aA (w.heap.size+1) [.int .i64 0,.int .i64 0,.slice none 0 0,.slice none 0 0,.slice none 0 0,.slice none 0 0] 0 w1)
  go_wp2_with (refine wpList_store_mid rfl _ _ _ rfl (w.heap.size+1) 0 #[.int .i64 0,.int .i64 0,.slice none 0 0,.slice none 0 0,.slice none 0 0,.slice none 0 0] rfl rfl TH.out (by kernel_rfl) (di _ _ _ _ _ _ _ _ _ _ _ _ _ _) ?_)
  have hres:res=ja:=Eg.out.trans (A8 HQ.out)
  refine bodyPost_ret (v:=.agg #[.int .i64 0,.int .i64 0,.slice none 0 0,.slice none 0 0,.slice none 0 0,.slice none 0 0]) ?_ rfl ⟨_,rfl,⟨none,0,0,none,0,0,none,0,0,none,0,0,by rw [hres];rfl,by rw [hres];exact ⟨rfl,fun h=>absurd h (by omega)⟩,by rw [hres];exact ⟨rfl,fun h=>absurd h (by omega)⟩,by rw [hres];exact ⟨rfl,fun h=>absurd h (by omega)⟩,by rw [hres];exact ⟨rfl,fun h=>absurd h (by omega)⟩,(fun q h=>by cases h),(fun q h=>by cases h),(fun q h=>by cases h),(fun q h=>by cases h)⟩,B1.out.grown HGS.out B1.out.size (fun q hq=>by cases hq;omega)⟩
  have HC0:=RG2.out 0 _ rfl
  have HC1:=RG2.out 1 _ rfl
  have HC2:=RG2.out 2 _ rfl
  have HC3:=RG2.out 3 _ rfl
  have HC4:=RG2.out 4 _ rfl
  have HC5:=RG2.out 5 _ rfl
  simp only [Nat.zero_add] at HC0 HC1 HC2 HC3 HC4 HC5
  simp [results,Tryz.results78,go_sem,HC0,HC1,HC2,HC3,HC4,HC5]
 | true =>
  have hkn:kn≤4194304:=by rw [HKN.out];exact RL.out rfl
  have S0:Below w.heap.size w w1.drew∧ae w1.drew w.heap.size #[.int .i64 st,.int .i64 it,.slice (some ⟨b2,o2,none⟩) n2 c2,.slice (some ⟨b3,o3,none⟩) n3 c3,.slice (some ⟨b4,o4,none⟩) n4 c4,.slice a5 n5 c5] 27∧w1.drew.cell? ⟨w.heap.size,0,none⟩=some (.int .i64 st)∧w1.drew.cell? ⟨w.heap.size,1,none⟩=some (.int .i64 it)∧w1.drew.cell? ⟨w.heap.size,2,none⟩=some (.slice (some ⟨b2,o2,none⟩) n2 c2)∧w1.drew.cell? ⟨w.heap.size,3,none⟩=some (.slice (some ⟨b3,o3,none⟩) n3 c3)∧w1.drew.cell? ⟨w.heap.size,4,none⟩=some (.slice (some ⟨b4,o4,none⟩) n4 c4)∧w1.drew.cell? ⟨w.heap.size,5,none⟩=some (.slice a5 n5 c5):=by
   have ha:=V1.out.drew
   exact ⟨B1.out.drew,ha,ha.cell rfl,ha.cell rfl,ha.cell rfl,ha.cell rfl,ha.cell rfl,ha.cell rfl⟩
  have VRd:Hid (ae w1.drew (w.heap.size+1) #[.int .i64 0,.int .i64 0,.slice none 0 0,.slice none 0 0,.slice none 0 0,.slice none 0 0] 27):=VR1.out.drew
  go_wp2_with fail
  refine wp_region_held_drew (S:=fun w'=>Below w.heap.size w w'∧ae w' w.heap.size #[.int .i64 st,.int .i64 it,.slice (some ⟨b2,o2,none⟩) n2 c2,.slice (some ⟨b3,o3,none⟩) n3 c3,.slice (some ⟨b4,o4,none⟩) n4 c4,.slice a5 n5 c5] 27∧w'.cell? ⟨w.heap.size,0,none⟩=some (.int .i64 st)∧w'.cell? ⟨w.heap.size,1,none⟩=some (.int .i64 it)∧w'.cell? ⟨w.heap.size,2,none⟩=some (.slice (some ⟨b2,o2,none⟩) n2 c2)∧w'.cell? ⟨w.heap.size,3,none⟩=some (.slice (some ⟨b3,o3,none⟩) n3 c3)∧w'.cell? ⟨w.heap.size,4,none⟩=some (.slice (some ⟨b4,o4,none⟩) n4 c4)∧w'.cell? ⟨w.heap.size,5,none⟩=some (.slice a5 n5 c5)) (by kernel_rfl) S0 (fun hHeld=>?_)
  change wpAnyH _ _ _ _ _ 5 (Array.replicate 5 false) _ _
  refine ag 0 7 (.agg #[.int .i64 st,.int .i64 it,.slice (some ⟨b2,o2,none⟩) n2 c2,.slice (some ⟨b3,o3,none⟩) n3 c3,.slice (some ⟨b4,o4,none⟩) n4 c4,.slice a5 n5 c5]) (fuel:=4) rfl rfl (by kernel_rfl) (fun _ _ _ h=>h) (by rfl) (fun w hSw=>by go_simp) hHeld ?_
  simp only [Act.put,sI0,sI1,sI2]
  refine ag 1 8 (.agg #[.int .i64 st,.int .i64 it,.slice (some ⟨b2,o2,none⟩) n2 c2,.slice (some ⟨b3,o3,none⟩) n3 c3,.slice (some ⟨b4,o4,none⟩) n4 c4,.slice a5 n5 c5]) (fuel:=3) rfl rfl (by kernel_rfl) (fun _ _ _ h=>h) (by rfl) (fun w hSw=>by go_simp) hHeld ?_
  simp only [Act.put,sI0,sI1,sI2]
  refine wpAnyH_ready (rs:=[2]) (fuel:=2) (by kernel_rfl) (by simp) ?_
  refine AllReadyH.cons rfl (fun K hK=>?_) AllReadyH.nil
  go_simp
  refine (CR.out trivial _ S0.1).mono ?_
  rintro e w2 ⟨g2,k2,rfl,ho,hb⟩
  rw [← HKN.out] at ho ⊢
  have SS1:Below w.heap.size w w2∧ae w2 w.heap.size #[.int .i64 st,.int .i64 it,.slice (some ⟨b2,o2,none⟩) n2 c2,.slice (some ⟨b3,o3,none⟩) n3 c3,.slice (some ⟨b4,o4,none⟩) n4 c4,.slice a5 n5 c5] 27∧w2.cell? ⟨w.heap.size,0,none⟩=some (.int .i64 st)∧w2.cell? ⟨w.heap.size,1,none⟩=some (.int .i64 it)∧w2.cell? ⟨w.heap.size,2,none⟩=some (.slice (some ⟨b2,o2,none⟩) n2 c2)∧w2.cell? ⟨w.heap.size,3,none⟩=some (.slice (some ⟨b3,o3,none⟩) n3 c3)∧w2.cell? ⟨w.heap.size,4,none⟩=some (.slice (some ⟨b4,o4,none⟩) n4 c4)∧w2.cell? ⟨w.heap.size,5,none⟩=some (.slice a5 n5 c5):=by
   have ha:=S0.2.1.below hb
   exact ⟨S0.1.trans (hb.mono S0.1.size),ha,ha.cell rfl,ha.cell rfl,ha.cell rfl,ha.cell rfl,ha.cell rfl,ha.cell rfl⟩
  have VR2:=Lib.hid (VRd.out.below hb)
  have RO:=Lib.hid ho.row.2.2.2
  have sz1:=hb.size
  clear ho hb
  go_wp2_with fail
  refine hK.out _ _ SS1 (fun hHeld=>?_)
  clear hK K
  refine wpAnyH_ready (rs:=[3]) (fuel:=1) (by kernel_rfl) (by simp) ?_
  refine AllReadyH.cons rfl (fun K hK=>?_) AllReadyH.nil
  go_simp
  refine (CY.out _ _ _ SS1.1 RO.out hkn).mono ?_
  rintro e w3 ⟨x,rfl,ho,hb⟩
  obtain ⟨y2,m2,d2,y3,m3,d3,y4,m4,d4,y5,m5,d5,rfl,p2,p3,p4,p5,q2,q3,q4,q5⟩:=ho
  have hvr:=VR2.out.lt
  obtain ⟨nst,hnst⟩:∃ n,n=(bK ⟨st,it,ins,outs,ah,steps⟩ (aP ⟨st,it,ins,outs,ah,steps⟩)).states:=⟨_,rfl⟩
  obtain ⟨nit,hnit⟩:∃ n,n=(bK ⟨st,it,ins,outs,ah,steps⟩ (aP ⟨st,it,ins,outs,ah,steps⟩)).init:=⟨_,rfl⟩
  rw [← hnst,← hnit]
  have SS2:Below w.heap.size w w3∧ae w3 w.heap.size #[.int .i64 st,.int .i64 it,.slice (some ⟨b2,o2,none⟩) n2 c2,.slice (some ⟨b3,o3,none⟩) n3 c3,.slice (some ⟨b4,o4,none⟩) n4 c4,.slice a5 n5 c5] 27∧w3.cell? ⟨w.heap.size,0,none⟩=some (.int .i64 st)∧w3.cell? ⟨w.heap.size,1,none⟩=some (.int .i64 it)∧w3.cell? ⟨w.heap.size,2,none⟩=some (.slice (some ⟨b2,o2,none⟩) n2 c2)∧w3.cell? ⟨w.heap.size,3,none⟩=some (.slice (some ⟨b3,o3,none⟩) n3 c3)∧w3.cell? ⟨w.heap.size,4,none⟩=some (.slice (some ⟨b4,o4,none⟩) n4 c4)∧w3.cell? ⟨w.heap.size,5,none⟩=some (.slice a5 n5 c5):=by
   have ha:=SS1.2.1.below hb
   exact ⟨SS1.1.trans (hb.mono SS1.1.size),ha,ha.cell rfl,ha.cell rfl,ha.cell rfl,ha.cell rfl,ha.cell rfl,ha.cell rfl⟩
  have VR3:=Lib.hid (VR2.out.below hb)
  have P2:=Lib.hid p2
  have P3:=Lib.hid p3
  have P4:=Lib.hid p4
  have P5:=Lib.hid p5
  have Q2:=Lib.hid q2
  have Q3:=Lib.hid q3
  have Q4:=Lib.hid q4
  have Q5:=Lib.hid q5
  have HST:=Lib.hid hnst
  have HIT:=Lib.hid hnit
  have sz2:=hb.size
  clear p2 p3 p4 p5 q2 q3 q4 q5 hnst hnit hb
  go_wp2_with fail
  refine hK.out _ _ SS2 (fun hHeld=>?_)
  clear hK K
  have TH:Hid (w3.there (w.heap.size+1) 0 6):=VR3.out.there rfl
  have HGS:=Lib.hid (aA (w.heap.size+1) [.int .i64 nst,.int .i64 nit,.slice y2 m2 d2,.slice y3 m3 d3,.slice y4 m4 d4,.slice y5 m5 d5] 0 w3)
  have SS3:Below w.heap.size w (w3.setCells (w.heap.size+1) 0 [.int .i64 nst,.int .i64 nit,.slice y2 m2 d2,.slice y3 m3 d3,.slice y4 m4 d4,.slice y5 m5 d5])∧ae (w3.setCells (w.heap.size+1) 0 [.int .i64 nst,.int .i64 nit,.slice y2 m2 d2,.slice y3 m3 d3,.slice y4 m4 d4,.slice y5 m5 d5]) w.heap.size #[.int .i64 st,.int .i64 it,.slice (some ⟨b2,o2,none⟩) n2 c2,.slice (some ⟨b3,o3,none⟩) n3 c3,.slice (some ⟨b4,o4,none⟩) n4 c4,.slice a5 n5 c5] 27∧(w3.setCells (w.heap.size+1) 0 [.int .i64 nst,.int .i64 nit,.slice y2 m2 d2,.slice y3 m3 d3,.slice y4 m4 d4,.slice y5 m5 d5]).cell? ⟨w.heap.size,0,none⟩=some (.int .i64 st)∧(w3.setCells (w.heap.size+1) 0 [.int .i64 nst,.int .i64 nit,.slice y2 m2 d2,.slice y3 m3 d3,.slice y4 m4 d4,.slice y5 m5 d5]).cell? ⟨w.heap.size,1,none⟩=some (.int .i64 it)∧(w3.setCells (w.heap.size+1) 0 [.int .i64 nst,.int .i64 nit,.slice y2 m2 d2,.slice y3 m3 d3,.slice y4 m4 d4,.slice y5 m5 d5]).cell? ⟨w.heap.size,2,none⟩=some (.slice (some ⟨b2,o2,none⟩) n2 c2)∧(w3.setCells (w.heap.size+1) 0 [.int .i64 nst,.int .i64 nit,.slice y2 m2 d2,.slice y3 m3 d3,.slice y4 m4 d4,.slice y5 m5 d5]).cell? ⟨w.heap.size,3,none⟩=some (.slice (some ⟨b3,o3,none⟩) n3 c3)∧(w3.setCells (w.heap.size+1) 0 [.int .i64 nst,.int .i64 nit,.slice y2 m2 d2,.slice y3 m3 d3,.slice y4 m4 d4,.slice y5 m5 d5]).cell? ⟨w.heap.size,4,none⟩=some (.slice (some ⟨b4,o4,none⟩) n4 c4)∧(w3.setCells (w.heap.size+1) 0 [.int .i64 nst,.int .i64 nit,.slice y2 m2 d2,.slice y3 m3 d3,.slice y4 m4 d4,.slice y5 m5 d5]).cell? ⟨w.heap.size,5,none⟩=some (.slice a5 n5 c5):=by
   have ha:=SS2.2.1.grown HGS.out (fun e=>by have:=Option.some.inj e;omega)
   exact ⟨SS2.1.grown HGS.out SS2.1.size (fun q hq=>by cases hq;omega),ha,ha.cell rfl,ha.cell rfl,ha.cell rfl,ha.cell rfl,ha.cell rfl,ha.cell rfl⟩
  refine wpAnyH_ready (rs:=[4]) (fuel:=0) (by kernel_rfl) (by simp) ?_
  refine AllReadyH.cons rfl (fun K hK=>?_) AllReadyH.nil
  rw [if_pos (by rfl)]
  refine wp_store_mid _ _ _ rfl (w.heap.size+1) 0 #[.int .i64 nst,.int .i64 nit,.slice y2 m2 d2,.slice y3 m3 d3,.slice y4 m4 d4,.slice y5 m5 d5] rfl rfl TH.out (by kernel_rfl) (di _ _ _ _ _ _ _ _ _ _ _ _ _ _) ?_
  refine hK.out _ _ SS3 (fun hHeld=>?_)
  clear hK K
  refine wpAnyH_done (by kernel_rfl) ?_ _
  have BF:=Lib.hid SS3.1
  have RG2:Hid ((w3.setCells (w.heap.size+1) 0 [.int .i64 nst,.int .i64 nit,.slice y2 m2 d2,.slice y3 m3 d3,.slice y4 m4 d4,.slice y5 m5 d5]).rangeAt (w.heap.size+1) 0 [.int .i64 nst,.int .i64 nit,.slice y2 m2 d2,.slice y3 m3 d3,.slice y4 m4 d4,.slice y5 m5 d5]):=World.rangeAt_setCells_same w3 (w.heap.size+1) 0 _ TH.out
  clear SS1 SS2 SS3 hHeld
  have sz0:=S0.1.size
  clear S0
  go_wp2_with fail
  have hres:=Eg.out.trans (FV HQ.out)
  refine bodyPost_ret (v:=.agg #[.int .i64 nst,.int .i64 nit,.slice y2 m2 d2,.slice y3 m3 d3,.slice y4 m4 d4,.slice y5 m5 d5]) ?_ rfl ⟨_,rfl,?_,BF.out⟩
  ·have HC0:=RG2.out 0 _ rfl
   have HC1:=RG2.out 1 _ rfl
   have HC2:=RG2.out 2 _ rfl
   have HC3:=RG2.out 3 _ rfl
   have HC4:=RG2.out 4 _ rfl
   have HC5:=RG2.out 5 _ rfl
   simp only [Nat.zero_add] at HC0 HC1 HC2 HC3 HC4 HC5
   simp [results,Tryz.results78,go_sem,HC0,HC1,HC2,HC3,HC4,HC5]
  ·rw [hres]
   refine ⟨y2,m2,d2,y3,m3,d3,y4,m4,d4,y5,m5,d5,by rw [HST.out,HIT.out],P2.out.grown HGS.out ?_,P3.out.grown HGS.out ?_,P4.out.grown HGS.out ?_,P5.out.grown HGS.out ?_,?_,?_,?_,?_⟩
   ·exact fun q h1 h2=>by have:=Q2.out q h1 h2;omega
   ·exact fun q h1 h2=>by have:=Q3.out q h1 h2;omega
   ·exact fun q h1 h2=>by have:=Q4.out q h1 h2;omega
   ·exact fun q h1 h2=>by have:=Q5.out q h1 h2;omega
   ·exact fun q h1 h2=>by have:=Q2.out q h1 h2;omega
   ·exact fun q h1 h2=>by have:=Q3.out q h1 h2;omega
   ·exact fun q h1 h2=>by have:=Q4.out q h1 h2;omega
   ·exact fun q h1 h2=>by have:=Q5.out q h1 h2;omega
open Go.RowKit
theorem Iu (w:World) (P o:Nat) (v:Value):w.grownBy (w.setCell ⟨P,o,none⟩ v) (some P) :=
 ⟨rfl,rfl,rfl,by simp [World.setCell],fun k _ hk=>Below.heap_setCell _ _ _ _ (fun e=>hk (by simp [e]))⟩
def gU (su:Int) (F:List Pr) (ss:List St):List St:=ss.filter fun x => !decide (bD su x.1∈F)&&!decide (bD su x.2.2∈F)
theorem ES (su:Int) (F:List Pr) (ss:List St) (x:St):gU su F (ss++[x])=gU su F ss++if !decide (bD su x.1∈F)&&!decide (bD su x.2.2∈F) then [x] else []:=by
 unfold gU
 rw [List.filter_append]
 congr 1
 simp only [List.filter_cons,List.filter_nil]
theorem Bg (su iu:Int) (u2 u3 u4 u5:Value) (pst pit:Int) (v2 v3 v4:Value) (p5:Option Addr) (o5 e5:Nat) (dw:List St) (st:Int) (M n:Nat) (F:List Pr) (w:World) (r5:eP w p5 o5 dw) (ho5:o5≤400) (sA:1≤st∧st≤40) (sB:1≤su∧su≤40) (yK:∀ x∈dw,(0≤x.1∧x.1≤st*su - 1)∧(0≤x.2.2∧x.2.2≤st*su - 1)) (hm:eQ w M n (fun p q=>decide ((p,q)∈F))) :
  Calls Tryz.prog 80 #[.agg #[.int .i64 su,.int .i64 iu,u2,u3,u4,u5],.agg #[.int .i64 pst,.int .i64 pit,v2,v3,v4,.slice p5 o5 e5],.map (some M)] w fun e w'=>∃ v',e=.returned v'∧OwnsS 77 w' w.heap.size v' (gU su F dw).length (gU su F dw)∧Below w.heap.size w w':=by
 have HE:=Lib.hid yK
 have R5:=Lib.hid r5
 have HM:=Lib.hid hm
 clear yK r5 hm
 obtain ⟨L,hL⟩:∃ l,l=gU su F dw:=⟨_,rfl⟩
 rw [← hL]
 have HL:=Lib.hid hL
 clear hL
 have hmul:=(rq sA sB).2
 obtain ⟨wz,hwz⟩:∃ x,x=((w.alloc (.cells #[.int .i64 su,.int .i64 iu,u2,u3,u4,u5] 27)).alloc (.cells #[.int .i64 pst,.int .i64 pit,v2,v3,v4,.slice p5 o5 e5] 27)):=⟨_,rfl⟩
 have HSZ:Hid (wz.heap.size=w.heap.size+2):=by unfold Hid;rw [hwz];simp
 have RB0:Hid (Below (w.heap.size+2) wz ((w.alloc (.cells #[.int .i64 su,.int .i64 iu,u2,u3,u4,u5] 27)).alloc (.cells #[.int .i64 pst,.int .i64 pit,v2,v3,v4,.slice p5 o5 e5] 27))):=by unfold Hid;rw [← hwz,← HSZ.out];exact Below.refl _ _
 have HBX:Hid (∀ W,Below (w.heap.size+2) wz W→Below w.heap.size w W∧ae W w.heap.size #[.int .i64 su,.int .i64 iu,u2,u3,u4,u5] 27∧ae W (w.heap.size+1) #[.int .i64 pst,.int .i64 pit,v2,v3,v4,.slice p5 o5 e5] 27):=fun W hW=>by
  rw [← HSZ.out] at hW
  have h0:aI w wz w.heap.size (w.heap.size+1) 27 #[.int .i64 su,.int .i64 iu,u2,u3,u4,u5] #[.int .i64 pst,.int .i64 pit,v2,v3,v4,.slice p5 o5 e5]:=by rw [hwz];exact aI.start w _ _ _
  exact h0.below hW
 clear hwz
 obtain ⟨i0,hi0,hz0,hz1,hz2⟩:=info_parts (show (Tryz.prog.info? 77).map (fun i=>(i.zero,i.size,i.bytes))=some (some (.agg #[.int .i64 0,.int .i64 0,.int .i64 0]),3,24) by kernel_rfl)
 have cp5:=(HBX.out _ RB0.out).2.2.cell (j:=5) (u:=.slice p5 o5 e5) rfl
 go_enter Tryz.func80,Tryz.ntmps80
 go_wp2_with fail
 clear cp5
 go_loopw [7,13] (fun pv iv wr=>∃ (k len:Nat) (v0:Value) (T:List St),k≤o5∧v0=pv∧iv=.int .i64 (k:Int)∧Hid (OwnsS 77 wr (w.heap.size+2) v0 len T)∧Hid (T=gU su F (dw.take k))∧len≤k∧Hid (Below (w.heap.size+2) wz wr)) (fun _ iv _=>o5 - (intOf iv).toNat)
 case atStart=>exact ⟨0,0,_,[],Nat.zero_le _,rfl,rfl,World.ownsRow_nil _ _ _ _,rfl,Nat.le_refl _,RB0.out⟩
 case round =>
  clear RB0
  obtain ⟨k,len,v0,T,hk,rfl,rfl,HO,HT,hlen,HB⟩:=hrel
  by_cases hlt:k<o5
  ·obtain ⟨b,off,rfl,hbx,hcell⟩:=R5.out.2 (by omega)
   have hkx:k<dw.length:=by rw [R5.out.1];exact hlt
   obtain ⟨⟨xf,xa,xt⟩,hs⟩:∃ t,t=dw[k]:=⟨_,rfl⟩
   obtain ⟨s0,s1,s2⟩:=hcell k dw[k] (List.getElem?_eq_getElem hkx)
   obtain ⟨hf,ht⟩:=HE.out dw[k] (List.getElem_mem hkx)
   rw [← hs] at s0 s1 s2 hf ht
   simp only at hf ht
   have BWr:=(HBX.out _ HB.out).1
   have g0:=(BWr.cell (p:=⟨b,off+k*3,none⟩) hbx).trans s0
   have g1:=(BWr.cell (p:=⟨b,off+k*3+1,none⟩) hbx).trans s1
   have g2:=(BWr.cell (p:=⟨b,off+k*3+2,none⟩) hbx).trans s2
   simp only at g0 g1 g2
   obtain ⟨⟨t0,t1⟩,xw⟩:∃ t,t=bD su xt:=⟨_,rfl⟩
   obtain ⟨⟨f0,f1⟩,y9⟩:∃ t,t=bD su xf:=⟨_,rfl⟩
   have hlf:=qR sB (s:=xf) (n:=st) (by omega) hf.1 hf.2
   have hlt2:=qR sB (s:=xt) (n:=st) (by omega) ht.1 ht.2
   rw [← y9] at hlf
   rw [← xw] at hlt2
   simp only at hlf hlt2
   have CF:Hid (∀ W,Calls Tryz.prog 121 #[.agg #[.int .i64 su,.int .i64 iu,u2,u3,u4,u5],.int .i64 xf] W fun e w'=>e=.returned (.agg #[.int .i64 f0,.int .i64 f1])∧Below W.heap.size W w'):=fun W=>by
    have h0:=nU su iu u2 u3 u4 u5 xf W
    rw [← y9] at h0
    exact h0
   have CT:Hid (∀ W,Calls Tryz.prog 121 #[.agg #[.int .i64 su,.int .i64 iu,u2,u3,u4,u5],.int .i64 xt] W fun e w'=>e=.returned (.agg #[.int .i64 t0,.int .i64 t1])∧Below W.heap.size W w'):=fun W=>by
    have h0:=nU su iu u2 u3 u4 u5 xt W
    rw [← xw] at h0
    exact h0
   obtain ⟨q1,hq1⟩:∃ q,q=decide ((f0,f1)∈F):=⟨_,rfl⟩
   obtain ⟨q2,hq2⟩:∃ q,q=decide ((t0,t1)∈F):=⟨_,rfl⟩
   have L1:Hid (∀ W,Below w.heap.size w W→(Instr.lookup 87 (.map (some M)) (.agg #[.int .i64 f0,.int .i64 f1]) false).run Tryz.prog W=.ok (.bool q1) W):=fun W hW=>by
    rw [hq1]
    exact (HM.out.below hW).look (iC (by omega) (by omega)) (iC (by omega) (by omega))
   have L2:Hid (∀ W,Below w.heap.size w W→(Instr.lookup 87 (.map (some M)) (.agg #[.int .i64 t0,.int .i64 t1]) false).run Tryz.prog W=.ok (.bool q2) W):=fun W hW=>by
    rw [hq2]
    exact (HM.out.below hW).look (iC (by omega) (by omega)) (iC (by omega) (by omega))
   have HST:Hid (gU su F (dw.take (k+1))=T++if !q1&&!q2 then [(xf,xa,xt)] else []):=by
    unfold Hid
    rw [List.take_succ_eq_append_getElem hkx,ES,← hs,← HT.out]
    simp only
    rw [← y9,← xw,hq1,hq2]
   have hsz:w.heap.size+2≤wr.heap.size:=by have h1:=HB.out.size;have h2:=HSZ.out;omega
   have bx:Hid (Below wr.heap.size wr (wr.alloc (.cells #[.int .i64 xf,.int .i64 xa,.int .i64 xt] 77))):=(Below.refl _ _).alloc (Nat.le_refl _) _
   have X1:=Lib.hid (ae.new wr #[.int .i64 xf,.int .i64 xa,.int .i64 xt] 77 rfl)
   have B1:Hid (Below (w.heap.size+2) wz (wr.alloc (.cells #[.int .i64 xf,.int .i64 xa,.int .i64 xt] 77))):=HB.out.alloc hsz _
   have O1:=Lib.hid (HO.out.alloc (.cells #[.int .i64 xf,.int .i64 xa,.int .i64 xt] 77))
   have N1:Hid (v0.ownBlock≠some wr.heap.size):=fun e=>by have:=(HO.out.lt _ e).2;omega
   have y0:=X1.out.cell (j:=0) (u:=.int .i64 xf) rfl
   obtain ⟨cb0,cb1,cb2,cb3,cb4,cb5⟩:=(HBX.out _ B1.out).2.1.aO
   clear s0 s1 s2 hs hcell hq1 hq2 xw y9 hlf hlt2 hf ht HO HB bx BWr
   go_wp2_with fail
   clear cb0 cb1 cb2 cb3 cb4 cb5 y0 g0 g1 g2
   refine (CF.out _).mono ?_
   rintro e w3 ⟨rfl,hb⟩
   have hs3:wr.heap.size+1≤w3.heap.size:=by have h1:=hb.size;simpa using h1
   have B3:Hid (Below (w.heap.size+2) wz w3):=B1.out.trans (hb.mono (by simp;omega))
   have O3:=Lib.hid (O1.out.below hb)
   have X3':=Lib.hid (X1.out.below hb)
   have l1:=L1.out w3 (HBX.out _ B3.out).1
   clear hb B1 O1 X1 CF L1
   cases q1 with
   | true =>
    have HT2:Hid (T=gU su F (dw.take (k+1))):=by unfold Hid;rw [HST.out];simp
    go_wp2_with fail
    go_roundw
    case rel=>exact ⟨k+1,len,_,T,by omega,rfl,by go_num,O3.out,HT2.out,by omega,B3.out⟩
    case measure=>simp [intOf];omega
   | false =>
    have y2:=X3'.out.cell (j:=2) (u:=.int .i64 xt) rfl
    obtain ⟨cb0,cb1,cb2,cb3,cb4,cb5⟩:=(HBX.out _ B3.out).2.1.aO
    go_wp2_with fail
    clear cb0 cb1 cb2 cb3 cb4 cb5 y2 l1
    refine (CT.out _).mono ?_
    rintro e w4 ⟨rfl,hb⟩
    have hs4:=hb.size
    have B4:Hid (Below (w.heap.size+2) wz w4):=B3.out.trans (hb.mono (by omega))
    have O4:=Lib.hid (O3.out.below hb)
    have X4:=Lib.hid (X3'.out.below hb)
    have l2:=L2.out w4 (HBX.out _ B4.out).1
    clear hb B3 O3 X3' CT L2
    cases q2 with
    | true =>
     have HT2:Hid (T=gU su F (dw.take (k+1))):=by unfold Hid;rw [HST.out];simp
     go_wp2_with fail
     go_roundw
     case rel=>exact ⟨k+1,len,_,T,by omega,rfl,by go_num,O4.out,HT2.out,by omega,B4.out⟩
     case measure=>simp [intOf];omega
    | false =>
     have HT2:Hid (T++[(xf,xa,xt)]=gU su F (dw.take (k+1))):=by unfold Hid;rw [HST.out];simp
     have T1:=O4.out.alloc (.cells #[.int .i64 xf,.int .i64 xa,.int .i64 xt] 77)
     have BT:Hid (Below (w.heap.size+2) wz (w4.alloc (.cells #[.int .i64 xf,.int .i64 xa,.int .i64 xt] 77))):=B4.out.alloc (by omega) _
     have SP:fH (w4.alloc (.cells #[.int .i64 xf,.int .i64 xa,.int .i64 xt] 77)) (some ⟨w4.heap.size,0,none⟩) 1 1 [(xf,xa,xt)]:=jY w4 _ _ _
     have y0:=X4.out.cell (j:=0) (u:=.int .i64 xf) rfl
     have y1:=X4.out.cell (j:=1) (u:=.int .i64 xa) rfl
     have y2:=X4.out.cell (j:=2) (u:=.int .i64 xt) rfl
     go_wp2_with (at_builtin;refine bI rfl (.tmp 33) (.tmp 35) 25 77 rfl (w.heap.size+2) i0 Tryz.underlying25 hi0 hz0 hz1 hz2 _ len _ rfl T1 _ 1 _ [(xf,xa,xt)] rfl SP (by omega) (by simp;omega) ?_)
     rintro vz w5 ⟨hown,hgrow,_⟩
     have B5:Hid (Below (w.heap.size+2) wz w5):=BT.out.grown hgrow (by simp;omega) (fun q hq=>(T1.lt q hq).1)
     have O5:=Lib.hid hown
     clear hown hgrow T1 SP BT B4 O4 X4 y0 y1 y2 l2
     go_wp2_with fail
     go_roundw
     case rel=>exact ⟨k+1,len+1,vz,_,by omega,rfl,by go_num,O5.out,HT2.out,by omega,B5.out⟩
     case measure=>simp [intOf];omega
  ·have HE2:Hid (T=L):=by
    have h1:=HT.out
    rw [List.take_of_length_le (by rw [R5.out.1];omega)] at h1
    rw [HL.out]
    exact h1
   go_wp2_with fail
   go_ret
   have e:=HO.out.length
   rw [← HE2.out]
   subst e
   exact ⟨_,rfl,HO.out.mono (by omega),(HBX.out _ HB.out).1⟩
def jk (a b:IaD):IaD:=if ji a b then dG (eG (aQ a b) (gq a b)) else ja
theorem sD {a b:IaD} (h:ji a b=true):fQ a b=true:=by
 unfold ji at h
 rw [Bool.and_eq_true] at h
 exact h.1
theorem Jk {a b:IaD} (h:ji a b=true):(aQ a b).init∉gq a b:=by
 unfold ji at h
 rw [Bool.and_eq_true] at h
 simpa [hasB] using h.2
theorem bM.rowC {w:World} {base:Nat} {a:IaD} {v:Value} (h:bM w base a v):rY w a v:=by
 obtain ⟨x2,x3,x4,x5,rfl,o2,o3,o4,o5⟩:=h
 have nn:∀ {size n:Nat} {e:TypeId} {ad:Option Addr} {m c:Nat} {xs:List Value},w.ownsRow base e size (.slice ad m c) n xs→ad=none→c=0:=fun h e=>by
  subst e
  rcases h.2 with ⟨h2,_⟩|⟨g,cap,cur,h2,_⟩
  ·simp only [Value.slice.injEq] at h2
   exact h2.2.2
  ·simp at h2
 obtain ⟨b2,d2,rfl⟩:=o2.form
 obtain ⟨b3,d3,rfl⟩:=o3.form
 obtain ⟨b4,d4,rfl⟩:=o4.form
 obtain ⟨b5,d5,rfl⟩:=o5.form
 exact ⟨_,_,_,_,_,_,_,_,_,_,_,_,rfl,o2.row.2.2.2,o3.row.2.2.2,o4.row.2.2.2,o5.row.2.2.2,nn o2,nn o3,nn o4⟩
theorem rY.steps {w:World} {st it:Int} {a2:Option Addr} {n2 c2:Nat} {a3:Option Addr} {n3 c3:Nat} {a4:Option Addr} {n4 c4:Nat} {a5:Option Addr} {n5 c5:Nat} {ins outs ah:List Int} {steps ss:List St} {a6:Option Addr} {n6 c6:Nat} (h:rY w ⟨st,it,ins,outs,ah,steps⟩ (.agg #[.int .i64 st,.int .i64 it,.slice a2 n2 c2,.slice a3 n3 c3,.slice a4 n4 c4,.slice a5 n5 c5])) (r6:eP w a6 n6 ss):rY w ⟨st,it,ins,outs,ah,ss⟩ (.agg #[.int .i64 st,.int .i64 it,.slice a2 n2 c2,.slice a3 n3 c3,.slice a4 n4 c4,.slice a6 n6 c6]):=by
 obtain ⟨b2,m2,d2,b3,m3,d3,b4,m4,d4,b5,m5,d5,e,h2,h3,h4,h5,k2,k3,k4⟩:=h
 simp only [Value.agg.injEq,Array.mk.injEq,List.cons.injEq,Value.slice.injEq,and_true,true_and] at e
 obtain ⟨⟨rfl,rfl,rfl⟩,⟨rfl,rfl,rfl⟩,⟨rfl,rfl,rfl⟩,rfl,rfl,rfl⟩:=e
 exact ⟨_,_,_,_,_,_,_,_,_,_,_,_,rfl,h2,h3,h4,r6,k2,k3,k4⟩
theorem dS.lower {w:World} {base base':Nat} {a:IaD} {v:Value} (h:dS w base' a v) (hb:base≤base'):dS w base a v:=by
 obtain ⟨x2,x3,x4,x5,e,o2,o3,o4,o5,p⟩:=h
 exact ⟨x2,x3,x4,x5,e,o2.mono hb,o3.mono hb,o4.mono hb,o5.mono hb,p⟩
theorem Jl {a b:IaD} (hp:fQ a b=true) {F:List Pr} (hF:EO a b F):gU b.states F (aQ a b).steps=(eG (aQ a b) (gq a b)).steps:=by
 obtain ⟨oka,okb,_⟩:=iQ (uI hp)
 have sA:=aN oka
 have sB:=aN okb
 have hm:=(rq sA sB).2
 unfold gU eG
 refine List.filter_congr fun x hx=>?_
 obtain ⟨e1,e2⟩:=uV hp x hx
 have q1:=qR sB (s:=x.1) (n:=a.states) (by omega) e1.1 e1.2
 have q2:=qR sB (s:=x.2.2) (n:=a.states) (by omega) e2.1 e2.2
 have h1:=zX hp hF (p:=(bD b.states x.1).1) (q:=(bD b.states x.1).2) q1.1 q1.2
 have h2:=zX hp hF (p:=(bD b.states x.2.2).1) (q:=(bD b.states x.2.2).2) q2.1 q2.2
 rw [vN sB (by omega)] at h1 h2
 rw [← h1,← h2]
theorem zY (a b:IaD) (v u:Value) (w:World) (h:aB w a v) (k:aB w b u) (fa:Small a) (fb:Small b) :
  Calls Tryz.prog 32 #[v,u] w fun e w'=>∃ v',e=.returned (.tuple #[v',.bool (ji a b)])∧dS w' w.heap.size (jk a b) v'∧Below w.heap.size w w':=by
 obtain ⟨q,hq⟩:∃ q,q=fQ a b:=⟨_,rfl⟩
 obtain ⟨⟨tst,tit,ay,ak,au,ai⟩,hT⟩:∃ t,t=gI a b:=⟨_,rfl⟩
 obtain ⟨x2,x3,x4,x5⟩:=qK fa fb
 rw [← hT] at x2 x3 x4 x5
 simp only at x2 x3 x4 x5
 have CPr:Hid (∀ W,Below w.heap.size w W→Calls Tryz.prog 16 #[v,u] W fun e w'=>∃ (xa2:Option Addr) (xc2:Nat) (xa3:Option Addr) (xc3:Nat) (xa4:Option Addr) (xc4:Nat) (xa5:Option Addr) (xc5:Nat),e=.returned (.tuple #[.agg #[.int .i64 tst,.int .i64 tit,.slice xa2 ay.length xc2,.slice xa3 ak.length xc3,.slice xa4 au.length xc4,.slice xa5 ai.length xc5],.bool q])∧bM w' W.heap.size ⟨tst,tit,ay,ak,au,ai⟩ (.agg #[.int .i64 tst,.int .i64 tit,.slice xa2 ay.length xc2,.slice xa3 ak.length xc3,.slice xa4 au.length xc4,.slice xa5 ai.length xc5])∧Below W.heap.size W w'):=fun W hW=>by
  rw [hq,hT]
  refine (AO a b v u W (h.below hW) (k.below hW) fa fb).mono fun e w' ⟨v',he,ho,hb⟩=>?_
  rw [← hT] at ho ⊢
  have ho:=ho.high
  obtain ⟨_,_,_,_,_,_,_,_,rfl,_⟩:=ho.rowOf
  exact ⟨_,_,_,_,_,_,_,_,he,ho,hb⟩
 have HT:Hid (q=true→⟨tst,tit,ay,ak,au,ai⟩=aQ a b):=fun e=>by
  rw [hT]
  unfold gI
  rw [if_pos (by rw [← hq];exact e)]
 have HQ:=Lib.hid hq
 obtain ⟨r,hr⟩:∃ r,r=ji a b:=⟨_,rfl⟩
 obtain ⟨RD,hRD⟩:∃ t,t=jk a b:=⟨_,rfl⟩
 have HR:Hid (r=(q&&!hasB (gq a b) (aQ a b).init)):=by
  unfold Hid
  rw [hr,hq]
  rfl
 have yB:Hid (r=false→RD=ja):=fun e=>by
  rw [hRD]
  unfold jk
  rw [← hr,e]
  rfl
 have zZ:Hid (r=true→RD=dG (eG (aQ a b) (gq a b))):=fun e=>by
  rw [hRD]
  unfold jk
  rw [← hr,e]
  rfl
 rw [← hr,← hRD]
 clear hq hT hr hRD
 obtain ⟨a2,n2,c2,a3,n3,c3,a4,n4,c4,a5,n5,c5,rfl,r2,r3,r4,r5⟩:=h
 obtain ⟨b2,m2,d2,b3,m3,d3,b4,m4,d4,b5,m5,d5,rfl,q2,q3,q4,q5⟩:=k
 obtain ⟨st,it,ins,outs,ah,steps⟩:=a
 obtain ⟨su,iu,jns,aF,aG,ax⟩:=b
 obtain ⟨f2,f3,f4,f5⟩:=fa
 obtain ⟨g2,g3,g4,g5⟩:=fb
 simp only at r2 r3 r4 r5 q2 q3 q4 q5 f2 f3 f4 f5 g2 g3 g4 g5
 have HA:Hid (∀ W,Below w.heap.size w W→aB W ⟨st,it,ins,outs,ah,steps⟩ (.agg #[.int .i64 st,.int .i64 it,.slice a2 n2 c2,.slice a3 n3 c3,.slice a4 n4 c4,.slice a5 n5 c5])):=fun W hW=>aB.below ⟨a2,n2,c2,a3,n3,c3,a4,n4,c4,a5,n5,c5,rfl,r2,r3,r4,r5⟩ hW
 have HB:Hid (∀ W,Below w.heap.size w W→aB W ⟨su,iu,jns,aF,aG,ax⟩ (.agg #[.int .i64 su,.int .i64 iu,.slice b2 m2 d2,.slice b3 m3 d3,.slice b4 m4 d4,.slice b5 m5 d5])):=fun W hW=>aB.below ⟨b2,m2,d2,b3,m3,d3,b4,m4,d4,b5,m5,d5,rfl,q2,q3,q4,q5⟩ hW
 have S0:=Lib.hid (aI.start w (iaC st it a2 n2 c2 a3 n3 c3 a4 n4 c4 a5 n5 c5) (iaC su iu b2 m2 d2 b3 m3 d3 b4 m4 d4 b5 m5 d5) 27)
 have FSA:Hid (Small ⟨st,it,ins,outs,ah,steps⟩):=⟨f2,f3,f4,f5⟩
 have FSB:Hid (Small ⟨su,iu,jns,aF,aG,ax⟩):=⟨g2,g3,g4,g5⟩
 clear r2 r3 r4 r5 q2 q3 q4 q5 f2 f3 f4 f5 g2 g3 g4 g5
 have CB:Hid (q=true→∀ W xa2 xc2 xa3 xc3 xa4 xc4 xa5 xc5,Below w.heap.size w W→bM W w.heap.size ⟨tst,tit,ay,ak,au,ai⟩ (.agg #[.int .i64 tst,.int .i64 tit,.slice xa2 ay.length xc2,.slice xa3 ak.length xc3,.slice xa4 au.length xc4,.slice xa5 ai.length xc5])→Calls Tryz.prog 69 #[.agg #[.int .i64 st,.int .i64 it,.slice a2 n2 c2,.slice a3 n3 c3,.slice a4 n4 c4,.slice a5 n5 c5],.agg #[.int .i64 su,.int .i64 iu,.slice b2 m2 d2,.slice b3 m3 d3,.slice b4 m4 d4,.slice b5 m5 d5],.agg #[.int .i64 tst,.int .i64 tit,.slice xa2 ay.length xc2,.slice xa3 ak.length xc3,.slice xa4 au.length xc4,.slice xa5 ai.length xc5]] W fun e w'=>∃ M n F,e=.returned (.map (some M))∧eQ w' M n (fun p q=>decide ((p,q)∈F))∧EO ⟨st,it,ins,outs,ah,steps⟩ ⟨su,iu,jns,aF,aG,ax⟩ F∧Below W.heap.size W w'):=fun e W xa2 xc2 xa3 xc3 xa4 xc4 xa5 xc5 hW hT=>by
  have hp:fQ ⟨st,it,ins,outs,ah,steps⟩ ⟨su,iu,jns,aF,aG,ax⟩=true:=by rw [← HQ.out];exact e
  have ht:=HT.out e
  obtain ⟨oka,okb,_⟩:=iQ (uI hp)
  have hen:=uV hp
  have hln:=dD (pY hp)
  rw [← ht] at hen hln
  refine (EM ⟨st,it,ins,outs,ah,steps⟩ ⟨su,iu,jns,aF,aG,ax⟩ ⟨tst,tit,ay,ak,au,ai⟩ _ _ _ W (HA.out W hW) (HB.out W hW) hT.yJ FSA.out FSB.out oka okb hen hln x2).mono ?_
  rintro e w' ⟨M,n,F,rfl,hm,_,_,hF,hb⟩
  refine ⟨M,n,F,rfl,hm,?_,hb⟩
  unfold EO
  rw [← ht]
  exact hF
 have S0':Hid (aI w (((w.alloc (.cells #[.int .i64 st,.int .i64 it,.slice a2 n2 c2,.slice a3 n3 c3,.slice a4 n4 c4,.slice a5 n5 c5] 27)).alloc (.cells #[.int .i64 su,.int .i64 iu,.slice b2 m2 d2,.slice b3 m3 d3,.slice b4 m4 d4,.slice b5 m5 d5] 27)).alloc (.cells #[.int .i64 0,.int .i64 0,.slice none 0 0,.slice none 0 0,.slice none 0 0,.slice none 0 0] 27)) w.heap.size (w.heap.size+1) 27 (iaC st it a2 n2 c2 a3 n3 c3 a4 n4 c4 a5 n5 c5) (iaC su iu b2 m2 d2 b3 m3 d3 b4 m4 d4 b5 m5 d5)∧ae (((w.alloc (.cells #[.int .i64 st,.int .i64 it,.slice a2 n2 c2,.slice a3 n3 c3,.slice a4 n4 c4,.slice a5 n5 c5] 27)).alloc (.cells #[.int .i64 su,.int .i64 iu,.slice b2 m2 d2,.slice b3 m3 d3,.slice b4 m4 d4,.slice b5 m5 d5] 27)).alloc (.cells #[.int .i64 0,.int .i64 0,.slice none 0 0,.slice none 0 0,.slice none 0 0,.slice none 0 0] 27)) (w.heap.size+1+1) #[.int .i64 0,.int .i64 0,.slice none 0 0,.slice none 0 0,.slice none 0 0,.slice none 0 0] 27):=⟨S0.out.below ((Below.refl _ _).alloc (Nat.le_refl _) _),ae.new _ #[.int .i64 0,.int .i64 0,.slice none 0 0,.slice none 0 0,.slice none 0 0,.slice none 0 0] 27 (by simp)⟩
 clear S0
 obtain ⟨ca0,ca1,ca2,ca3,ca4,ca5⟩:=S0'.out.1.2.1.aO
 obtain ⟨cb0,cb1,cb2,cb3,cb4,cb5⟩:=S0'.out.1.2.2.aO
 go_enter Tryz.func32,Tryz.ntmps32
 go_wp2_with fail
 clear ca0 ca1 ca2 ca3 ca4 ca5 cb0 cb1 cb2 cb3 cb4 cb5
 refine (CPr.out _ S0'.out.1.1).mono ?_
 rintro e w4 ⟨xa2,xc2,xa3,xc3,xa4,xc4,xa5,xc5,rfl,hT4,hb⟩
 have bx:=(Below.refl w4.heap.size w4).alloc (Nat.le_refl _) (.cells #[.int .i64 tst,.int .i64 tit,.slice xa2 ay.length xc2,.slice xa3 ak.length xc3,.slice xa4 au.length xc4,.slice xa5 ai.length xc5] 27)
 have hs4:=hb.size
 have S5:Hid (iY w (w4.alloc (.cells #[.int .i64 tst,.int .i64 tit,.slice xa2 ay.length xc2,.slice xa3 ak.length xc3,.slice xa4 au.length xc4,.slice xa5 ai.length xc5] 27)) (iaC st it a2 n2 c2 a3 n3 c3 a4 n4 c4 a5 n5 c5) (iaC su iu b2 m2 d2 b3 m3 d3 b4 m4 d4 b5 m5 d5) (iaC tst tit xa2 ay.length xc2 xa3 ak.length xc3 xa4 au.length xc4 xa5 ai.length xc5) w4.heap.size ⟨tst,tit,ay,ak,au,ai⟩∧ae (w4.alloc (.cells #[.int .i64 tst,.int .i64 tit,.slice xa2 ay.length xc2,.slice xa3 ak.length xc3,.slice xa4 au.length xc4,.slice xa5 ai.length xc5] 27)) (w.heap.size+1+1) #[.int .i64 0,.int .i64 0,.slice none 0 0,.slice none 0 0,.slice none 0 0,.slice none 0 0] 27):=⟨⟨(S0'.out.1.below hb).below bx,ae.new w4 #[.int .i64 tst,.int .i64 tit,.slice xa2 ay.length xc2,.slice xa3 ak.length xc3,.slice xa4 au.length xc4,.slice xa5 ai.length xc5] 27 rfl,(hT4.mono S0'.out.1.1.size).below bx⟩,(S0'.out.2.below hb).below bx⟩
 have hRl:w.heap.size+1+1<w4.heap.size:=(S0'.out.2.below hb).lt
 clear hb hT4 bx S0' CPr
 cases q with
 | false =>
  have hr0:r=false:=HR.out
  subst hr0
  have HIN:Hid (RD=ja):=yB.out (by simp)
  clear yB zZ
  have THX:Hid ((w4.alloc (.cells #[.int .i64 tst,.int .i64 tit,.slice xa2 ay.length xc2,.slice xa3 ak.length xc3,.slice xa4 au.length xc4,.slice xa5 ai.length xc5] 27)).there (w.heap.size+1+1) 0 6):=S5.out.2.there rfl
  have RGX:Hid (((w4.alloc (.cells #[.int .i64 tst,.int .i64 tit,.slice xa2 ay.length xc2,.slice xa3 ak.length xc3,.slice xa4 au.length xc4,.slice xa5 ai.length xc5] 27)).setCells (w.heap.size+1+1) 0 [.int .i64 0,.int .i64 0,.slice none 0 0,.slice none 0 0,.slice none 0 0,.slice none 0 0]).rangeAt (w.heap.size+1+1) 0 [.int .i64 0,.int .i64 0,.slice none 0 0,.slice none 0 0,.slice none 0 0,.slice none 0 0]):=World.rangeAt_setCells_same (w4.alloc (.cells #[.int .i64 tst,.int .i64 tit,.slice xa2 ay.length xc2,.slice xa3 ak.length xc3,.slice xa4 au.length xc4,.slice xa5 ai.length xc5] 27)) (w.heap.size+1+1) 0 [.int .i64 0,.int .i64 0,.slice none 0 0,.slice none 0 0,.slice none 0 0,.slice none 0 0] (by simpa using THX.out)
  have GX:=Lib.hid (aA (w.heap.size+1+1) [.int .i64 0,.int .i64 0,.slice none 0 0,.slice none 0 0,.slice none 0 0,.slice none 0 0] 0 (w4.alloc (.cells #[.int .i64 tst,.int .i64 tit,.slice xa2 ay.length xc2,.slice xa3 ak.length xc3,.slice xa4 au.length xc4,.slice xa5 ai.length xc5] 27)))
  have BX:Hid (Below w.heap.size w ((w4.alloc (.cells #[.int .i64 tst,.int .i64 tit,.slice xa2 ay.length xc2,.slice xa3 ak.length xc3,.slice xa4 au.length xc4,.slice xa5 ai.length xc5] 27)).setCells (w.heap.size+1+1) 0 [.int .i64 0,.int .i64 0,.slice none 0 0,.slice none 0 0,.slice none 0 0,.slice none 0 0])):=S5.out.1.1.1.grown GX.out S5.out.1.1.1.size (fun q hq=>by have h1:=Option.some.inj hq;omega)
  go_wp2_with (refine wpList_store_mid rfl _ _ _ rfl (w.heap.size+1+1) 0 #[.int .i64 0,.int .i64 0,.slice none 0 0,.slice none 0 0,.slice none 0 0,.slice none 0 0] rfl rfl THX.out (by kernel_rfl) (di _ _ _ _ _ _ _ _ _ _ _ _ _ _) ?_)
  refine bodyPost_ret (v:=.tuple #[.agg #[.int .i64 0,.int .i64 0,.slice none 0 0,.slice none 0 0,.slice none 0 0,.slice none 0 0],.bool false]) ?_ rfl ⟨.agg #[.int .i64 0,.int .i64 0,.slice none 0 0,.slice none 0 0,.slice none 0 0,.slice none 0 0],rfl,by rw [HIN.out];exact wW _ _,BX.out⟩
  have HC0:=RGX.out 0 _ rfl
  have HC1:=RGX.out 1 _ rfl
  have HC2:=RGX.out 2 _ rfl
  have HC3:=RGX.out 3 _ rfl
  have HC4:=RGX.out 4 _ rfl
  have HC5:=RGX.out 5 _ rfl
  simp only [Nat.zero_add] at HC0 HC1 HC2 HC3 HC4 HC5
  simp [results,Tryz.results32,go_sem,HC0,HC1,HC2,HC3,HC4,HC5]
 | true =>
  obtain ⟨ca0,ca1,ca2,ca3,ca4,ca5⟩:=S5.out.1.1.2.1.aO
  obtain ⟨cb0,cb1,cb2,cb3,cb4,cb5⟩:=S5.out.1.1.2.2.aO
  obtain ⟨cq0,cq1,cq2,cq3,cq4,cq5⟩:=S5.out.1.2.1.aO
  go_wp2_with fail
  clear ca0 ca1 ca2 ca3 ca4 ca5 cb0 cb1 cb2 cb3 cb4 cb5 cq0 cq1 cq2 cq3 cq4 cq5
  refine (CB.out (by simp) _ _ _ _ _ _ _ _ _ S5.out.1.1.1 S5.out.1.2.2).mono ?_
  rintro e w6 ⟨M,n,F,rfl,hm,hF,hb⟩
  have S6:Hid (iY w w6 (iaC st it a2 n2 c2 a3 n3 c3 a4 n4 c4 a5 n5 c5) (iaC su iu b2 m2 d2 b3 m3 d3 b4 m4 d4 b5 m5 d5) (iaC tst tit xa2 ay.length xc2 xa3 ak.length xc3 xa4 au.length xc4 xa5 ai.length xc5) w4.heap.size ⟨tst,tit,ay,ak,au,ai⟩∧ae w6 (w.heap.size+1+1) #[.int .i64 0,.int .i64 0,.slice none 0 0,.slice none 0 0,.slice none 0 0,.slice none 0 0] 27):=⟨S5.out.1.below hb,S5.out.2.below hb⟩
  have hs6:=hb.size
  simp at hs6
  have hp:fQ ⟨st,it,ins,outs,ah,steps⟩ ⟨su,iu,jns,aF,aG,ax⟩=true:=HQ.out.symm
  have ht:=HT.out (by simp)
  obtain ⟨oka,okb,_⟩:=iQ (uI hp)
  have iA:=gV oka
  have iB:=gV okb
  have sA:=aN oka
  have sB:=aN okb
  have hz:=zX hp hF (p:=it) (q:=iu) (by simp only at iA ⊢;omega) (by simp only at iB ⊢;omega)
  have hbe:=Jl hp hF
  have hen:=uV hp
  have hln:=dD (pY hp)
  rw [← ht] at hbe hen hln
  simp only at iA iB sA sB hbe hen hln
  have hlk:=hm.look (p:=it) (q:=iu) (iC (by omega) (by omega)) (iC (by omega) (by omega))
  obtain ⟨z,hzz⟩:∃ z,z=decide ((it,iu)∈F):=⟨_,rfl⟩
  rw [← hzz] at hlk hz
  have HZ:Hid (r = !z):=by
   rw [HR.out,hz]
   rfl
  have HEN:=Lib.hid hen
  have HBE:=Lib.hid hbe
  have HMM:=Lib.hid hm
  have HTT:=Lib.hid ht
  clear hb S5 hp ht oka okb iA iB hz hzz hm hF hbe hen HR HT HQ CB
  have ca1:=S6.out.1.1.2.1.cell (j:=1) (u:=.int .i64 it) rfl
  have cb1:=S6.out.1.1.2.2.cell (j:=1) (u:=.int .i64 iu) rfl
  cases z with
  | true =>
   have hr0:r=false:=HZ.out
   subst hr0
   have HIN:Hid (RD=ja):=yB.out (by simp)
   clear yB zZ
   have THX:Hid (w6.there (w.heap.size+1+1) 0 6):=S6.out.2.there rfl
   have RGX:Hid ((w6.setCells (w.heap.size+1+1) 0 [.int .i64 0,.int .i64 0,.slice none 0 0,.slice none 0 0,.slice none 0 0,.slice none 0 0]).rangeAt (w.heap.size+1+1) 0 [.int .i64 0,.int .i64 0,.slice none 0 0,.slice none 0 0,.slice none 0 0,.slice none 0 0]):=World.rangeAt_setCells_same w6 (w.heap.size+1+1) 0 [.int .i64 0,.int .i64 0,.slice none 0 0,.slice none 0 0,.slice none 0 0,.slice none 0 0] (by simpa using THX.out)
   have GX:=Lib.hid (aA (w.heap.size+1+1) [.int .i64 0,.int .i64 0,.slice none 0 0,.slice none 0 0,.slice none 0 0,.slice none 0 0] 0 w6)
   have BX:Hid (Below w.heap.size w (w6.setCells (w.heap.size+1+1) 0 [.int .i64 0,.int .i64 0,.slice none 0 0,.slice none 0 0,.slice none 0 0,.slice none 0 0])):=S6.out.1.1.1.grown GX.out S6.out.1.1.1.size (fun q hq=>by have h1:=Option.some.inj hq;omega)
   go_wp2_with (refine wpList_store_mid rfl _ _ _ rfl (w.heap.size+1+1) 0 #[.int .i64 0,.int .i64 0,.slice none 0 0,.slice none 0 0,.slice none 0 0,.slice none 0 0] rfl rfl THX.out (by kernel_rfl) (di _ _ _ _ _ _ _ _ _ _ _ _ _ _) ?_)
   refine bodyPost_ret (v:=.tuple #[.agg #[.int .i64 0,.int .i64 0,.slice none 0 0,.slice none 0 0,.slice none 0 0,.slice none 0 0],.bool false]) ?_ rfl ⟨.agg #[.int .i64 0,.int .i64 0,.slice none 0 0,.slice none 0 0,.slice none 0 0,.slice none 0 0],rfl,by rw [HIN.out];exact wW _ _,BX.out⟩
   have HC0:=RGX.out 0 _ rfl
   have HC1:=RGX.out 1 _ rfl
   have HC2:=RGX.out 2 _ rfl
   have HC3:=RGX.out 3 _ rfl
   have HC4:=RGX.out 4 _ rfl
   have HC5:=RGX.out 5 _ rfl
   simp only [Nat.zero_add] at HC0 HC1 HC2 HC3 HC4 HC5
   simp [results,Tryz.results32,go_sem,HC0,HC1,HC2,HC3,HC4,HC5]
  | false =>
   have hr0:r=true:=HZ.out
   subst hr0
   have HRR:Hid (RD=dG ⟨tst,tit,ay,ak,au,gU su F ai⟩):=by
    unfold Hid
    rw [zZ.out (by simp),← HTT.out,HBE.out]
    rfl
   clear yB zZ HBE HTT
   obtain ⟨L,hL⟩:∃ l,l=gU su F ai:=⟨_,rfl⟩
   rw [← hL] at HRR
   have hLl:L.length≤400:=by
    rw [hL]
    unfold gU
    exact Nat.le_trans (List.length_filter_le _ _) hln
   obtain ⟨n6,hn6⟩:∃ n,n=L.length:=⟨_,rfl⟩
   have CS:Hid (Calls Tryz.prog 80 #[.agg #[.int .i64 su,.int .i64 iu,.slice b2 m2 d2,.slice b3 m3 d3,.slice b4 m4 d4,.slice b5 m5 d5],.agg #[.int .i64 tst,.int .i64 tit,.slice xa2 ay.length xc2,.slice xa3 ak.length xc3,.slice xa4 au.length xc4,.slice xa5 ai.length xc5],.map (some M)] w6 fun e w'=>∃ a6 c6,e=.returned (.slice a6 n6 c6)∧OwnsS 77 w' w6.heap.size (.slice a6 n6 c6) n6 L∧Below w6.heap.size w6 w'):=by
    unfold Hid
    rw [hn6,hL]
    refine (Bg su iu _ _ _ _ tst tit _ _ _ xa5 ai.length xc5 ai st M n F w6 S6.out.1.2.2.yJ.parts.2.2.2 hln sA sB HEN.out HMM.out).mono ?_
    rintro e w' ⟨v',rfl,ho,hb⟩
    obtain ⟨ad,c,rfl⟩:=ho.form
    exact ⟨ad,c,rfl,ho,hb⟩
   clear hL hn6 HEN HMM
   have cb0:=S6.out.1.1.2.2.cell (j:=0) (u:=.int .i64 su) rfl
   have cb2:=S6.out.1.1.2.2.cell (j:=2) (u:=.slice b2 m2 d2) rfl
   have cb3:=S6.out.1.1.2.2.cell (j:=3) (u:=.slice b3 m3 d3) rfl
   have cb4:=S6.out.1.1.2.2.cell (j:=4) (u:=.slice b4 m4 d4) rfl
   have cb5:=S6.out.1.1.2.2.cell (j:=5) (u:=.slice b5 m5 d5) rfl
   obtain ⟨cq0,cq1,cq2,cq3,cq4,cq5⟩:=S6.out.1.2.1.aO
   go_wp2_with fail
   clear ca1 cb0 cb1 cb2 cb3 cb4 cb5 cq0 cq1 cq2 cq3 cq4 cq5 hlk
   refine CS.out.mono ?_
   rintro e w7 ⟨a6,c6,rfl,ho,hb⟩
   have S7:Hid (iY w w7 (iaC st it a2 n2 c2 a3 n3 c3 a4 n4 c4 a5 n5 c5) (iaC su iu b2 m2 d2 b3 m3 d3 b4 m4 d4 b5 m5 d5) (iaC tst tit xa2 ay.length xc2 xa3 ak.length xc3 xa4 au.length xc4 xa5 ai.length xc5) w4.heap.size ⟨tst,tit,ay,ak,au,ai⟩∧ae w7 (w.heap.size+1+1) #[.int .i64 0,.int .i64 0,.slice none 0 0,.slice none 0 0,.slice none 0 0,.slice none 0 0] 27):=⟨S6.out.1.below hb,S6.out.2.below hb⟩
   have O7:=Lib.hid ho
   have hs7:=hb.size
   have hBl:=S7.out.1.2.1.lt
   clear hb ho S6 CS
   have G8:=Lib.hid (Iu w7 w4.heap.size 5 (.slice a6 n6 c6))
   have V8:Hid (ae (w7.setCell ⟨w4.heap.size,5,none⟩ (.slice a6 n6 c6)) w4.heap.size #[.int .i64 tst,.int .i64 tit,.slice xa2 ay.length xc2,.slice xa3 ak.length xc3,.slice xa4 au.length xc4,.slice a6 n6 c6] 27):=S7.out.1.2.1.set 5 (.slice a6 n6 c6)
   have H8:=Lib.hid (S7.out.1.2.2.az S7.out.1.2.1 G8.out)
   have O8:=Lib.hid (O7.out.keep G8.out (fun k hk he=>iF O7.out S7.out.1.2.1 (by decide) (hk.trans he)))
   have B8:Hid (Below w.heap.size w (w7.setCell ⟨w4.heap.size,5,none⟩ (.slice a6 n6 c6))):=S7.out.1.1.1.grown G8.out S7.out.1.1.1.size (fun k hk=>by have h1:=Option.some.inj hk;omega)
   have R8:Hid (ae (w7.setCell ⟨w4.heap.size,5,none⟩ (.slice a6 n6 c6)) (w.heap.size+1+1) #[.int .i64 0,.int .i64 0,.slice none 0 0,.slice none 0 0,.slice none 0 0,.slice none 0 0] 27):=S7.out.2.grown G8.out (fun e=>by have h1:=Option.some.inj e;omega)
   have C8:Hid (rY (w7.setCell ⟨w4.heap.size,5,none⟩ (.slice a6 n6 c6)) ⟨tst,tit,ay,ak,au,L⟩ (.agg #[.int .i64 tst,.int .i64 tit,.slice xa2 ay.length xc2,.slice xa3 ak.length xc3,.slice xa4 au.length xc4,.slice a6 n6 c6])):=H8.out.rowC.steps O8.out.row.2.2.2
   obtain ⟨w8,hw8⟩:∃ x,x=w7.setCell ⟨w4.heap.size,5,none⟩ (.slice a6 n6 c6):=⟨_,rfl⟩
   obtain ⟨cq0,cq1,cq2,cq3,cq4,cq5⟩:=V8.out.aO
   have kc5:=S7.out.1.2.1.cell (j:=5) (u:=.slice xa5 ai.length xc5) rfl
   have kf5:=S7.out.1.2.1.frozen 5
   go_wp2_with fail
   clear cq0 cq1 cq2 cq3 cq4 cq5 kc5 kf5
   rw [← hw8] at B8 R8 C8 ⊢
   clear hw8 V8 H8 O8 G8 S7 O7
   refine (AB ⟨tst,tit,ay,ak,au,L⟩ _ _ C8.out x2 x3 x4 (by simp only;omega)).mono ?_
   rw [← HRR.out]
   rintro e w9 ⟨v9,rfl,ho,hb⟩
   obtain ⟨rst,rit,yC,uX,uY,sG⟩:=RD
   obtain ⟨ya2,yc2,ya3,yc3,ya4,yc4,ya5,yc5,rfl⟩:=ho.Jc
   simp only at ho
   have B9:Hid (Below w.heap.size w w9):=B8.out.trans (hb.mono B8.out.size)
   have R9:=Lib.hid (R8.out.below hb)
   have O9:=Lib.hid (dS.lower ho B8.out.size)
   clear hb ho B8 R8 C8
   have THX:Hid (w9.there (w.heap.size+1+1) 0 6):=R9.out.there rfl
   have RGX:Hid ((w9.setCells (w.heap.size+1+1) 0 [.int .i64 rst,.int .i64 rit,.slice ya2 yC.length yc2,.slice ya3 uX.length yc3,.slice ya4 uY.length yc4,.slice ya5 sG.length yc5]).rangeAt (w.heap.size+1+1) 0 [.int .i64 rst,.int .i64 rit,.slice ya2 yC.length yc2,.slice ya3 uX.length yc3,.slice ya4 uY.length yc4,.slice ya5 sG.length yc5]):=World.rangeAt_setCells_same w9 (w.heap.size+1+1) 0 [.int .i64 rst,.int .i64 rit,.slice ya2 yC.length yc2,.slice ya3 uX.length yc3,.slice ya4 uY.length yc4,.slice ya5 sG.length yc5] (by simpa using THX.out)
   have GX:=Lib.hid (aA (w.heap.size+1+1) [.int .i64 rst,.int .i64 rit,.slice ya2 yC.length yc2,.slice ya3 uX.length yc3,.slice ya4 uY.length yc4,.slice ya5 sG.length yc5] 0 w9)
   have BX:Hid (Below w.heap.size w (w9.setCells (w.heap.size+1+1) 0 [.int .i64 rst,.int .i64 rit,.slice ya2 yC.length yc2,.slice ya3 uX.length yc3,.slice ya4 uY.length yc4,.slice ya5 sG.length yc5])):=B9.out.grown GX.out B9.out.size (fun q hq=>by have h1:=Option.some.inj hq;omega)
   go_wp2_with (refine wpList_store_mid rfl _ _ _ rfl (w.heap.size+1+1) 0 #[.int .i64 rst,.int .i64 rit,.slice ya2 yC.length yc2,.slice ya3 uX.length yc3,.slice ya4 uY.length yc4,.slice ya5 sG.length yc5] rfl rfl THX.out (by kernel_rfl) (di _ _ _ _ _ _ _ _ _ _ _ _ _ _) ?_)
   refine bodyPost_ret (v:=.tuple #[.agg #[.int .i64 rst,.int .i64 rit,.slice ya2 yC.length yc2,.slice ya3 uX.length yc3,.slice ya4 uY.length yc4,.slice ya5 sG.length yc5],.bool true]) ?_ rfl ⟨.agg #[.int .i64 rst,.int .i64 rit,.slice ya2 yC.length yc2,.slice ya3 uX.length yc3,.slice ya4 uY.length yc4,.slice ya5 sG.length yc5],rfl,O9.out.az R9.out GX.out,BX.out⟩
   have HC0:=RGX.out 0 _ rfl
   have HC1:=RGX.out 1 _ rfl
   have HC2:=RGX.out 2 _ rfl
   have HC3:=RGX.out 3 _ rfl
   have HC4:=RGX.out 4 _ rfl
   have HC5:=RGX.out 5 _ rfl
   simp only [Nat.zero_add] at HC0 HC1 HC2 HC3 HC4 HC5
   simp [results,Tryz.results32,go_sem,HC0,HC1,HC2,HC3,HC4,HC5]
theorem fZ.mono {w:World} {base base':Nat} {a:IaD} {v:Value} (h:fZ w base' a v) (hb:base≤base'):fZ w base a v:=by
 obtain ⟨a2,n2,c2,a3,n3,c3,a4,n4,c4,a5,n5,c5,e,r2,r3,r4,r5,l2,l3,l4,l5⟩:=h
 exact ⟨a2,n2,c2,a3,n3,c3,a4,n4,c4,a5,n5,c5,e,r2,r3,r4,r5,fun q hq h0=>Nat.le_trans hb (l2 q hq h0),fun q hq h0=>Nat.le_trans hb (l3 q hq h0),fun q hq h0=>Nat.le_trans hb (l4 q hq h0),fun q hq h0=>Nat.le_trans hb (l5 q hq h0)⟩
theorem fZ.KL {w w':World} {base b:Nat} {a:IaD} {v:Value} (h:fZ w base a v) (hg:w.grownBy w' (some b)) (hb:b<base):fZ w' base a v:=by
 obtain ⟨a2,n2,c2,a3,n3,c3,a4,n4,c4,a5,n5,c5,e,r2,r3,r4,r5,l2,l3,l4,l5⟩:=h
 exact ⟨a2,n2,c2,a3,n3,c3,a4,n4,c4,a5,n5,c5,e,r2.grown hg (fun q hq h0 e=>by have:=l2 q hq h0;omega),r3.grown hg (fun q hq h0 e=>by have:=l3 q hq h0;omega),r4.grown hg (fun q hq h0 e=>by have:=l4 q hq h0;omega),r5.grown hg (fun q hq h0 e=>by have:=l5 q hq h0;omega),l2,l3,l4,l5⟩
theorem Jm (w:World) (base:Nat):fZ w base ja (.agg #[.int .i64 0,.int .i64 0,.slice none 0 0,.slice none 0 0,.slice none 0 0,.slice none 0 0]) :=
 ⟨none,0,0,none,0,0,none,0,0,none,0,0,rfl,⟨rfl,fun h=>absurd h (by omega)⟩,⟨rfl,fun h=>absurd h (by omega)⟩,⟨rfl,fun h=>absurd h (by omega)⟩,⟨rfl,fun h=>absurd h (by omega)⟩,(fun q hq _=>by cases hq),(fun q hq _=>by cases hq),(fun q hq _=>by cases hq),fun q hq _=>by cases hq⟩
theorem fZ.opened {w:World} {base:Nat} {a:IaD} {v:Value} (h:fZ w base a v) (hn:IZ v):∃ (b2 o2 n2 c2 b3 o3 n3 c3 b4 o4 n4 c4:Nat) (a5:Option Addr) (n5 c5:Nat),v=.agg #[.int .i64 a.states,.int .i64 a.init,.slice (some ⟨b2,o2,none⟩) n2 c2,.slice (some ⟨b3,o3,none⟩) n3 c3,.slice (some ⟨b4,o4,none⟩) n4 c4,.slice a5 n5 c5]∧Row w (some ⟨b2,o2,none⟩) n2 a.ins∧Row w (some ⟨b3,o3,none⟩) n3 a.outs∧Row w (some ⟨b4,o4,none⟩) n4 a.ah∧eP w a5 n5 a.steps:=by
 obtain ⟨a2,n2,c2,a3,n3,c3,a4,n4,c4,a5,n5,c5,rfl,r2,r3,r4,r5,_⟩:=h
 obtain ⟨b2,o2,m2,d2,b3,o3,m3,d3,b4,o4,m4,d4,x0,x1,x5,e⟩:=hn
 simp only [Value.agg.injEq,Array.mk.injEq,List.cons.injEq,Value.slice.injEq,and_true] at e
 obtain ⟨_,_,⟨rfl,rfl,rfl⟩,⟨rfl,rfl,rfl⟩,⟨rfl,rfl,rfl⟩,_⟩:=e
 exact ⟨_,_,_,_,_,_,_,_,_,_,_,_,_,_,_,rfl,r2,r3,r4,r5⟩
theorem Aa (a b:IaD) (v u:Value) (w:World) (h:aB w a v) (k:aB w b u) (fa:Small a) (fb:Small b) :
  Calls Tryz.prog 31 #[v,u] w fun e w'=>∃ v',e=.returned (.tuple #[v',.bool (ji a b)])∧fZ w' w.heap.size (jk a b) v'∧Below w.heap.size w w':=by
 obtain ⟨r,hr⟩:∃ r,r=ji a b:=⟨_,rfl⟩
 obtain ⟨RD,hRD⟩:∃ t,t=jk a b:=⟨_,rfl⟩
 obtain ⟨BL,hBL⟩:∃ l,l=gq a b:=⟨_,rfl⟩
 have hbl:BL.length≤2000:=by rw [hBL];exact Cm a b
 obtain ⟨⟨tst,tit,ay,ak,au,ai⟩,hT⟩:∃ t,t=gI a b:=⟨_,rfl⟩
 obtain ⟨x2,x3,x4,x5⟩:=qK fa fb
 rw [← hT] at x2 x3 x4 x5
 simp only at x2 x3 x4 x5
 have yB:Hid (r=false→RD=ja):=fun e=>by
  rw [hRD]
  unfold jk
  rw [← hr,e]
  rfl
 have HTT:Hid (r=true→⟨tst,tit,ay,ak,au,ai⟩=aQ a b):=fun e=>by
  have h0:ji a b=true:=by rw [← hr];exact e
  rw [hT]
  unfold gI
  rw [if_pos (sD h0)]
 have zZ:Hid (r=true→RD=dG (bK ⟨tst,tit,ay,ak,au,ai⟩ (eX tst.toNat BL))):=fun e=>by
  have h0:ji a b=true:=by rw [← hr];exact e
  have h1:=HTT.out e
  have h2:tst=(aQ a b).states:=by rw [← h1]
  rw [hRD]
  unfold jk
  rw [if_pos h0,KE (pY (sD h0)) (Jk h0),h1,h2,hBL]
 have HST:Hid (r=true→1≤tst∧tst≤40):=fun e=>by
  have h0:ji a b=true:=by rw [← hr];exact e
  have h1:=HTT.out e
  have h2:=aN (pY (sD h0))
  rw [← h1] at h2
  exact h2
 have CCo:Hid (∀ W,Below w.heap.size w W→Calls Tryz.prog 30 #[v,u] W fun e w'=>e=.returned (.bool r)∧Below W.heap.size W w'):=fun W hW=>by
  rw [hr]
  exact yA a b v u W (h.below hW) (k.below hW) fa fb
 have CBa:Hid (∀ W,Below w.heap.size w W→Calls Tryz.prog 22 #[v,u] W fun e w'=>∃ ad cc,e=.returned (.slice ad BL.length cc)∧Row w' ad BL.length BL∧Below W.heap.size W w'):=fun W hW=>by
  rw [hBL]
  refine (zk a b v u W (h.below hW) (k.below hW) fa fb).mono ?_
  rintro e w' ⟨g,cc,rfl,ho,hb⟩
  exact ⟨_,cc,rfl,ho.row.2.2.2,hb⟩
 have CPr:Hid (r=true→∀ W,Below w.heap.size w W→Calls Tryz.prog 55 #[v,u] W fun e w'=>∃ (y2 xc2 y3 xc3 y4 xc4:Nat) (xa5:Option Addr) (xc5:Nat),e=.returned (.tuple #[.agg #[.int .i64 tst,.int .i64 tit,.slice (some ⟨y2,0,none⟩) ay.length xc2,.slice (some ⟨y3,0,none⟩) ak.length xc3,.slice (some ⟨y4,0,none⟩) au.length xc4,.slice xa5 ai.length xc5],.bool true])∧bM w' W.heap.size ⟨tst,tit,ay,ak,au,ai⟩ (.agg #[.int .i64 tst,.int .i64 tit,.slice (some ⟨y2,0,none⟩) ay.length xc2,.slice (some ⟨y3,0,none⟩) ak.length xc3,.slice (some ⟨y4,0,none⟩) au.length xc4,.slice xa5 ai.length xc5])∧Below W.heap.size W w'):=fun e W hW=>by
  have h0:ji a b=true:=by rw [← hr];exact e
  refine (uC a b v u W (h.below hW) (k.below hW) fa fb).mono fun e w' ⟨v',he,ho,hn,hb⟩=>?_
  rw [sD h0] at he hn
  rw [← hT] at ho
  obtain ⟨c2,d2,c3,d3,c4,d4,c5,d5,rfl,_⟩:=ho.rowOf
  obtain ⟨g2,n2,e2,g3,n3,e3,g4,n4,e4,x0,x1,x5',en⟩:=hn rfl
  simp only [Value.agg.injEq,Array.mk.injEq,List.cons.injEq,Value.slice.injEq,and_true] at en
  obtain ⟨_,_,⟨rfl,_,_⟩,⟨rfl,_,_⟩,⟨rfl,_,_⟩,_⟩:=en
  exact ⟨_,_,_,_,_,_,_,_,he,ho,hb⟩
 obtain ⟨i0,hi,hz0,hz1,hz2⟩:=info_parts gz
 rw [← hr,← hRD]
 clear hr hRD hT HTT hBL
 obtain ⟨a2,n2,c2,a3,n3,c3,a4,n4,c4,a5,n5,c5,rfl,r2,r3,r4,r5⟩:=h
 obtain ⟨b2,m2,d2,b3,m3,d3,b4,m4,d4,b5,m5,d5,rfl,q2,q3,q4,q5⟩:=k
 obtain ⟨st,it,ins,outs,ah,steps⟩:=a
 obtain ⟨su,iu,jns,aF,aG,ax⟩:=b
 obtain ⟨f2,f3,f4,f5⟩:=fa
 obtain ⟨g2,g3,g4,g5⟩:=fb
 simp only at r2 r3 r4 r5 q2 q3 q4 q5 f2 f3 f4 f5 g2 g3 g4 g5
 have HA:Hid (∀ W,Below w.heap.size w W→aB W ⟨st,it,ins,outs,ah,steps⟩ (.agg #[.int .i64 st,.int .i64 it,.slice a2 n2 c2,.slice a3 n3 c3,.slice a4 n4 c4,.slice a5 n5 c5])):=fun W hW=>aB.below ⟨a2,n2,c2,a3,n3,c3,a4,n4,c4,a5,n5,c5,rfl,r2,r3,r4,r5⟩ hW
 have HB:Hid (∀ W,Below w.heap.size w W→aB W ⟨su,iu,jns,aF,aG,ax⟩ (.agg #[.int .i64 su,.int .i64 iu,.slice b2 m2 d2,.slice b3 m3 d3,.slice b4 m4 d4,.slice b5 m5 d5])):=fun W hW=>aB.below ⟨b2,m2,d2,b3,m3,d3,b4,m4,d4,b5,m5,d5,rfl,q2,q3,q4,q5⟩ hW
 have S0:=Lib.hid (aI.start w (iaC st it a2 n2 c2 a3 n3 c3 a4 n4 c4 a5 n5 c5) (iaC su iu b2 m2 d2 b3 m3 d3 b4 m4 d4 b5 m5 d5) 27)
 clear r2 r3 r4 r5 q2 q3 q4 q5 f2 f3 f4 f5 g2 g3 g4 g5 HA HB
 have S0':Hid (aI w (((w.alloc (.cells #[.int .i64 st,.int .i64 it,.slice a2 n2 c2,.slice a3 n3 c3,.slice a4 n4 c4,.slice a5 n5 c5] 27)).alloc (.cells #[.int .i64 su,.int .i64 iu,.slice b2 m2 d2,.slice b3 m3 d3,.slice b4 m4 d4,.slice b5 m5 d5] 27)).alloc (.cells #[.int .i64 0,.int .i64 0,.slice none 0 0,.slice none 0 0,.slice none 0 0,.slice none 0 0] 27)) w.heap.size (w.heap.size+1) 27 (iaC st it a2 n2 c2 a3 n3 c3 a4 n4 c4 a5 n5 c5) (iaC su iu b2 m2 d2 b3 m3 d3 b4 m4 d4 b5 m5 d5)∧ae (((w.alloc (.cells #[.int .i64 st,.int .i64 it,.slice a2 n2 c2,.slice a3 n3 c3,.slice a4 n4 c4,.slice a5 n5 c5] 27)).alloc (.cells #[.int .i64 su,.int .i64 iu,.slice b2 m2 d2,.slice b3 m3 d3,.slice b4 m4 d4,.slice b5 m5 d5] 27)).alloc (.cells #[.int .i64 0,.int .i64 0,.slice none 0 0,.slice none 0 0,.slice none 0 0,.slice none 0 0] 27)) (w.heap.size+1+1) #[.int .i64 0,.int .i64 0,.slice none 0 0,.slice none 0 0,.slice none 0 0,.slice none 0 0] 27):=⟨S0.out.below ((Below.refl _ _).alloc (Nat.le_refl _) _),ae.new _ #[.int .i64 0,.int .i64 0,.slice none 0 0,.slice none 0 0,.slice none 0 0,.slice none 0 0] 27 (by simp)⟩
 clear S0
 obtain ⟨ca0,ca1,ca2,ca3,ca4,ca5⟩:=S0'.out.1.2.1.aO
 obtain ⟨cb0,cb1,cb2,cb3,cb4,cb5⟩:=S0'.out.1.2.2.aO
 go_enter Tryz.func31,Tryz.ntmps31
 go_wp2_with fail
 clear ca0 ca1 ca2 ca3 ca4 ca5 cb0 cb1 cb2 cb3 cb4 cb5
 refine (CCo.out _ S0'.out.1.1).mono ?_
 rintro e w1 ⟨rfl,hb⟩
 have S1:Hid (aI w w1 w.heap.size (w.heap.size+1) 27 (iaC st it a2 n2 c2 a3 n3 c3 a4 n4 c4 a5 n5 c5) (iaC su iu b2 m2 d2 b3 m3 d3 b4 m4 d4 b5 m5 d5)∧ae w1 (w.heap.size+1+1) #[.int .i64 0,.int .i64 0,.slice none 0 0,.slice none 0 0,.slice none 0 0,.slice none 0 0] 27):=⟨S0'.out.1.below hb,S0'.out.2.below hb⟩
 clear hb S0' CCo
 cases r with
 | false =>
  have HIN:Hid (RD=ja):=yB.out (by simp)
  have THX:Hid (w1.there (w.heap.size+1+1) 0 6):=S1.out.2.there rfl
  have RGX:Hid ((w1.setCells (w.heap.size+1+1) 0 [.int .i64 0,.int .i64 0,.slice none 0 0,.slice none 0 0,.slice none 0 0,.slice none 0 0]).rangeAt (w.heap.size+1+1) 0 [.int .i64 0,.int .i64 0,.slice none 0 0,.slice none 0 0,.slice none 0 0,.slice none 0 0]):=World.rangeAt_setCells_same w1 (w.heap.size+1+1) 0 [.int .i64 0,.int .i64 0,.slice none 0 0,.slice none 0 0,.slice none 0 0,.slice none 0 0] (by simpa using THX.out)
  have GX:=Lib.hid (aA (w.heap.size+1+1) [.int .i64 0,.int .i64 0,.slice none 0 0,.slice none 0 0,.slice none 0 0,.slice none 0 0] 0 w1)
  have BX:Hid (Below w.heap.size w (w1.setCells (w.heap.size+1+1) 0 [.int .i64 0,.int .i64 0,.slice none 0 0,.slice none 0 0,.slice none 0 0,.slice none 0 0])):=S1.out.1.1.grown GX.out S1.out.1.1.size (fun q hq=>by have h1:=Option.some.inj hq;omega)
  go_wp2_with (refine wpList_store_mid rfl _ _ _ rfl (w.heap.size+1+1) 0 #[.int .i64 0,.int .i64 0,.slice none 0 0,.slice none 0 0,.slice none 0 0,.slice none 0 0] rfl rfl THX.out (by kernel_rfl) (di _ _ _ _ _ _ _ _ _ _ _ _ _ _) ?_)
  refine bodyPost_ret (v:=.tuple #[.agg #[.int .i64 0,.int .i64 0,.slice none 0 0,.slice none 0 0,.slice none 0 0,.slice none 0 0],.bool false]) ?_ rfl ⟨.agg #[.int .i64 0,.int .i64 0,.slice none 0 0,.slice none 0 0,.slice none 0 0,.slice none 0 0],rfl,by rw [HIN.out];exact Jm _ _,BX.out⟩
  have HC0:=RGX.out 0 _ rfl
  have HC1:=RGX.out 1 _ rfl
  have HC2:=RGX.out 2 _ rfl
  have HC3:=RGX.out 3 _ rfl
  have HC4:=RGX.out 4 _ rfl
  have HC5:=RGX.out 5 _ rfl
  simp only [Nat.zero_add] at HC0 HC1 HC2 HC3 HC4 HC5
  simp [results,Tryz.results31,go_sem,HC0,HC1,HC2,HC3,HC4,HC5]
 | true =>
  have HRR:=Lib.hid (zZ.out (by simp))
  have hst:=HST.out (by simp)
  have CP2:=Lib.hid (CPr.out (by simp))
  clear yB zZ HST CPr
  obtain ⟨ca0,ca1,ca2,ca3,ca4,ca5⟩:=S1.out.1.2.1.aO
  obtain ⟨cb0,cb1,cb2,cb3,cb4,cb5⟩:=S1.out.1.2.2.aO
  go_wp2_with fail
  clear ca0 ca1 ca2 ca3 ca4 ca5 cb0 cb1 cb2 cb3 cb4 cb5
  refine (CP2.out _ S1.out.1.1).mono ?_
  rintro e w4 ⟨y2,xc2,y3,xc3,y4,xc4,xa5,xc5,rfl,hT4,hb⟩
  have bx:=(Below.refl w4.heap.size w4).alloc (Nat.le_refl _) (.cells #[.int .i64 tst,.int .i64 tit,.slice (some ⟨y2,0,none⟩) ay.length xc2,.slice (some ⟨y3,0,none⟩) ak.length xc3,.slice (some ⟨y4,0,none⟩) au.length xc4,.slice xa5 ai.length xc5] 27)
  have S5:Hid ((iY w (w4.alloc (.cells #[.int .i64 tst,.int .i64 tit,.slice (some ⟨y2,0,none⟩) ay.length xc2,.slice (some ⟨y3,0,none⟩) ak.length xc3,.slice (some ⟨y4,0,none⟩) au.length xc4,.slice xa5 ai.length xc5] 27)) (iaC st it a2 n2 c2 a3 n3 c3 a4 n4 c4 a5 n5 c5) (iaC su iu b2 m2 d2 b3 m3 d3 b4 m4 d4 b5 m5 d5) (iaC tst tit (some ⟨y2,0,none⟩) ay.length xc2 (some ⟨y3,0,none⟩) ak.length xc3 (some ⟨y4,0,none⟩) au.length xc4 xa5 ai.length xc5) w4.heap.size ⟨tst,tit,ay,ak,au,ai⟩)∧ae (w4.alloc (.cells #[.int .i64 tst,.int .i64 tit,.slice (some ⟨y2,0,none⟩) ay.length xc2,.slice (some ⟨y3,0,none⟩) ak.length xc3,.slice (some ⟨y4,0,none⟩) au.length xc4,.slice xa5 ai.length xc5] 27)) (w.heap.size+1+1) #[.int .i64 0,.int .i64 0,.slice none 0 0,.slice none 0 0,.slice none 0 0,.slice none 0 0] 27):=⟨⟨(S1.out.1.below hb).below bx,ae.new w4 #[.int .i64 tst,.int .i64 tit,.slice (some ⟨y2,0,none⟩) ay.length xc2,.slice (some ⟨y3,0,none⟩) ak.length xc3,.slice (some ⟨y4,0,none⟩) au.length xc4,.slice xa5 ai.length xc5] 27 rfl,(hT4.mono S1.out.1.1.size).below bx⟩,(S1.out.2.below hb).below bx⟩
  have hRl:w.heap.size+1+1<w4.heap.size:=(S1.out.2.below hb).lt
  clear hb hT4 bx S1 CP2
  obtain ⟨ca0,ca1,ca2,ca3,ca4,ca5⟩:=S5.out.1.1.2.1.aO
  obtain ⟨cb0,cb1,cb2,cb3,cb4,cb5⟩:=S5.out.1.1.2.2.aO
  go_wp2_with fail
  clear ca0 ca1 ca2 ca3 ca4 ca5 cb0 cb1 cb2 cb3 cb4 cb5
  refine (CBa.out _ S5.out.1.1.1).mono ?_
  rintro e w6 ⟨ad,cc,rfl,hrw,hb⟩
  have S6:Hid ((iY w w6 (iaC st it a2 n2 c2 a3 n3 c3 a4 n4 c4 a5 n5 c5) (iaC su iu b2 m2 d2 b3 m3 d3 b4 m4 d4 b5 m5 d5) (iaC tst tit (some ⟨y2,0,none⟩) ay.length xc2 (some ⟨y3,0,none⟩) ak.length xc3 (some ⟨y4,0,none⟩) au.length xc4 xa5 ai.length xc5) w4.heap.size ⟨tst,tit,ay,ak,au,ai⟩)∧ae w6 (w.heap.size+1+1) #[.int .i64 0,.int .i64 0,.slice none 0 0,.slice none 0 0,.slice none 0 0,.slice none 0 0] 27):=⟨S5.out.1.below hb,S5.out.2.below hb⟩
  have RBL:=Lib.hid hrw
  have hs6:=hb.size
  simp at hs6
  clear hb hrw S5 CBa
  have B0:Hid (Below w6.heap.size w6 (w6.alloc (.cells #[] 3))):=(Below.refl _ _).alloc (Nat.le_refl _) _
  have O0:Hid (aj (w6.alloc (.cells #[] 3)) w6.heap.size (.slice (some ⟨w6.heap.size,0,none⟩) 0 0) 0 (eX 0 BL)):=ed w6 [] 0 rfl (by unfold maxLen;omega)
  go_wp2_with fail
  go_loopw [9,10] (fun kv iv wr=>∃ (k len:Nat) (v0:Value),(k:Int)≤tst∧v0=kv∧iv=.int .i64 (k:Int)∧Hid (aj wr w6.heap.size v0 len (eX k BL))∧len≤k∧Hid (Below w6.heap.size w6 wr)) (fun _ iv _=>tst.toNat - (intOf iv).toNat)
  case atStart=>exact ⟨0,0,_,by omega,rfl,rfl,O0.out,Nat.le_refl _,B0.out⟩
  case round =>
   clear B0 O0
   obtain ⟨k,len,v0,hk,rfl,rfl,HO,hlen,HB⟩:=hrel
   have S7:Hid ((iY w wr (iaC st it a2 n2 c2 a3 n3 c3 a4 n4 c4 a5 n5 c5) (iaC su iu b2 m2 d2 b3 m3 d3 b4 m4 d4 b5 m5 d5) (iaC tst tit (some ⟨y2,0,none⟩) ay.length xc2 (some ⟨y3,0,none⟩) ak.length xc3 (some ⟨y4,0,none⟩) au.length xc4 xa5 ai.length xc5) w4.heap.size ⟨tst,tit,ay,ak,au,ai⟩)∧ae wr (w.heap.size+1+1) #[.int .i64 0,.int .i64 0,.slice none 0 0,.slice none 0 0,.slice none 0 0,.slice none 0 0] 27):=⟨S6.out.1.below HB.out,S6.out.2.below HB.out⟩
   have hsz:=HB.out.size
   have cs0:=S7.out.1.2.1.cell (j:=0) (u:=.int .i64 tst) rfl
   by_cases hlt:(k:Int)<tst
   ·obtain ⟨q,hq⟩:∃ q,q=hasB BL (k:Int):=⟨_,rfl⟩
    have CH:Hid (Calls Tryz.prog 57 #[.slice ad BL.length cc,.int .i64 (k:Int)] wr fun e w'=>e=.returned (.bool q)∧wr=w'):=by
     unfold Hid
     rw [hq]
     exact (bz ad _ cc (k:Int) BL wr (RBL.out.below HB.out) (by omega)).mono fun _ _ h=>⟨h.1,h.2.symm⟩
    have HKS:Hid (eX (k+1) BL=if q then eX k BL else eX k BL++[(k:Int)]):=by
     unfold Hid
     rw [FQ,hq]
    clear hq
    go_wp2_with fail
    refine CH.out.mono ?_
    rintro e w7 ⟨rfl,rfl⟩
    clear cs0
    cases q with
    | true =>
     have HK2:Hid (aj wr w6.heap.size v0 len (eX (k+1) BL)):=by unfold Hid;rw [HKS.out];exact HO.out
     go_wp2_with fail
     go_roundw
     case rel=>exact ⟨k+1,len,v0,by omega,rfl,by go_num,HK2.out,by omega,HB.out⟩
     case measure=>simp [intOf];omega
    | false =>
     have T1:=HO.out.alloc (.cells #[.int .i64 (k:Int)] 3)
     have BT:Hid (Below w6.heap.size w6 (wr.alloc (.cells #[.int .i64 (k:Int)] 3))):=HB.out.alloc hsz _
     have SP:Src (wr.alloc (.cells #[.int .i64 (k:Int)] 3)) (some ⟨wr.heap.size,0,none⟩) 1 1 [(k:Int)]:=jb (by simp)
     go_wp2_with (at_builtin;refine bV rfl (.tmp 36) (.tmp 38) rfl w6.heap.size i0 Tryz.underlying24 hi hz0 hz1 hz2 _ len _ rfl T1 _ 1 _ [(k:Int)] rfl SP (by omega) (by simp;omega) ?_)
     rintro vz w8 ⟨hown,hgrow,_⟩
     have B8:Hid (Below w6.heap.size w6 w8):=BT.out.grown hgrow (by simp;omega) (fun q hq=>(T1.lt q hq).1)
     have HK2:Hid (aj w8 w6.heap.size vz (len+1) (eX (k+1) BL)):=by unfold Hid;rw [HKS.out];exact hown
     clear hown hgrow T1 SP BT
     go_wp2_with fail
     go_roundw
     case rel=>exact ⟨k+1,len+1,vz,by omega,rfl,by go_num,HK2.out,by omega,B8.out⟩
     case measure=>simp [intOf];omega
   ·obtain ⟨av,cv,rfl⟩:=HO.out.form
    have hkt:k=tst.toNat:=by omega
    rw [hkt] at HO
    have RK:=Lib.hid HO.out.row.2.2.2
    have hd:decide ((k:Int)<tst)=false:=by simp;omega
    obtain ⟨r2,r3,r4,r5⟩:=S7.out.1.2.2.yJ.parts
    have CO:=Lib.hid (Eh tst tit y2 0 ay.length xc2 y3 0 ak.length xc3 y4 0 au.length xc4 xa5 ai.length xc5 ay ak au ai av len cv (eX tst.toNat BL) wr r2 r3 r4 r5 RK.out x2 x3 x4 x5 (by omega))
    clear r2 r3 r4 r5 hkt
    have cs1:=S7.out.1.2.1.cell (j:=1) (u:=.int .i64 tit) rfl
    have cs2:=S7.out.1.2.1.cell (j:=2) (u:=.slice (some ⟨y2,0,none⟩) ay.length xc2) rfl
    have cs3:=S7.out.1.2.1.cell (j:=3) (u:=.slice (some ⟨y3,0,none⟩) ak.length xc3) rfl
    have cs4:=S7.out.1.2.1.cell (j:=4) (u:=.slice (some ⟨y4,0,none⟩) au.length xc4) rfl
    have cs5:=S7.out.1.2.1.cell (j:=5) (u:=.slice xa5 ai.length xc5) rfl
    go_wp2_with fail
    clear cs0 cs1 cs2 cs3 cs4 cs5
    refine CO.out.mono ?_
    rintro e w8 ⟨v8,rfl,hf8,hn8,hb⟩
    obtain ⟨p2,o2,pn2,pc2,p3,o3,pn3,pc3,p4,o4,pn4,pc4,p5,pn5,pc5,rfl,s2,s3,s4,s5⟩:=hf8.opened hn8
    obtain ⟨⟨ost,oit,oins,JP,JQ,Jn⟩,hO⟩:∃ t,t=bK ⟨tst,tit,ay,ak,au,ai⟩ (eX tst.toNat BL):=⟨_,rfl⟩
    rw [← hO] at s2 s3 s4 s5 HRR
    have e8:(bK ⟨tst,tit,ay,ak,au,ai⟩ (eX tst.toNat BL)).states=ost∧(bK ⟨tst,tit,ay,ak,au,ai⟩ (eX tst.toNat BL)).init=oit:=by rw [← hO];exact ⟨rfl,rfl⟩
    have hl8:Jn.length≤ai.length∧oins=ay∧JP=ak∧JQ=au:=by
     have h1:=congrArg IaD.steps hO
     have h2:=congrArg IaD.ins hO
     have h3:=congrArg IaD.outs hO
     have h4:=congrArg IaD.ah hO
     simp only at h1 h2 h3 h4
     rw [og] at h1
     refine ⟨?_,h2,h3,h4⟩
     rw [h1,List.length_map]
     exact List.length_filter_le _ _
    rw [e8.1,e8.2]
    simp only at s2 s3 s4 s5
    have B8:Hid (Below w.heap.size w w8):=S7.out.1.1.1.trans (hb.mono S7.out.1.1.1.size)
    have R8:=Lib.hid (S7.out.2.below hb)
    have hR8:=R8.out.lt
    have hw8:=B8.out.size
    have l2:=s2.1
    have l3:=s3.1
    have l4:=s4.1
    have l5:=s5.1
    have CTr:=Lib.hid (Bf ost oit p2 o2 pn2 pc2 p3 o3 pn3 pc3 p4 o4 pn4 pc4 p5 pn5 pc5 oins JP JQ Jn w8 s2 s3 s4 s5 (by rw [← l2,hl8.2.1];exact x2) (by rw [← l3,hl8.2.2.1];exact x3) (by rw [← l4,hl8.2.2.2];exact x4) (by rw [← l5];omega))
    clear hb hf8 hn8 s2 s3 s4 s5 hO e8 hl8 l2 l3 l4 l5 CO RK HO S7 HB S6 RBL
    go_wp2_with fail
    refine CTr.out.mono ?_
    rw [← HRR.out]
    rintro e w9 ⟨v9,rfl,hf9,hb⟩
    obtain ⟨z2,zn2,zc2,z3,zn3,zc3,z4,zn4,zc4,z5,zn5,zc5,rfl,hrest⟩:=id hf9
    clear hrest
    have B9:Hid (Below w.heap.size w w9):=B8.out.trans (hb.mono B8.out.size)
    have R9:=Lib.hid (R8.out.below hb)
    have F9:=Lib.hid hf9
    clear hb hf9 B8 R8 CTr
    have THX:Hid (w9.there (w.heap.size+1+1) 0 6):=R9.out.there rfl
    have RGX:Hid ((w9.setCells (w.heap.size+1+1) 0 [.int .i64 RD.states,.int .i64 RD.init,.slice z2 zn2 zc2,.slice z3 zn3 zc3,.slice z4 zn4 zc4,.slice z5 zn5 zc5]).rangeAt (w.heap.size+1+1) 0 [.int .i64 RD.states,.int .i64 RD.init,.slice z2 zn2 zc2,.slice z3 zn3 zc3,.slice z4 zn4 zc4,.slice z5 zn5 zc5]):=World.rangeAt_setCells_same w9 (w.heap.size+1+1) 0 [.int .i64 RD.states,.int .i64 RD.init,.slice z2 zn2 zc2,.slice z3 zn3 zc3,.slice z4 zn4 zc4,.slice z5 zn5 zc5] (by simpa using THX.out)
    have GX:=Lib.hid (aA (w.heap.size+1+1) [.int .i64 RD.states,.int .i64 RD.init,.slice z2 zn2 zc2,.slice z3 zn3 zc3,.slice z4 zn4 zc4,.slice z5 zn5 zc5] 0 w9)
    have BX:Hid (Below w.heap.size w (w9.setCells (w.heap.size+1+1) 0 [.int .i64 RD.states,.int .i64 RD.init,.slice z2 zn2 zc2,.slice z3 zn3 zc3,.slice z4 zn4 zc4,.slice z5 zn5 zc5])):=B9.out.grown GX.out B9.out.size (fun q hq=>by have h1:=Option.some.inj hq;omega)
    have FX:=Lib.hid ((F9.out.KL GX.out hR8).mono hw8)
    go_wp2_with (refine wpList_store_mid rfl _ _ _ rfl (w.heap.size+1+1) 0 #[.int .i64 RD.states,.int .i64 RD.init,.slice z2 zn2 zc2,.slice z3 zn3 zc3,.slice z4 zn4 zc4,.slice z5 zn5 zc5] rfl rfl THX.out (by kernel_rfl) (di _ _ _ _ _ _ _ _ _ _ _ _ _ _) ?_)
    refine bodyPost_ret (v:=.tuple #[.agg #[.int .i64 RD.states,.int .i64 RD.init,.slice z2 zn2 zc2,.slice z3 zn3 zc3,.slice z4 zn4 zc4,.slice z5 zn5 zc5],.bool true]) ?_ rfl ⟨.agg #[.int .i64 RD.states,.int .i64 RD.init,.slice z2 zn2 zc2,.slice z3 zn3 zc3,.slice z4 zn4 zc4,.slice z5 zn5 zc5],rfl,FX.out,BX.out⟩
    have HC0:=RGX.out 0 _ rfl
    have HC1:=RGX.out 1 _ rfl
    have HC2:=RGX.out 2 _ rfl
    have HC3:=RGX.out 3 _ rfl
    have HC4:=RGX.out 4 _ rfl
    have HC5:=RGX.out 5 _ rfl
    simp only [Nat.zero_add] at HC0 HC1 HC2 HC3 HC4 HC5
    simp [results,Tryz.results31,go_sem,HC0,HC1,HC2,HC3,HC4,HC5]
open Go.RowKit
def wB (b:Nat) (v:Value):Prop:=∀ (x0 x1:Value) (a2:Option Addr) (n2 c2:Nat) (a3:Option Addr) (n3 c3:Nat) (a4:Option Addr) (n4 c4:Nat) (a5:Option Addr) (n5 c5:Nat),v=.agg #[x0,x1,.slice a2 n2 c2,.slice a3 n3 c3,.slice a4 n4 c4,.slice a5 n5 c5]→(∀ q,a2=some q→0<n2→q.block≠b)∧(∀ q,a3=some q→0<n3→q.block≠b)∧(∀ q,a4=some q→0<n4→q.block≠b)∧∀ q,a5=some q→0<n5→q.block≠b
theorem fZ.rowF {w:World} {base:Nat} {a:IaD} {v:Value} (h:fZ w base a v):aB w a v:=by
 obtain ⟨a2,n2,c2,a3,n3,c3,a4,n4,c4,a5,n5,c5,e,r2,r3,r4,r5,_⟩:=h
 exact ⟨a2,n2,c2,a3,n3,c3,a4,n4,c4,a5,n5,c5,e,r2,r3,r4,r5⟩
theorem fZ.formF {w:World} {base:Nat} {a:IaD} {v:Value} (h:fZ w base a v):∃ (a2:Option Addr) (c2:Nat) (a3:Option Addr) (c3:Nat) (a4:Option Addr) (c4:Nat) (a5:Option Addr) (c5:Nat),v=.agg #[.int .i64 a.states,.int .i64 a.init,.slice a2 a.ins.length c2,.slice a3 a.outs.length c3,.slice a4 a.ah.length c4,.slice a5 a.steps.length c5]:=by
 obtain ⟨a2,n2,c2,a3,n3,c3,a4,n4,c4,a5,n5,c5,e,r2,r3,r4,r5,_⟩:=h
 refine ⟨a2,c2,a3,c3,a4,c4,a5,c5,?_⟩
 rw [e,r2.1,r3.1,r4.1,r5.1]
theorem fZ.Iw {w:World} {base b:Nat} {a:IaD} {v:Value} (h:fZ w base a v) (hb:b<base):wB b v:=by
 obtain ⟨a2,n2,c2,a3,n3,c3,a4,n4,c4,a5,n5,c5,rfl,_,_,_,_,l2,l3,l4,l5⟩:=h
 intro x0 x1 b2 m2 d2 b3 m3 d3 b4 m4 d4 b5 m5 d5 e
 simp only [Value.agg.injEq,Array.mk.injEq,List.cons.injEq,Value.slice.injEq,and_true] at e
 obtain ⟨_,_,⟨rfl,rfl,rfl⟩,⟨rfl,rfl,rfl⟩,⟨rfl,rfl,rfl⟩,rfl,rfl,rfl⟩:=e
 exact ⟨fun q hq h0=>by have:=l2 q hq h0;omega,fun q hq h0=>by have:=l3 q hq h0;omega,fun q hq h0=>by have:=l4 q hq h0;omega,fun q hq h0=>by have:=l5 q hq h0;omega⟩
theorem eP.ltS {w:World} {a:Option Addr} {n:Nat} {ss:List St} (h:eP w a n ss):∀ q,a=some q→0<n→q.block<w.heap.size:=by
 intro q hq hn
 obtain ⟨b,off,e,hlt,_⟩:=h.2 hn
 rw [hq] at e
 cases e
 exact hlt
theorem aB.KN {w:World} {b:Nat} {a:IaD} {v:Value} (h:aB w a v) (hb:w.heap.size≤b):wB b v:=by
 obtain ⟨a2,n2,c2,a3,n3,c3,a4,n4,c4,a5,n5,c5,rfl,r2,r3,r4,r5⟩:=h
 intro x0 x1 b2 m2 d2 b3 m3 d3 b4 m4 d4 b5 m5 d5 e
 simp only [Value.agg.injEq,Array.mk.injEq,List.cons.injEq,Value.slice.injEq,and_true] at e
 obtain ⟨_,_,⟨rfl,rfl,rfl⟩,⟨rfl,rfl,rfl⟩,⟨rfl,rfl,rfl⟩,rfl,rfl,rfl⟩:=e
 exact ⟨fun q hq h0=>by have:=r2.lt q hq h0;omega,fun q hq h0=>by have:=r3.lt q hq h0;omega,fun q hq h0=>by have:=r4.lt q hq h0;omega,fun q hq h0=>by have:=r5.ltS q hq h0;omega⟩
theorem aB.Bh {w w':World} {b:Nat} {a:IaD} {v:Value} (h:aB w a v) (hn:wB b v) (hg:w.grownBy w' (some b)):aB w' a v:=by
 obtain ⟨a2,n2,c2,a3,n3,c3,a4,n4,c4,a5,n5,c5,rfl,r2,r3,r4,r5⟩:=h
 obtain ⟨m2,m3,m4,m5⟩:=hn _ _ _ _ _ _ _ _ _ _ _ _ _ _ rfl
 exact ⟨_,_,_,_,_,_,_,_,_,_,_,_,rfl,r2.grown hg m2,r3.grown hg m3,r4.grown hg m4,r5.grown hg m5⟩
theorem Iy {a b:IaD} (fa:Small a) (fb:Small b):(jk a b).ins.length≤1048576∧(jk a b).outs.length≤1048576∧(jk a b).ah.length≤1048576∧(jk a b).steps.length≤1048576:=by
 unfold jk
 by_cases h:ji a b=true
 ·rw [if_pos h]
  have hp:=qK fa fb
  unfold gI at hp
  rw [if_pos (sD h)] at hp
  obtain ⟨h2,h3,h4,h5⟩:=hp
  unfold dG
  split
  ·refine ⟨h2,h3,h4,?_⟩
   have k1:=List.length_filter_le (fun x:St=>decide (0≤x.1)&&decide (0≤x.2.2)) ((eG (aQ a b) (gq a b)).steps.map fun x=>(placeOf (aP (eG (aQ a b) (gq a b))) x.1,x.2.1,placeOf (aP (eG (aQ a b) (gq a b))) x.2.2))
   have k2:=List.length_filter_le (fun x:St => !hasB (gq a b) x.1&&!hasB (gq a b) x.2.2) (aQ a b).steps
   rw [List.length_map] at k1
   exact Nat.le_trans k1 (Nat.le_trans k2 h5)
  ·exact ⟨Nat.zero_le _,Nat.zero_le _,Nat.zero_le _,Nat.zero_le _⟩
 ·rw [if_neg h]
  exact ⟨Nat.zero_le _,Nat.zero_le _,Nat.zero_le _,Nat.zero_le _⟩
def yD (w5 W:World) (p q bp bq:Nat) (a b:IaD) (C D:Array Value):Prop :=
 Below w5.heap.size w5 W∧(ae W p C 27∧iR W bp a (.agg C))∧(ae W q D 27∧iR W bq b (.agg D))
theorem yD.below {w5 W W':World} {p q bp bq:Nat} {a b:IaD} {C D:Array Value} (h:yD w5 W p q bp bq a b C D) (hb:Below W.heap.size W W'):yD w5 W' p q bp bq a b C D :=
 ⟨h.1.trans (hb.mono h.1.size),⟨h.2.1.1.below hb,h.2.1.2.below hb⟩,⟨h.2.2.1.below hb,h.2.2.2.below hb⟩⟩
theorem yD.drew {w5 W:World} {p q bp bq:Nat} {a b:IaD} {C D:Array Value} (h:yD w5 W p q bp bq a b C D):yD w5 W.drew p q bp bq a b C D :=
 ⟨h.1.drew,⟨h.2.1.1,h.2.1.2.drew⟩,⟨h.2.2.1,h.2.2.2.drew⟩⟩
def kG (w5 W:World) (p q bp bq:Nat) (a b:IaD) (C D:Array Value) (g bg:Nat) (t:IaD) (G:Array Value):Prop :=
 yD w5 W p q bp bq a b C D∧ae W g G 27∧dS W bg t (.agg G)
theorem kG.below {w5 W W':World} {p q bp bq g bg:Nat} {a b t:IaD} {C D G:Array Value} (h:kG w5 W p q bp bq a b C D g bg t G) (hb:Below W.heap.size W W'):kG w5 W' p q bp bq a b C D g bg t G :=
 ⟨h.1.below hb,h.2.1.below hb,h.2.2.below hb⟩
theorem kG.drew {w5 W:World} {p q bp bq g bg:Nat} {a b t:IaD} {C D G:Array Value} (h:kG w5 W p q bp bq a b C D g bg t G):kG w5 W.drew p q bp bq a b C D g bg t G :=
 ⟨h.1.drew,h.2.1,h.2.2.below (Below.refl _ _).drew⟩
def pU (w5 W:World) (g bg:Nat) (t:IaD) (G:Array Value):Prop :=
 Below w5.heap.size w5 W∧ae W g G 27∧dS W bg t (.agg G)
theorem pU.below {w5 W W':World} {g bg:Nat} {t:IaD} {G:Array Value} (h:pU w5 W g bg t G) (hb:Below W.heap.size W W'):pU w5 W' g bg t G :=
 ⟨h.1.trans (hb.mono h.1.size),h.2.1.below hb,h.2.2.below hb⟩
theorem pU.drew {w5 W:World} {g bg:Nat} {t:IaD} {G:Array Value} (h:pU w5 W g bg t G):pU w5 W.drew g bg t G :=
 ⟨h.1.drew,h.2.1,h.2.2.below (Below.refl _ _).drew⟩
theorem xy (st it:Int) (a2:Option Addr) (n2 c2:Nat) (z2:List Int) (a3:Option Addr) (n3 c3:Nat) (z3:List Int) (a4:Option Addr) (n4 c4:Nat) (z4:List Int) (a5:Option Addr) (n5 c5:Nat) (z5:List St)
  (su iu:Int) (b2:Option Addr) (m2 d2:Nat) (y2:List Int) (b3:Option Addr) (m3 d3:Nat) (y3:List Int) (b4:Option Addr) (m4 d4:Nat) (y4:List Int) (b5:Option Addr) (m5 d5:Nat) (y5:List St) (w:World)
  (i2:kT .i64 w a2 n2 c2 z2) (i3:kT .i64 w a3 n3 c3 z3) (i4:kT .i64 w a4 n4 c4 z4) (i5:rW w a5 n5 c5 z5) (j2:kT .i64 w b2 m2 d2 y2) (j3:kT .i64 w b3 m3 d3 y3) (j4:kT .i64 w b4 m4 d4 y4) (j5:rW w b5 m5 d5 y5) :
  Calls Tryz.prog 6 #[.agg #[.int .i64 st,.int .i64 it,.slice a2 n2 c2,.slice a3 n3 c3,.slice a4 n4 c4,.slice a5 n5 c5],.agg #[.int .i64 su,.int .i64 iu,.slice b2 m2 d2,.slice b3 m3 d3,.slice b4 m4 d4,.slice b5 m5 d5]] w fun e w'=>e=.returned (.bool true)∧Below w.heap.size w w':=by
 obtain ⟨ins,hins⟩:∃ l,l=z2.take n2:=⟨_,rfl⟩
 obtain ⟨outs,JR⟩:∃ l,l=z3.take n3:=⟨_,rfl⟩
 obtain ⟨ah,JS⟩:∃ l,l=z4.take n4:=⟨_,rfl⟩
 obtain ⟨steps,hsteps⟩:∃ l,l=z5.take n5:=⟨_,rfl⟩
 obtain ⟨jns,hjns⟩:∃ l,l=y2.take m2:=⟨_,rfl⟩
 obtain ⟨aF,JU⟩:∃ l,l=y3.take m3:=⟨_,rfl⟩
 obtain ⟨aG,JV⟩:∃ l,l=y4.take m4:=⟨_,rfl⟩
 obtain ⟨ax,Jo⟩:∃ l,l=y5.take m5:=⟨_,rfl⟩
 have r2:=i2.row
 rw [← hins] at r2
 have l2:=i2.len1
 have e2:=r2.1
 have r3:=i3.row
 rw [← JR] at r3
 have l3:=i3.len1
 have e3:=r3.1
 have r4:=i4.row
 rw [← JS] at r4
 have l4:=i4.len1
 have e4:=r4.1
 have r5:=i5.row
 rw [← hsteps] at r5
 have l5:=i5.len1
 have e5:=r5.1
 have q2:=j2.row
 rw [← hjns] at q2
 have o2:=j2.len1
 have k2:=q2.1
 have q3:=j3.row
 rw [← JU] at q3
 have o3:=j3.len1
 have k3:=q3.1
 have q4:=j4.row
 rw [← JV] at q4
 have o4:=j4.len1
 have k4:=q4.1
 have q5:=j5.row
 rw [← Jo] at q5
 have o5:=j5.len1
 have k5:=q5.1
 have HA:Hid (∀ W,Below w.heap.size w W→aB W ⟨st,it,ins,outs,ah,steps⟩ (.agg #[.int .i64 st,.int .i64 it,.slice a2 n2 c2,.slice a3 n3 c3,.slice a4 n4 c4,.slice a5 n5 c5])):=fun W hW=>aB.below ⟨a2,n2,c2,a3,n3,c3,a4,n4,c4,a5,n5,c5,rfl,r2,r3,r4,r5⟩ hW
 have HB:Hid (∀ W,Below w.heap.size w W→aB W ⟨su,iu,jns,aF,aG,ax⟩ (.agg #[.int .i64 su,.int .i64 iu,.slice b2 m2 d2,.slice b3 m3 d3,.slice b4 m4 d4,.slice b5 m5 d5])):=fun W hW=>aB.below ⟨b2,m2,d2,b3,m3,d3,b4,m4,d4,b5,m5,d5,rfl,q2,q3,q4,q5⟩ hW
 have CZ:Hid (∀ W,Calls Tryz.prog 21 #[.agg #[.int .i64 st,.int .i64 it,.slice a2 n2 c2,.slice a3 n3 c3,.slice a4 n4 c4,.slice a5 n5 c5],.int .i64 1048576] W fun e w'=>e=.returned (.int .i64 (roomOf 1048576 (n2+n3+n4+n5)))∧Below W.heap.size W w'):=fun W=>Dp st it a2 n2 c2 a3 n3 c3 a4 n4 c4 a5 n5 c5 1048576 W (by omega) (by omega) l2 l3 l4 l5
 have CY:Hid (∀ W (left:Int),0≤left→left≤1048576→Calls Tryz.prog 21 #[.agg #[.int .i64 su,.int .i64 iu,.slice b2 m2 d2,.slice b3 m3 d3,.slice b4 m4 d4,.slice b5 m5 d5],.int .i64 left] W fun e w'=>e=.returned (.int .i64 (roomOf left (m2+m3+m4+m5)))∧Below W.heap.size W w'):=fun W left h0 h1=>Dp su iu b2 m2 d2 b3 m3 d3 b4 m4 d4 b5 m5 d5 left W h0 (by omega) o2 o3 o4 o5
 clear r2 r3 r4 r5 q2 q3 q4 q5 i2 i3 i4 i5 j2 j3 j4 j5 hins JR JS hsteps hjns JU JV Jo z2 z3 z4 z5 y2 y3 y4 y5 l2 l3 l4 l5 o2 o3 o4 o5
 have S0:=Lib.hid (aI.start w (iaC st it a2 n2 c2 a3 n3 c3 a4 n4 c4 a5 n5 c5) (iaC su iu b2 m2 d2 b3 m3 d3 b4 m4 d4 b5 m5 d5) 41)
 obtain ⟨ca0,ca1,ca2,ca3,ca4,ca5⟩:=S0.out.2.1.aO
 by_cases hbig:n2+n3+n4+n5≤1048576
 ·have hr:roomOf 1048576 (n2+n3+n4+n5)=1048576 - ((n2+n3+n4+n5:Nat):Int):=jW (by omega)
  obtain ⟨rm,hrm⟩:∃ m:Nat,(m:Int)=1048576 - ((n2+n3+n4+n5:Nat):Int):=⟨1048576 - (n2+n3+n4+n5),by omega⟩
  rw [hr,← hrm] at CZ
  have f2:ins.length≤1048576:=by omega
  have f3:outs.length≤1048576:=by omega
  have f4:ah.length≤1048576:=by omega
  have f5:steps.length≤1048576:=by omega
  have hrm2:(rm:Int)≤1048576:=by omega
  have HRM:=Lib.hid hrm
  clear hr hrm e2 e3 e4 e5
  go_enter Tryz.func6,Tryz.ntmps6
  go_wp2_with fail
  clear ca0 ca1 ca2 ca3 ca4 ca5
  refine (CZ.out _).mono ?_
  rintro e w1 ⟨rfl,hb⟩
  have S1:=Lib.hid (S0.out.below hb)
  clear hb CZ S0
  obtain ⟨cb0,cb1,cb2,cb3,cb4,cb5⟩:=S1.out.2.2.aO
  go_wp2_with fail
  clear cb0 cb1 cb2 cb3 cb4 cb5
  by_cases hbig2:m2+m3+m4+m5≤rm
  ·have hr2:roomOf (rm:Int) (m2+m3+m4+m5)=(rm:Int) - ((m2+m3+m4+m5:Nat):Int):=jW (by omega)
   obtain ⟨rn,hrn⟩:∃ m:Nat,(m:Int)=(rm:Int) - ((m2+m3+m4+m5:Nat):Int):=⟨rm - (m2+m3+m4+m5),by omega⟩
   have t2:jns.length≤1048576:=by omega
   have t3:aF.length≤1048576:=by omega
   have t4:aG.length≤1048576:=by omega
   have t5:ax.length≤1048576:=by omega
   have CY2:=(CY.out w1 _ (by omega) hrm2)
   rw [hr2,← hrn] at CY2
   refine CY2.mono ?_
   rintro e w2 ⟨rfl,hb⟩
   have S2:=Lib.hid (S1.out.below hb)
   clear hb S1 CY2 CY hr2 hrn hbig2 HRM k2 k3 k4 k5 hbig hrm2
   have CTA:Hid (∀ W,Below w.heap.size w W→Calls Tryz.prog 23 #[.agg #[.int .i64 st,.int .i64 it,.slice a2 n2 c2,.slice a3 n3 c3,.slice a4 n4 c4,.slice a5 n5 c5]] W fun e w'=>∃ v',e=.returned v'∧iR w' W.heap.size ⟨st,it,ins,outs,ah,steps⟩ v'∧Below W.heap.size W w'):=fun W hW=>Dn ⟨st,it,ins,outs,ah,steps⟩ _ W (HA.out W hW) (jI.small f2 f3 f4 f5)
   have CTB:Hid (∀ W,Below w.heap.size w W→Calls Tryz.prog 23 #[.agg #[.int .i64 su,.int .i64 iu,.slice b2 m2 d2,.slice b3 m3 d3,.slice b4 m4 d4,.slice b5 m5 d5]] W fun e w'=>∃ v',e=.returned v'∧iR w' W.heap.size ⟨su,iu,jns,aF,aG,ax⟩ v'∧Below W.heap.size W w'):=fun W hW=>Dn ⟨su,iu,jns,aF,aG,ax⟩ _ W (HB.out W hW) (jI.small t2 t3 t4 t5)
   clear HA HB
   obtain ⟨q,hq⟩:∃ q,q=ji ⟨st,it,ins,outs,ah,steps⟩ ⟨su,iu,jns,aF,aG,ax⟩:=⟨_,rfl⟩
   obtain ⟨⟨tst,tit,ay,ak,au,ai⟩,hT⟩:∃ t,t=jk ⟨st,it,ins,outs,ah,steps⟩ ⟨su,iu,jns,aF,aG,ax⟩:=⟨_,rfl⟩
   obtain ⟨x2,x3,x4,x5⟩:=Iy (a:=⟨st,it,ins,outs,ah,steps⟩) (b:=⟨su,iu,jns,aF,aG,ax⟩) ⟨f2,f3,f4,f5⟩ ⟨t2,t3,t4,t5⟩
   rw [← hT] at x2 x3 x4 x5
   simp only at x2 x3 x4 x5
   have FT:Hid (jI ⟨tst,tit,ay,ak,au,ai⟩):=jI.small (by simp only;omega) (by simp only;omega) (by simp only;omega) (by simp only;omega)
   have CP:Hid (∀ W v1 v2,aB W ⟨st,it,ins,outs,ah,steps⟩ v1→aB W ⟨su,iu,jns,aF,aG,ax⟩ v2→Calls Tryz.prog 31 #[v1,v2] W fun e w'=>∃ (wa2:Option Addr) (wc2:Nat) (wa3:Option Addr) (wc3:Nat) (wa4:Option Addr) (wc4:Nat) (wa5:Option Addr) (wc5:Nat),e=.returned (.tuple #[.agg #[.int .i64 tst,.int .i64 tit,.slice wa2 ay.length wc2,.slice wa3 ak.length wc3,.slice wa4 au.length wc4,.slice wa5 ai.length wc5],.bool q])∧fZ w' W.heap.size ⟨tst,tit,ay,ak,au,ai⟩ (.agg #[.int .i64 tst,.int .i64 tit,.slice wa2 ay.length wc2,.slice wa3 ak.length wc3,.slice wa4 au.length wc4,.slice wa5 ai.length wc5])∧Below W.heap.size W w'):=fun W v1 v2 h1 h2=>by
    rw [hq,hT]
    refine (Aa ⟨st,it,ins,outs,ah,steps⟩ ⟨su,iu,jns,aF,aG,ax⟩ v1 v2 W h1 h2 ⟨f2,f3,f4,f5⟩ ⟨t2,t3,t4,t5⟩).mono fun e w' ⟨v',he,ho,hb⟩=>?_
    rw [← hT] at ho ⊢
    obtain ⟨_,_,_,_,_,_,_,_,rfl⟩:=ho.formF
    exact ⟨_,_,_,_,_,_,_,_,he,ho,hb⟩
   have CI:Hid (∀ W v1 v2,aB W ⟨st,it,ins,outs,ah,steps⟩ v1→aB W ⟨su,iu,jns,aF,aG,ax⟩ v2→Calls Tryz.prog 32 #[v1,v2] W fun e w'=>∃ (ga2:Option Addr) (gc2:Nat) (ga3:Option Addr) (gc3:Nat) (ga4:Option Addr) (gc4:Nat) (ga5:Option Addr) (gc5:Nat),e=.returned (.tuple #[.agg #[.int .i64 tst,.int .i64 tit,.slice ga2 ay.length gc2,.slice ga3 ak.length gc3,.slice ga4 au.length gc4,.slice ga5 ai.length gc5],.bool q])∧dS w' W.heap.size ⟨tst,tit,ay,ak,au,ai⟩ (.agg #[.int .i64 tst,.int .i64 tit,.slice ga2 ay.length gc2,.slice ga3 ak.length gc3,.slice ga4 au.length gc4,.slice ga5 ai.length gc5])∧Below W.heap.size W w'):=fun W v1 v2 h1 h2=>by
    rw [hq,hT]
    refine (zY ⟨st,it,ins,outs,ah,steps⟩ ⟨su,iu,jns,aF,aG,ax⟩ v1 v2 W h1 h2 ⟨f2,f3,f4,f5⟩ ⟨t2,t3,t4,t5⟩).mono fun e w' ⟨v',he,ho,hb⟩=>?_
    rw [← hT] at ho ⊢
    obtain ⟨_,_,_,_,_,_,_,_,rfl⟩:=ho.Jc
    exact ⟨_,_,_,_,_,_,_,_,he,ho,hb⟩
   obtain ⟨M,hM⟩:∃ m,m=vX ⟨tst,tit,ay,ak,au,ai⟩:=⟨_,rfl⟩
   have hM0:0≤M:=by
    rw [hM]
    unfold vX
    omega
   have HM:=Lib.hid hM
   have hqq:(q == q)=true:=by cases q <;> rfl
   have hqn:(q != q)=false:=by cases q <;> rfl
   clear hq hT hM
   go_wp2_with fail
   have SD:=S2.out.drew
   clear S2
   refine fK (S:=fun w'=>aI w w' w.heap.size (w.heap.size+1) 41 (iaC st it a2 n2 c2 a3 n3 c3 a4 n4 c4 a5 n5 c5) (iaC su iu b2 m2 d2 b3 m3 d3 b4 m4 d4 b5 m5 d5)) 11 (by kernel_rfl) (by kernel_rfl) (by kernel_rfl) SD (fun hHeld=>?_)
   refine dN 0 28 (.agg #[.int .i64 st,.int .i64 it,.slice a2 n2 c2,.slice a3 n3 c3,.slice a4 n4 c4,.slice a5 n5 c5]) (fuel:=10) rfl rfl (by kernel_rfl) (fun _ _ _ h=>h) (yieldsIf_load_mid (by rfl) _ _ rfl (w.heap.size) 0 rfl (iaC st it a2 n2 c2 a3 n3 c3 a4 n4 c4 a5 n5 c5).toList _ (fun w hw=>hw.2.1.range) Tryz.underlying41 rfl (by kernel_rfl)) hHeld (tf 1 11) (by kernel_rfl) (fun K hK=>?_)
   go_big_move
   refine hK.out _ ?_
   clear hK K
   refine dN 2 30 (.agg #[.int .i64 su,.int .i64 iu,.slice b2 m2 d2,.slice b3 m3 d3,.slice b4 m4 d4,.slice b5 m5 d5]) (fuel:=9) rfl rfl (by kernel_rfl) (fun _ _ _ h=>h) (yieldsIf_load_mid (by rfl) _ _ rfl (w.heap.size+1) 0 rfl (iaC su iu b2 m2 d2 b3 m3 d3 b4 m4 d4 b5 m5 d5).toList _ (fun w hw=>hw.2.2.range) Tryz.underlying41 rfl (by kernel_rfl)) hHeld (tf 5 11) (by kernel_rfl) (fun K hK=>?_)
   go_big_move
   refine hK.out _ ?_
   clear hK K
   refine Ce (ι:=Nat × Value × Value × (Option Addr × Nat) × (Option Addr × Nat) × (Option Addr × Nat) × (Option Addr × Nat)) (fun i=>[(28,.agg #[.int .i64 st,.int .i64 it,.slice a2 n2 c2,.slice a3 n3 c3,.slice a4 n4 c4,.slice a5 n5 c5]),(29,i.2.1),(30,.agg #[.int .i64 su,.int .i64 iu,.slice b2 m2 d2,.slice b3 m3 d3,.slice b4 m4 d4,.slice b5 m5 d5]),(31,i.2.2.1),(32,.tuple #[.agg #[.int .i64 tst,.int .i64 tit,.slice i.2.2.2.1.1 ay.length i.2.2.2.1.2,.slice i.2.2.2.2.1.1 ak.length i.2.2.2.2.1.2,.slice i.2.2.2.2.2.1.1 au.length i.2.2.2.2.2.1.2,.slice i.2.2.2.2.2.2.1 ai.length i.2.2.2.2.2.2.2],.bool q]),(27,.tuple #[.agg #[.int .i64 tst,.int .i64 tit,.slice i.2.2.2.1.1 ay.length i.2.2.2.1.2,.slice i.2.2.2.2.1.1 ak.length i.2.2.2.2.1.2,.slice i.2.2.2.2.2.1.1 au.length i.2.2.2.2.2.1.2,.slice i.2.2.2.2.2.2.1 ai.length i.2.2.2.2.2.2.2],.bool q]),(33,.agg #[.int .i64 tst,.int .i64 tit,.slice i.2.2.2.1.1 ay.length i.2.2.2.1.2,.slice i.2.2.2.2.1.1 ak.length i.2.2.2.2.1.2,.slice i.2.2.2.2.2.1.1 au.length i.2.2.2.2.2.1.2,.slice i.2.2.2.2.2.2.1 ai.length i.2.2.2.2.2.2.2]),(34,.bool q),(6,.pointer (some ⟨i.1,0,none⟩)),(7,.bool q)]) (fun i we=>(aI w we w.heap.size (w.heap.size+1) 41 (iaC st it a2 n2 c2 a3 n3 c3 a4 n4 c4 a5 n5 c5) (iaC su iu b2 m2 d2 b3 m3 d3 b4 m4 d4 b5 m5 d5))∧ae we i.1 #[.int .i64 tst,.int .i64 tit,.slice i.2.2.2.1.1 ay.length i.2.2.2.1.2,.slice i.2.2.2.2.1.1 ak.length i.2.2.2.2.1.2,.slice i.2.2.2.2.2.1.1 au.length i.2.2.2.2.2.1.2,.slice i.2.2.2.2.2.2.1 ai.length i.2.2.2.2.2.2.2] 27∧aB we ⟨tst,tit,ay,ak,au,ai⟩ (.agg #[.int .i64 tst,.int .i64 tit,.slice i.2.2.2.1.1 ay.length i.2.2.2.1.2,.slice i.2.2.2.2.1.1 ak.length i.2.2.2.2.1.2,.slice i.2.2.2.2.2.1.1 au.length i.2.2.2.2.2.1.2,.slice i.2.2.2.2.2.2.1 ai.length i.2.2.2.2.2.2.2])∧w.heap.size+1<i.1) ?_ (fun REST=>?_)
   ·rintro ⟨bw,vA,vB,⟨wa2,wc2⟩,⟨wa3,wc3⟩,⟨wa4,wc4⟩,⟨wa5,wc5⟩⟩ w5 ⟨hS,hv,hr,hbw⟩
    simp only at hS hv hr hbw
    simp only [putsAll,Act.put,sI0,sI1,sI2]
    have S5:=Lib.hid hS
    have VA5:=Lib.hid hS.2.1
    have VB5:=Lib.hid hS.2.2
    have VW5:=Lib.hid hv
    have RW5:=Lib.hid hr
    have C5A:Hid (∀ W,Below w5.heap.size w5 W→Calls Tryz.prog 23 #[.agg #[.int .i64 st,.int .i64 it,.slice a2 n2 c2,.slice a3 n3 c3,.slice a4 n4 c4,.slice a5 n5 c5]] W fun e w'=>∃ v',e=.returned v'∧iR w' W.heap.size ⟨st,it,ins,outs,ah,steps⟩ v'∧Below W.heap.size W w'):=fun W hW=>CTA.out W (S5.out.1.trans (hW.mono S5.out.1.size))
    have C5B:Hid (∀ W,Below w5.heap.size w5 W→Calls Tryz.prog 23 #[.agg #[.int .i64 su,.int .i64 iu,.slice b2 m2 d2,.slice b3 m3 d3,.slice b4 m4 d4,.slice b5 m5 d5]] W fun e w'=>∃ v',e=.returned v'∧iR w' W.heap.size ⟨su,iu,jns,aF,aG,ax⟩ v'∧Below W.heap.size W w'):=fun W hW=>CTB.out W (S5.out.1.trans (hW.mono S5.out.1.size))
    clear hS hv hr hbw hHeld SD CP
    obtain ⟨ca0,ca1,ca2,ca3,ca4,ca5⟩:=VA5.out.aO
    go_wp2_with fail
    clear ca0 ca1 ca2 ca3 ca4 ca5
    refine (C5A.out _ (Below.refl _ _)).mono ?_
    rintro e w6 ⟨vx,rfl,hat,hb⟩
    have h56:=hb.size
    have B6:=Lib.hid hb
    obtain ⟨g2,g3,g4,g5,rfl,gb,lt3,lt4,lt5,o2,o3,o4,o5⟩:=hat
    have hg5:=(o5.lt g5 rfl).2
    have XA6:Hid (iR w6 w5.heap.size ⟨st,it,ins,outs,ah,steps⟩ (.agg (iaC st it (some ⟨g2,0,none⟩) ins.length ins.length (some ⟨g3,0,none⟩) outs.length outs.length (some ⟨g4,0,none⟩) ah.length ah.length (some ⟨g5,0,none⟩) steps.length steps.length))):=⟨g2,g3,g4,g5,rfl,gb,lt3,lt4,lt5,o2,o3,o4,o5⟩
    clear hb o2 o3 o4 o5
    simp only
    have bx:=(Below.refl w6.heap.size w6).alloc (Nat.le_refl _) (.cells #[.int .i64 st,.int .i64 it,.slice (some ⟨g2,0,none⟩) ins.length ins.length,.slice (some ⟨g3,0,none⟩) outs.length outs.length,.slice (some ⟨g4,0,none⟩) ah.length ah.length,.slice (some ⟨g5,0,none⟩) steps.length steps.length] 27)
    have B7:=Lib.hid (B6.out.trans (bx.mono B6.out.size))
    have XA7:=Lib.hid (XA6.out.below bx)
    have V7:Hid (ae (w6.alloc (.cells #[.int .i64 st,.int .i64 it,.slice (some ⟨g2,0,none⟩) ins.length ins.length,.slice (some ⟨g3,0,none⟩) outs.length outs.length,.slice (some ⟨g4,0,none⟩) ah.length ah.length,.slice (some ⟨g5,0,none⟩) steps.length steps.length] 27)) w6.heap.size (iaC st it (some ⟨g2,0,none⟩) ins.length ins.length (some ⟨g3,0,none⟩) outs.length outs.length (some ⟨g4,0,none⟩) ah.length ah.length (some ⟨g5,0,none⟩) steps.length steps.length) 27):=ae.new w6 #[.int .i64 st,.int .i64 it,.slice (some ⟨g2,0,none⟩) ins.length ins.length,.slice (some ⟨g3,0,none⟩) outs.length outs.length,.slice (some ⟨g4,0,none⟩) ah.length ah.length,.slice (some ⟨g5,0,none⟩) steps.length steps.length] 27 rfl
    have VB7:=Lib.hid (VB5.out.below B7.out)
    clear bx B6 XA6
    obtain ⟨cb0,cb1,cb2,cb3,cb4,cb5⟩:=VB7.out.aO
    go_wp2_with fail
    clear cb0 cb1 cb2 cb3 cb4 cb5
    refine (C5B.out _ B7.out).mono ?_
    rintro e w8 ⟨vx,rfl,hat,hb⟩
    have h78:w6.heap.size+1≤w8.heap.size:=by
     have:=hb.size
     simpa using this
    have B8:=Lib.hid (B7.out.trans (hb.mono B7.out.size))
    have XA8:=Lib.hid (XA7.out.below hb)
    have V8:=Lib.hid (V7.out.below hb)
    obtain ⟨h2,h3,h4,h5,rfl,gb',lt3',lt4',lt5',o2,o3,o4,o5⟩:=hat
    have hh5:=(o5.lt h5 rfl).2
    have gbh:w6.heap.size+1≤h2:=by
     have:=gb'
     simpa using this
    have XB8:Hid (iR w8 (w6.heap.size+1) ⟨su,iu,jns,aF,aG,ax⟩ (.agg (iaC su iu (some ⟨h2,0,none⟩) jns.length jns.length (some ⟨h3,0,none⟩) aF.length aF.length (some ⟨h4,0,none⟩) aG.length aG.length (some ⟨h5,0,none⟩) ax.length ax.length))):=by
     have:iR w8 _ ⟨su,iu,jns,aF,aG,ax⟩ (.agg (iaC su iu (some ⟨h2,0,none⟩) jns.length jns.length (some ⟨h3,0,none⟩) aF.length aF.length (some ⟨h4,0,none⟩) aG.length aG.length (some ⟨h5,0,none⟩) ax.length ax.length)):=⟨h2,h3,h4,h5,rfl,gb',lt3',lt4',lt5',o2,o3,o4,o5⟩
     simpa [Hid] using this
    clear hb o2 o3 o4 o5 gb' B7 XA7 V7 VB7
    simp only
    have bx:=(Below.refl w8.heap.size w8).alloc (Nat.le_refl _) (.cells #[.int .i64 su,.int .i64 iu,.slice (some ⟨h2,0,none⟩) jns.length jns.length,.slice (some ⟨h3,0,none⟩) aF.length aF.length,.slice (some ⟨h4,0,none⟩) aG.length aG.length,.slice (some ⟨h5,0,none⟩) ax.length ax.length] 27)
    have L9:Hid (yD w5 (w8.alloc (.cells #[.int .i64 su,.int .i64 iu,.slice (some ⟨h2,0,none⟩) jns.length jns.length,.slice (some ⟨h3,0,none⟩) aF.length aF.length,.slice (some ⟨h4,0,none⟩) aG.length aG.length,.slice (some ⟨h5,0,none⟩) ax.length ax.length] 27)) w6.heap.size w8.heap.size w5.heap.size (w6.heap.size+1) ⟨st,it,ins,outs,ah,steps⟩ ⟨su,iu,jns,aF,aG,ax⟩ (iaC st it (some ⟨g2,0,none⟩) ins.length ins.length (some ⟨g3,0,none⟩) outs.length outs.length (some ⟨g4,0,none⟩) ah.length ah.length (some ⟨g5,0,none⟩) steps.length steps.length) (iaC su iu (some ⟨h2,0,none⟩) jns.length jns.length (some ⟨h3,0,none⟩) aF.length aF.length (some ⟨h4,0,none⟩) aG.length aG.length (some ⟨h5,0,none⟩) ax.length ax.length)):=⟨B8.out.trans (bx.mono B8.out.size),⟨V8.out.below bx,XA8.out.below bx⟩,⟨ae.new w8 #[.int .i64 su,.int .i64 iu,.slice (some ⟨h2,0,none⟩) jns.length jns.length,.slice (some ⟨h3,0,none⟩) aF.length aF.length,.slice (some ⟨h4,0,none⟩) aG.length aG.length,.slice (some ⟨h5,0,none⟩) ax.length ax.length] 27 rfl,XB8.out.below bx⟩⟩
    have b9:=bx.size
    clear bx B8 XA8 V8 XB8
    obtain ⟨ca0,ca1,ca2,ca3,ca4,ca5⟩:=L9.out.2.1.1.aO
    obtain ⟨cb0,cb1,cb2,cb3,cb4,cb5⟩:=L9.out.2.2.1.aO
    go_wp2_with fail
    clear ca0 ca1 ca2 ca3 ca4 ca5 cb0 cb1 cb2 cb3 cb4 cb5
    refine (CI.out _ _ _ L9.out.2.1.2.row L9.out.2.2.2.row).mono ?_
    rintro e w10 ⟨ga2,gc2,ga3,gc3,ga4,gc4,ga5,gc5,rfl,hoG,hb⟩
    have hs10:w8.heap.size+1≤w10.heap.size:=by
     have:=hb.size
     simpa using this
    have hoG':dS w10 (w8.heap.size+1) ⟨tst,tit,ay,ak,au,ai⟩ (.agg #[.int .i64 tst,.int .i64 tit,.slice ga2 ay.length gc2,.slice ga3 ak.length gc3,.slice ga4 au.length gc4,.slice ga5 ai.length gc5]):=by simpa using hoG
    have bg:=(Below.refl w10.heap.size w10).alloc (Nat.le_refl _) (.cells #[.int .i64 tst,.int .i64 tit,.slice ga2 ay.length gc2,.slice ga3 ak.length gc3,.slice ga4 au.length gc4,.slice ga5 ai.length gc5] 27)
    have HAW:=Lib.hid (hoG'.apart (Nat.le_refl _))
    have G11:Hid (kG w5 (w10.alloc (.cells #[.int .i64 tst,.int .i64 tit,.slice ga2 ay.length gc2,.slice ga3 ak.length gc3,.slice ga4 au.length gc4,.slice ga5 ai.length gc5] 27)) w6.heap.size w8.heap.size w5.heap.size (w6.heap.size+1) ⟨st,it,ins,outs,ah,steps⟩ ⟨su,iu,jns,aF,aG,ax⟩ (iaC st it (some ⟨g2,0,none⟩) ins.length ins.length (some ⟨g3,0,none⟩) outs.length outs.length (some ⟨g4,0,none⟩) ah.length ah.length (some ⟨g5,0,none⟩) steps.length steps.length) (iaC su iu (some ⟨h2,0,none⟩) jns.length jns.length (some ⟨h3,0,none⟩) aF.length aF.length (some ⟨h4,0,none⟩) aG.length aG.length (some ⟨h5,0,none⟩) ax.length ax.length) w10.heap.size (w8.heap.size+1) (⟨tst,tit,ay,ak,au,ai⟩) #[.int .i64 tst,.int .i64 tit,.slice ga2 ay.length gc2,.slice ga3 ak.length gc3,.slice ga4 au.length gc4,.slice ga5 ai.length gc5]):=⟨(L9.out.below hb).below bg,ae.new w10 #[.int .i64 tst,.int .i64 tit,.slice ga2 ay.length gc2,.slice ga3 ak.length gc3,.slice ga4 au.length gc4,.slice ga5 ai.length gc5] 27 rfl,hoG'.below bg⟩
    have VW11:=Lib.hid (VW5.out.below G11.out.1.1)
    clear hb hoG hoG' bg L9
    simp only
    obtain ⟨ca0,ca1,ca2,ca3,ca4,ca5⟩:=G11.out.2.1.aO
    obtain ⟨cb0,cb1,cb2,cb3,cb4,cb5⟩:=VW11.out.aO
    go_wp2_with fail
    clear ca0 ca1 ca2 ca3 ca4 ca5 cb0 cb1 cb2 cb3 cb4 cb5
    refine (uq ⟨tst,tit,ay,ak,au,ai⟩ ⟨tst,tit,ay,ak,au,ai⟩ _ _ _ G11.out.2.2.row (RW5.out.below G11.out.1.1) FT.out FT.out).mono ?_
    rintro e w11 ⟨rfl,hb⟩
    rw [nG]
    have G12:=Lib.hid (G11.out.below hb)
    clear hb G11 VW11
    have E1a:Hid (∀ W,kG w5 W w6.heap.size w8.heap.size w5.heap.size (w6.heap.size+1) ⟨st,it,ins,outs,ah,steps⟩ ⟨su,iu,jns,aF,aG,ax⟩ (iaC st it (some ⟨g2,0,none⟩) ins.length ins.length (some ⟨g3,0,none⟩) outs.length outs.length (some ⟨g4,0,none⟩) ah.length ah.length (some ⟨g5,0,none⟩) steps.length steps.length) (iaC su iu (some ⟨h2,0,none⟩) jns.length jns.length (some ⟨h3,0,none⟩) aF.length aF.length (some ⟨h4,0,none⟩) aG.length aG.length (some ⟨h5,0,none⟩) ax.length ax.length) w10.heap.size (w8.heap.size+1) (⟨tst,tit,ay,ak,au,ai⟩) #[.int .i64 tst,.int .i64 tit,.slice ga2 ay.length gc2,.slice ga3 ak.length gc3,.slice ga4 au.length gc4,.slice ga5 ai.length gc5]→Calls Tryz.prog 23 #[.agg #[.int .i64 st,.int .i64 it,.slice a2 n2 c2,.slice a3 n3 c3,.slice a4 n4 c4,.slice a5 n5 c5]] W fun e w'=>∃ v',e=.returned v'∧aB w' ⟨st,it,ins,outs,ah,steps⟩ v'∧kG w5 w' w6.heap.size w8.heap.size w5.heap.size (w6.heap.size+1) ⟨st,it,ins,outs,ah,steps⟩ ⟨su,iu,jns,aF,aG,ax⟩ (iaC st it (some ⟨g2,0,none⟩) ins.length ins.length (some ⟨g3,0,none⟩) outs.length outs.length (some ⟨g4,0,none⟩) ah.length ah.length (some ⟨g5,0,none⟩) steps.length steps.length) (iaC su iu (some ⟨h2,0,none⟩) jns.length jns.length (some ⟨h3,0,none⟩) aF.length aF.length (some ⟨h4,0,none⟩) aG.length aG.length (some ⟨h5,0,none⟩) ax.length ax.length) w10.heap.size (w8.heap.size+1) (⟨tst,tit,ay,ak,au,ai⟩) #[.int .i64 tst,.int .i64 tit,.slice ga2 ay.length gc2,.slice ga3 ak.length gc3,.slice ga4 au.length gc4,.slice ga5 ai.length gc5]):=fun W hW=>(C5A.out W hW.1.1).mono fun e w' ⟨v',he,hat,hb⟩=>⟨v',he,hat.row,hW.below hb⟩
    have E2a:Hid (∀ W v',aB W ⟨st,it,ins,outs,ah,steps⟩ v'→kG w5 W w6.heap.size w8.heap.size w5.heap.size (w6.heap.size+1) ⟨st,it,ins,outs,ah,steps⟩ ⟨su,iu,jns,aF,aG,ax⟩ (iaC st it (some ⟨g2,0,none⟩) ins.length ins.length (some ⟨g3,0,none⟩) outs.length outs.length (some ⟨g4,0,none⟩) ah.length ah.length (some ⟨g5,0,none⟩) steps.length steps.length) (iaC su iu (some ⟨h2,0,none⟩) jns.length jns.length (some ⟨h3,0,none⟩) aF.length aF.length (some ⟨h4,0,none⟩) aG.length aG.length (some ⟨h5,0,none⟩) ax.length ax.length) w10.heap.size (w8.heap.size+1) (⟨tst,tit,ay,ak,au,ai⟩) #[.int .i64 tst,.int .i64 tit,.slice ga2 ay.length gc2,.slice ga3 ak.length gc3,.slice ga4 au.length gc4,.slice ga5 ai.length gc5]→Calls Tryz.prog 26 #[.agg #[.int .i64 st,.int .i64 it,.slice (some ⟨g2,0,none⟩) ins.length ins.length,.slice (some ⟨g3,0,none⟩) outs.length outs.length,.slice (some ⟨g4,0,none⟩) ah.length ah.length,.slice (some ⟨g5,0,none⟩) steps.length steps.length],v'] W fun e w'=>e=.returned (.bool true)∧kG w5 w' w6.heap.size w8.heap.size w5.heap.size (w6.heap.size+1) ⟨st,it,ins,outs,ah,steps⟩ ⟨su,iu,jns,aF,aG,ax⟩ (iaC st it (some ⟨g2,0,none⟩) ins.length ins.length (some ⟨g3,0,none⟩) outs.length outs.length (some ⟨g4,0,none⟩) ah.length ah.length (some ⟨g5,0,none⟩) steps.length steps.length) (iaC su iu (some ⟨h2,0,none⟩) jns.length jns.length (some ⟨h3,0,none⟩) aF.length aF.length (some ⟨h4,0,none⟩) aG.length aG.length (some ⟨h5,0,none⟩) ax.length ax.length) w10.heap.size (w8.heap.size+1) (⟨tst,tit,ay,ak,au,ai⟩) #[.int .i64 tst,.int .i64 tit,.slice ga2 ay.length gc2,.slice ga3 ak.length gc3,.slice ga4 au.length gc4,.slice ga5 ai.length gc5]):=fun W v' hv hW=>(uq ⟨st,it,ins,outs,ah,steps⟩ ⟨st,it,ins,outs,ah,steps⟩ _ _ W hW.1.2.1.2.row hv (jI.small f2 f3 f4 f5) (jI.small f2 f3 f4 f5)).mono fun e w' ⟨he,hb⟩=>⟨by rw [he,nG],hW.below hb⟩
    go_wp2_with fail
    have SD:kG w5 w11.drew w6.heap.size w8.heap.size w5.heap.size (w6.heap.size+1) ⟨st,it,ins,outs,ah,steps⟩ ⟨su,iu,jns,aF,aG,ax⟩ (iaC st it (some ⟨g2,0,none⟩) ins.length ins.length (some ⟨g3,0,none⟩) outs.length outs.length (some ⟨g4,0,none⟩) ah.length ah.length (some ⟨g5,0,none⟩) steps.length steps.length) (iaC su iu (some ⟨h2,0,none⟩) jns.length jns.length (some ⟨h3,0,none⟩) aF.length aF.length (some ⟨h4,0,none⟩) aG.length aG.length (some ⟨h5,0,none⟩) ax.length ax.length) w10.heap.size (w8.heap.size+1) (⟨tst,tit,ay,ak,au,ai⟩) #[.int .i64 tst,.int .i64 tit,.slice ga2 ay.length gc2,.slice ga3 ak.length gc3,.slice ga4 au.length gc4,.slice ga5 ai.length gc5]:=G12.out.drew
    refine wp_region_held_drew (S:=fun w'=>kG w5 w' w6.heap.size w8.heap.size w5.heap.size (w6.heap.size+1) ⟨st,it,ins,outs,ah,steps⟩ ⟨su,iu,jns,aF,aG,ax⟩ (iaC st it (some ⟨g2,0,none⟩) ins.length ins.length (some ⟨g3,0,none⟩) outs.length outs.length (some ⟨g4,0,none⟩) ah.length ah.length (some ⟨g5,0,none⟩) steps.length steps.length) (iaC su iu (some ⟨h2,0,none⟩) jns.length jns.length (some ⟨h3,0,none⟩) aF.length aF.length (some ⟨h4,0,none⟩) aG.length aG.length (some ⟨h5,0,none⟩) ax.length ax.length) w10.heap.size (w8.heap.size+1) (⟨tst,tit,ay,ak,au,ai⟩) #[.int .i64 tst,.int .i64 tit,.slice ga2 ay.length gc2,.slice ga3 ak.length gc3,.slice ga4 au.length gc4,.slice ga5 ai.length gc5]) (by kernel_rfl) SD (fun hHeld=>?_)
    change wpAnyH _ _ _ _ _ 5 (Array.replicate 5 false) _ _
    refine aX 0 54 (.agg #[.int .i64 st,.int .i64 it,.slice (some ⟨g2,0,none⟩) ins.length ins.length,.slice (some ⟨g3,0,none⟩) outs.length outs.length,.slice (some ⟨g4,0,none⟩) ah.length ah.length,.slice (some ⟨g5,0,none⟩) steps.length steps.length]) (fuel:=4) rfl rfl (by kernel_rfl) (fun _ _ _ h=>h) (yieldsIf_load_mid (by rfl) _ _ rfl (w6.heap.size) 0 rfl (iaC st it (some ⟨g2,0,none⟩) ins.length ins.length (some ⟨g3,0,none⟩) outs.length outs.length (some ⟨g4,0,none⟩) ah.length ah.length (some ⟨g5,0,none⟩) steps.length steps.length).toList _ (fun w hw=>hw.1.2.1.1.range) Tryz.underlying27 rfl (by kernel_rfl)) hHeld ?_
    simp only [Act.put,sI0,sI1,sI2]
    refine aX 1 55 (.agg #[.int .i64 st,.int .i64 it,.slice a2 n2 c2,.slice a3 n3 c3,.slice a4 n4 c4,.slice a5 n5 c5]) (fuel:=3) rfl rfl (by kernel_rfl) (fun _ _ _ h=>h) (yieldsIf_load_mid (by rfl) _ _ rfl (w.heap.size) 0 rfl (iaC st it a2 n2 c2 a3 n3 c3 a4 n4 c4 a5 n5 c5).toList _ (fun w hw=>(VA5.out.below hw.1.1).range) Tryz.underlying41 rfl (by kernel_rfl)) hHeld ?_
    simp only [Act.put,sI0,sI1,sI2]
    refine wpAnyH_ready (rs:=[2]) (fuel:=2) (by kernel_rfl) (by simp) ?_
    refine AllReadyH.cons rfl (fun K hK=>?_) AllReadyH.nil
    go_simp
    refine (E1a.out _ hHeld).mono ?_
    rintro e w12a ⟨vq,rfl,hrq,hS⟩
    go_wp2_with fail
    refine hK.out _ _ hS (fun hHeld=>?_)
    clear hK K
    refine wpAnyH_ready (rs:=[3]) (fuel:=1) (by kernel_rfl) (by simp) ?_
    refine AllReadyH.cons rfl (fun K hK=>?_) AllReadyH.nil
    go_simp
    refine (E2a.out _ _ hrq hHeld).mono ?_
    rintro e w13a ⟨rfl,hS⟩
    clear hrq
    go_wp2_with fail
    refine hK.out _ _ hS (fun hHeld=>?_)
    clear hK K
    refine ag 4 58 (.bool false) (fuel:=0) rfl rfl (by kernel_rfl) (fun _ _ _ h=>h) (by rfl) (fun w hSw=>by go_simp) hHeld ?_
    simp only [Act.put,sI0,sI1,sI2]
    refine wpAnyH_done (by kernel_rfl) ?_ _
    have HSa:=Lib.hid hHeld
    clear G12
    clear hHeld SD E1a E2a
    have E1b:Hid (∀ W,kG w5 W w6.heap.size w8.heap.size w5.heap.size (w6.heap.size+1) ⟨st,it,ins,outs,ah,steps⟩ ⟨su,iu,jns,aF,aG,ax⟩ (iaC st it (some ⟨g2,0,none⟩) ins.length ins.length (some ⟨g3,0,none⟩) outs.length outs.length (some ⟨g4,0,none⟩) ah.length ah.length (some ⟨g5,0,none⟩) steps.length steps.length) (iaC su iu (some ⟨h2,0,none⟩) jns.length jns.length (some ⟨h3,0,none⟩) aF.length aF.length (some ⟨h4,0,none⟩) aG.length aG.length (some ⟨h5,0,none⟩) ax.length ax.length) w10.heap.size (w8.heap.size+1) (⟨tst,tit,ay,ak,au,ai⟩) #[.int .i64 tst,.int .i64 tit,.slice ga2 ay.length gc2,.slice ga3 ak.length gc3,.slice ga4 au.length gc4,.slice ga5 ai.length gc5]→Calls Tryz.prog 23 #[.agg #[.int .i64 su,.int .i64 iu,.slice b2 m2 d2,.slice b3 m3 d3,.slice b4 m4 d4,.slice b5 m5 d5]] W fun e w'=>∃ v',e=.returned v'∧aB w' ⟨su,iu,jns,aF,aG,ax⟩ v'∧kG w5 w' w6.heap.size w8.heap.size w5.heap.size (w6.heap.size+1) ⟨st,it,ins,outs,ah,steps⟩ ⟨su,iu,jns,aF,aG,ax⟩ (iaC st it (some ⟨g2,0,none⟩) ins.length ins.length (some ⟨g3,0,none⟩) outs.length outs.length (some ⟨g4,0,none⟩) ah.length ah.length (some ⟨g5,0,none⟩) steps.length steps.length) (iaC su iu (some ⟨h2,0,none⟩) jns.length jns.length (some ⟨h3,0,none⟩) aF.length aF.length (some ⟨h4,0,none⟩) aG.length aG.length (some ⟨h5,0,none⟩) ax.length ax.length) w10.heap.size (w8.heap.size+1) (⟨tst,tit,ay,ak,au,ai⟩) #[.int .i64 tst,.int .i64 tit,.slice ga2 ay.length gc2,.slice ga3 ak.length gc3,.slice ga4 au.length gc4,.slice ga5 ai.length gc5]):=fun W hW=>(C5B.out W hW.1.1).mono fun e w' ⟨v',he,hat,hb⟩=>⟨v',he,hat.row,hW.below hb⟩
    have E2b:Hid (∀ W v',aB W ⟨su,iu,jns,aF,aG,ax⟩ v'→kG w5 W w6.heap.size w8.heap.size w5.heap.size (w6.heap.size+1) ⟨st,it,ins,outs,ah,steps⟩ ⟨su,iu,jns,aF,aG,ax⟩ (iaC st it (some ⟨g2,0,none⟩) ins.length ins.length (some ⟨g3,0,none⟩) outs.length outs.length (some ⟨g4,0,none⟩) ah.length ah.length (some ⟨g5,0,none⟩) steps.length steps.length) (iaC su iu (some ⟨h2,0,none⟩) jns.length jns.length (some ⟨h3,0,none⟩) aF.length aF.length (some ⟨h4,0,none⟩) aG.length aG.length (some ⟨h5,0,none⟩) ax.length ax.length) w10.heap.size (w8.heap.size+1) (⟨tst,tit,ay,ak,au,ai⟩) #[.int .i64 tst,.int .i64 tit,.slice ga2 ay.length gc2,.slice ga3 ak.length gc3,.slice ga4 au.length gc4,.slice ga5 ai.length gc5]→Calls Tryz.prog 26 #[.agg #[.int .i64 su,.int .i64 iu,.slice (some ⟨h2,0,none⟩) jns.length jns.length,.slice (some ⟨h3,0,none⟩) aF.length aF.length,.slice (some ⟨h4,0,none⟩) aG.length aG.length,.slice (some ⟨h5,0,none⟩) ax.length ax.length],v'] W fun e w'=>e=.returned (.bool true)∧kG w5 w' w6.heap.size w8.heap.size w5.heap.size (w6.heap.size+1) ⟨st,it,ins,outs,ah,steps⟩ ⟨su,iu,jns,aF,aG,ax⟩ (iaC st it (some ⟨g2,0,none⟩) ins.length ins.length (some ⟨g3,0,none⟩) outs.length outs.length (some ⟨g4,0,none⟩) ah.length ah.length (some ⟨g5,0,none⟩) steps.length steps.length) (iaC su iu (some ⟨h2,0,none⟩) jns.length jns.length (some ⟨h3,0,none⟩) aF.length aF.length (some ⟨h4,0,none⟩) aG.length aG.length (some ⟨h5,0,none⟩) ax.length ax.length) w10.heap.size (w8.heap.size+1) (⟨tst,tit,ay,ak,au,ai⟩) #[.int .i64 tst,.int .i64 tit,.slice ga2 ay.length gc2,.slice ga3 ak.length gc3,.slice ga4 au.length gc4,.slice ga5 ai.length gc5]):=fun W v' hv hW=>(uq ⟨su,iu,jns,aF,aG,ax⟩ ⟨su,iu,jns,aF,aG,ax⟩ _ _ W hW.1.2.2.2.row hv (jI.small t2 t3 t4 t5) (jI.small t2 t3 t4 t5)).mono fun e w' ⟨he,hb⟩=>⟨by rw [he,nG],hW.below hb⟩
    go_wp2_with fail
    have SD:kG w5 w13a.drew w6.heap.size w8.heap.size w5.heap.size (w6.heap.size+1) ⟨st,it,ins,outs,ah,steps⟩ ⟨su,iu,jns,aF,aG,ax⟩ (iaC st it (some ⟨g2,0,none⟩) ins.length ins.length (some ⟨g3,0,none⟩) outs.length outs.length (some ⟨g4,0,none⟩) ah.length ah.length (some ⟨g5,0,none⟩) steps.length steps.length) (iaC su iu (some ⟨h2,0,none⟩) jns.length jns.length (some ⟨h3,0,none⟩) aF.length aF.length (some ⟨h4,0,none⟩) aG.length aG.length (some ⟨h5,0,none⟩) ax.length ax.length) w10.heap.size (w8.heap.size+1) (⟨tst,tit,ay,ak,au,ai⟩) #[.int .i64 tst,.int .i64 tit,.slice ga2 ay.length gc2,.slice ga3 ak.length gc3,.slice ga4 au.length gc4,.slice ga5 ai.length gc5]:=HSa.out.drew
    refine wp_region_held_drew (S:=fun w'=>kG w5 w' w6.heap.size w8.heap.size w5.heap.size (w6.heap.size+1) ⟨st,it,ins,outs,ah,steps⟩ ⟨su,iu,jns,aF,aG,ax⟩ (iaC st it (some ⟨g2,0,none⟩) ins.length ins.length (some ⟨g3,0,none⟩) outs.length outs.length (some ⟨g4,0,none⟩) ah.length ah.length (some ⟨g5,0,none⟩) steps.length steps.length) (iaC su iu (some ⟨h2,0,none⟩) jns.length jns.length (some ⟨h3,0,none⟩) aF.length aF.length (some ⟨h4,0,none⟩) aG.length aG.length (some ⟨h5,0,none⟩) ax.length ax.length) w10.heap.size (w8.heap.size+1) (⟨tst,tit,ay,ak,au,ai⟩) #[.int .i64 tst,.int .i64 tit,.slice ga2 ay.length gc2,.slice ga3 ak.length gc3,.slice ga4 au.length gc4,.slice ga5 ai.length gc5]) (by kernel_rfl) SD (fun hHeld=>?_)
    change wpAnyH _ _ _ _ _ 5 (Array.replicate 5 false) _ _
    refine aX 0 59 (.agg #[.int .i64 su,.int .i64 iu,.slice (some ⟨h2,0,none⟩) jns.length jns.length,.slice (some ⟨h3,0,none⟩) aF.length aF.length,.slice (some ⟨h4,0,none⟩) aG.length aG.length,.slice (some ⟨h5,0,none⟩) ax.length ax.length]) (fuel:=4) rfl rfl (by kernel_rfl) (fun _ _ _ h=>h) (yieldsIf_load_mid (by rfl) _ _ rfl (w8.heap.size) 0 rfl (iaC su iu (some ⟨h2,0,none⟩) jns.length jns.length (some ⟨h3,0,none⟩) aF.length aF.length (some ⟨h4,0,none⟩) aG.length aG.length (some ⟨h5,0,none⟩) ax.length ax.length).toList _ (fun w hw=>hw.1.2.2.1.range) Tryz.underlying27 rfl (by kernel_rfl)) hHeld ?_
    simp only [Act.put,sI0,sI1,sI2]
    refine aX 1 60 (.agg #[.int .i64 su,.int .i64 iu,.slice b2 m2 d2,.slice b3 m3 d3,.slice b4 m4 d4,.slice b5 m5 d5]) (fuel:=3) rfl rfl (by kernel_rfl) (fun _ _ _ h=>h) (yieldsIf_load_mid (by rfl) _ _ rfl (w.heap.size+1) 0 rfl (iaC su iu b2 m2 d2 b3 m3 d3 b4 m4 d4 b5 m5 d5).toList _ (fun w hw=>(VB5.out.below hw.1.1).range) Tryz.underlying41 rfl (by kernel_rfl)) hHeld ?_
    simp only [Act.put,sI0,sI1,sI2]
    refine wpAnyH_ready (rs:=[2]) (fuel:=2) (by kernel_rfl) (by simp) ?_
    refine AllReadyH.cons rfl (fun K hK=>?_) AllReadyH.nil
    go_simp
    refine (E1b.out _ hHeld).mono ?_
    rintro e w12b ⟨vq,rfl,hrq,hS⟩
    go_wp2_with fail
    refine hK.out _ _ hS (fun hHeld=>?_)
    clear hK K
    refine wpAnyH_ready (rs:=[3]) (fuel:=1) (by kernel_rfl) (by simp) ?_
    refine AllReadyH.cons rfl (fun K hK=>?_) AllReadyH.nil
    go_simp
    refine (E2b.out _ _ hrq hHeld).mono ?_
    rintro e w13b ⟨rfl,hS⟩
    clear hrq
    go_wp2_with fail
    refine hK.out _ _ hS (fun hHeld=>?_)
    clear hK K
    refine ag 4 63 (.bool false) (fuel:=0) rfl rfl (by kernel_rfl) (fun _ _ _ h=>h) (by rfl) (fun w hSw=>by go_simp) hHeld ?_
    simp only [Act.put,sI0,sI1,sI2]
    refine wpAnyH_done (by kernel_rfl) ?_ _
    have HSb:=Lib.hid hHeld
    clear HSa
    clear hHeld SD E1b E2b
    obtain ⟨ca0,ca1,ca2,ca3,ca4,ca5⟩:=HSb.out.1.2.1.1.aO
    go_wp2_with fail
    clear ca0 ca1 ca2 ca3 ca4 ca5
    obtain ⟨_,_,_,_,o2,o3,o4,o5⟩:=HSb.out.1.2.1.2.parts
    have hx8:=HSb.out.1.2.2.1.lt
    have hx10:=HSb.out.2.1.lt
    refine (zg 1 st it g2 g3 g4 g5 ins outs ah steps w5.heap.size _ (by omega) (by omega) gb lt3 lt4 lt5 (by omega) o2 o3 o4 o5 (by omega) (by omega) (by omega) (by omega)).mono ?_
    rintro e w15 ⟨r1,hr0,hr1,rfl,hb,x8⟩
    have B15:=Lib.hid (HSb.out.1.1.trans hb)
    have VB15:=Lib.hid (HSb.out.1.2.2.1.pJ x8 (by omega) (by omega) (by omega) (by omega))
    have XB15:=Lib.hid (HSb.out.1.2.2.2.pJ x8 lt3 lt4 lt5 (by omega))
    have VG15:=Lib.hid (HSb.out.2.1.pJ x8 (by omega) (by omega) (by omega) (by omega))
    have OG15:=Lib.hid (HSb.out.2.2.Gl x8 (by omega) (by omega) (by omega) (by omega))
    clear hb x8 o2 o3 o4 o5 HSb
    obtain ⟨cb0,cb1,cb2,cb3,cb4,cb5⟩:=VB15.out.aO
    go_wp2_with fail
    clear cb0 cb1 cb2 cb3 cb4 cb5
    obtain ⟨_,_,_,_,o2,o3,o4,o5⟩:=XB15.out.parts
    have hx15:=VB15.out.lt
    refine (zg r1 su iu h2 h3 h4 h5 jns aF aG ax (w6.heap.size+1) _ hr0 (by omega) gbh lt3' lt4' lt5' (by omega) o2 o3 o4 o5 (by omega) (by omega) (by omega) (by omega)).mono ?_
    rintro e w16 ⟨r2,hr20,hr21,rfl,hb,x8⟩
    have M16:Hid (pU w5 w16 w10.heap.size (w8.heap.size+1) ⟨tst,tit,ay,ak,au,ai⟩ #[.int .i64 tst,.int .i64 tit,.slice ga2 ay.length gc2,.slice ga3 ak.length gc3,.slice ga4 au.length gc4,.slice ga5 ai.length gc5]):=⟨B15.out.trans (hb.mono (by omega)),VG15.out.pJ x8 (by omega) (by omega) (by omega) (by omega),OG15.out.Gl x8 (by omega) (by omega) (by omega) (by omega)⟩
    have VW16:=Lib.hid (VW5.out.below M16.out.1)
    clear hb x8 o2 o3 o4 o5 VB15 XB15 B15 VG15 OG15
    have hrd:decide (r2<0)=false:=by simp;omega
    obtain ⟨ca0,ca1,ca2,ca3,ca4,ca5⟩:=M16.out.2.1.aO
    obtain ⟨cb0,cb1,cb2,cb3,cb4,cb5⟩:=VW16.out.aO
    go_wp2_with fail
    clear ca0 ca1 ca2 ca3 ca4 ca5 cb0 cb1 cb2 cb3 cb4 cb5
    refine (uq ⟨tst,tit,ay,ak,au,ai⟩ ⟨tst,tit,ay,ak,au,ai⟩ _ _ _ M16.out.2.2.row (RW5.out.below M16.out.1) FT.out FT.out).mono ?_
    rintro e w17 ⟨rfl,hb⟩
    rw [nG]
    have M17:=Lib.hid (M16.out.below hb)
    clear hb M16 VW16
    obtain ⟨ca0,ca1,ca2,ca3,ca4,ca5⟩:=M17.out.2.1.aO
    go_wp2_with fail
    clear ca0 ca1 ca2 ca3 ca4 ca5
    have hx17:=M17.out.2.1.lt
    refine (GM ⟨tst,tit,ay,ak,au,ai⟩ _ (w8.heap.size+1) _ M17.out.2.2 (by omega) (by simp only;omega) (by simp only;omega) (by simp only;omega) (by simp only;omega) w10.heap.size _ _ M17.out.2.1 HAW.out).mono ?_
    rw [← HM.out]
    rintro e w18 ⟨rfl,ho,hb,hG⟩
    have M18:Hid (pU w5 w18 w10.heap.size (w8.heap.size+1) (fU ⟨tst,tit,ay,ak,au,ai⟩) #[.int .i64 tst,.int .i64 tit,.slice ga2 ay.length gc2,.slice ga3 ak.length gc3,.slice ga4 au.length gc4,.slice ga5 ai.length gc5]):=⟨M17.out.1.trans (hb.mono (by omega)),hG,ho⟩
    clear hb ho hG M17
    have hMd:decide (M<0)=false:=by simp;omega
    obtain ⟨ca0,ca1,ca2,ca3,ca4,ca5⟩:=M18.out.2.1.aO
    go_wp2_with fail
    clear ca0 ca1 ca2 ca3 ca4 ca5
    refine (Aw ⟨tst,tit,ay,ak,au,ai⟩ _ _ M18.out.2.2.row (by simp only;omega) (by simp only;omega) (by simp only;omega) (by simp only;omega)).mono ?_
    rw [← HM.out]
    rintro e w19 ⟨rfl,hb⟩
    have M19:=Lib.hid (M18.out.below hb)
    clear hb M18
    have CJ:Hid (∀ W v1 v2,aB W ⟨st,it,ins,outs,ah,steps⟩ v1→aB W ⟨su,iu,jns,aF,aG,ax⟩ v2→Calls Tryz.prog 32 #[v1,v2] W fun e w'=>∃ (ha2:Option Addr) (hc2:Nat) (ha3:Option Addr) (hc3:Nat) (ha4:Option Addr) (hc4:Nat) (ha5:Option Addr) (hc5:Nat),e=.returned (.tuple #[.agg #[.int .i64 tst,.int .i64 tit,.slice ha2 ay.length hc2,.slice ha3 ak.length hc3,.slice ha4 au.length hc4,.slice ha5 ai.length hc5],.bool q])∧bM w' W.heap.size ⟨tst,tit,ay,ak,au,ai⟩ (.agg #[.int .i64 tst,.int .i64 tit,.slice ha2 ay.length hc2,.slice ha3 ak.length hc3,.slice ha4 au.length hc4,.slice ha5 ai.length hc5])∧Below W.heap.size W w'):=fun W v1 v2 h1 h2=>(CI.out W v1 v2 h1 h2).mono fun e w' ⟨_,_,_,_,_,_,_,_,he,ho,hb⟩=>⟨_,_,_,_,_,_,_,_,he,ho.high,hb⟩
    go_wp2_with fail
    have SD:pU w5 w19.drew w10.heap.size (w8.heap.size+1) (fU ⟨tst,tit,ay,ak,au,ai⟩) #[.int .i64 tst,.int .i64 tit,.slice ga2 ay.length gc2,.slice ga3 ak.length gc3,.slice ga4 au.length gc4,.slice ga5 ai.length gc5]:=M19.out.drew
    clear M19 CI
    refine fK (S:=fun w'=>pU w5 w' w10.heap.size (w8.heap.size+1) (fU ⟨tst,tit,ay,ak,au,ai⟩) #[.int .i64 tst,.int .i64 tit,.slice ga2 ay.length gc2,.slice ga3 ak.length gc3,.slice ga4 au.length gc4,.slice ga5 ai.length gc5]) 11 (by kernel_rfl) (by kernel_rfl) (by kernel_rfl) SD (fun hHeld=>?_)
    refine dN 0 95 (.agg #[.int .i64 st,.int .i64 it,.slice a2 n2 c2,.slice a3 n3 c3,.slice a4 n4 c4,.slice a5 n5 c5]) (fuel:=10) rfl rfl (by kernel_rfl) (fun _ _ _ h=>h) (yieldsIf_load_mid (by rfl) _ _ rfl (w.heap.size) 0 rfl (iaC st it a2 n2 c2 a3 n3 c3 a4 n4 c4 a5 n5 c5).toList _ (fun w hw=>(VA5.out.below hw.1).range) Tryz.underlying41 rfl (by kernel_rfl)) hHeld (tf 1 11) (by kernel_rfl) (fun K hK=>?_)
    go_big_move
    refine hK.out _ ?_
    clear hK K
    refine dN 2 97 (.agg #[.int .i64 su,.int .i64 iu,.slice b2 m2 d2,.slice b3 m3 d3,.slice b4 m4 d4,.slice b5 m5 d5]) (fuel:=9) rfl rfl (by kernel_rfl) (fun _ _ _ h=>h) (yieldsIf_load_mid (by rfl) _ _ rfl (w.heap.size+1) 0 rfl (iaC su iu b2 m2 d2 b3 m3 d3 b4 m4 d4 b5 m5 d5).toList _ (fun w hw=>(VB5.out.below hw.1).range) Tryz.underlying41 rfl (by kernel_rfl)) hHeld (tf 5 11) (by kernel_rfl) (fun K hK=>?_)
    go_big_move
    refine hK.out _ ?_
    clear hK K
    refine Ce (ι:=Nat × Value × Value × (Option Addr × Nat) × (Option Addr × Nat) × (Option Addr × Nat) × (Option Addr × Nat)) (fun i=>[(95,.agg #[.int .i64 st,.int .i64 it,.slice a2 n2 c2,.slice a3 n3 c3,.slice a4 n4 c4,.slice a5 n5 c5]),(96,i.2.1),(97,.agg #[.int .i64 su,.int .i64 iu,.slice b2 m2 d2,.slice b3 m3 d3,.slice b4 m4 d4,.slice b5 m5 d5]),(98,i.2.2.1),(99,.tuple #[.agg #[.int .i64 tst,.int .i64 tit,.slice i.2.2.2.1.1 ay.length i.2.2.2.1.2,.slice i.2.2.2.2.1.1 ak.length i.2.2.2.2.1.2,.slice i.2.2.2.2.2.1.1 au.length i.2.2.2.2.2.1.2,.slice i.2.2.2.2.2.2.1 ai.length i.2.2.2.2.2.2.2],.bool q]),(94,.tuple #[.agg #[.int .i64 tst,.int .i64 tit,.slice i.2.2.2.1.1 ay.length i.2.2.2.1.2,.slice i.2.2.2.2.1.1 ak.length i.2.2.2.2.1.2,.slice i.2.2.2.2.2.1.1 au.length i.2.2.2.2.2.1.2,.slice i.2.2.2.2.2.2.1 ai.length i.2.2.2.2.2.2.2],.bool q]),(100,.agg #[.int .i64 tst,.int .i64 tit,.slice i.2.2.2.1.1 ay.length i.2.2.2.1.2,.slice i.2.2.2.2.1.1 ak.length i.2.2.2.2.1.2,.slice i.2.2.2.2.2.1.1 au.length i.2.2.2.2.2.1.2,.slice i.2.2.2.2.2.2.1 ai.length i.2.2.2.2.2.2.2]),(101,.bool q),(15,.pointer (some ⟨i.1,0,none⟩)),(16,.bool q)]) (fun i we=>(pU w5 we w10.heap.size (w8.heap.size+1) (fU ⟨tst,tit,ay,ak,au,ai⟩) #[.int .i64 tst,.int .i64 tit,.slice ga2 ay.length gc2,.slice ga3 ak.length gc3,.slice ga4 au.length gc4,.slice ga5 ai.length gc5])∧ae we i.1 #[.int .i64 tst,.int .i64 tit,.slice i.2.2.2.1.1 ay.length i.2.2.2.1.2,.slice i.2.2.2.2.1.1 ak.length i.2.2.2.2.1.2,.slice i.2.2.2.2.2.1.1 au.length i.2.2.2.2.2.1.2,.slice i.2.2.2.2.2.2.1 ai.length i.2.2.2.2.2.2.2] 27∧bM we 0 ⟨tst,tit,ay,ak,au,ai⟩ (.agg #[.int .i64 tst,.int .i64 tit,.slice i.2.2.2.1.1 ay.length i.2.2.2.1.2,.slice i.2.2.2.2.1.1 ak.length i.2.2.2.2.1.2,.slice i.2.2.2.2.2.1.1 au.length i.2.2.2.2.2.1.2,.slice i.2.2.2.2.2.2.1 ai.length i.2.2.2.2.2.2.2])∧w10.heap.size<i.1) ?_ (fun REST=>?_)
    ·rintro ⟨bh,vC,vD,⟨ha2,hc2⟩,⟨ha3,hc3⟩,⟨ha4,hc4⟩,⟨ha5,hc5⟩⟩ w20 ⟨hS,hv,hr,hbw⟩
     simp only at hS hv hr hbw
     simp only [putsAll,Act.put,sI0,sI1,sI2]
     have M20:=Lib.hid hS
     have VH20:=Lib.hid hv
     have RH20:=Lib.hid hr.yJ
     have VW20:=Lib.hid (VW5.out.below M20.out.1)
     clear hS hv hr hbw hHeld SD CJ
     obtain ⟨ca0,ca1,ca2,ca3,ca4,ca5⟩:=VH20.out.aO
     obtain ⟨cb0,cb1,cb2,cb3,cb4,cb5⟩:=VW20.out.aO
     go_wp2_with fail
     clear ca0 ca1 ca2 ca3 ca4 ca5 cb0 cb1 cb2 cb3 cb4 cb5
     refine (uq ⟨tst,tit,ay,ak,au,ai⟩ ⟨tst,tit,ay,ak,au,ai⟩ _ _ _ RH20.out (RW5.out.below M20.out.1) FT.out FT.out).mono ?_
     rintro e w21 ⟨rfl,hb⟩
     rw [nG]
     have M21:=Lib.hid (M20.out.below hb)
     clear hb M20 VH20 RH20 VW20
     obtain ⟨ca0,ca1,ca2,ca3,ca4,ca5⟩:=M21.out.2.1.aO
     go_wp2_with fail
     clear ca0 ca1 ca2 ca3 ca4 ca5
     refine (Aw ⟨tst,tit,ay,ak,au,ai⟩ _ _ M21.out.2.2.row (by simp only;omega) (by simp only;omega) (by simp only;omega) (by simp only;omega)).mono ?_
     rw [← HM.out]
     rintro e w22 ⟨rfl,hb⟩
     have M22:=Lib.hid (M21.out.below hb)
     clear hb M21
     go_wp2_with fail
     go_ret
     exact ⟨rfl,S5.out.1.trans (M22.out.1.mono S5.out.1.size)⟩
    ·refine wpAnyH_ready (rs:=[1,8]) (fuel:=8) (by kernel_rfl) (by simp) ?_
     refine aC rfl (by kernel_rfl) (tf 7 11) (by kernel_rfl) (fun K hK=>?_) ?_
     ·simp only [sI3,sI4,sI5]
      go_big_op
      refine (CTA.out _ (S5.out.1.trans (hHeld.1.mono S5.out.1.size))).mono ?_
      rintro e wp1 ⟨va1,rfl,hat,hb⟩
      have ra1:Hid (aB wp1 ⟨st,it,ins,outs,ah,steps⟩ va1):=hat.row
      have hS1:=hHeld.below hb
      clear hb hat
      refine hK.out _ _ hS1 (fun hHeld=>?_)
      clear hK K hS1
      refine wpAnyH_ready (rs:=[3,8]) (fuel:=7) (by kernel_rfl) (by simp) ?_
      refine aC rfl (by kernel_rfl) (tf 15 11) (by kernel_rfl) (fun K hK=>?_) ?_
      ·simp only [sI3,sI4,sI5]
       go_big_op
       refine (CTB.out _ (S5.out.1.trans (hHeld.1.mono S5.out.1.size))).mono ?_
       rintro e wp2 ⟨vb2,rfl,hat,hb⟩
       have ra2:Hid (aB wp2 ⟨st,it,ins,outs,ah,steps⟩ va1):=ra1.out.below (hb)
       have rb2:Hid (aB wp2 ⟨su,iu,jns,aF,aG,ax⟩ vb2):=hat.row
       have hS2:=hHeld.below hb
       clear hb hat
       refine hK.out _ _ hS2 (fun hHeld=>?_)
       clear hK K hS2
       refine wpAnyH_ready (rs:=[4,8]) (fuel:=6) (by kernel_rfl) (by simp) ?_
       refine aC rfl (by kernel_rfl) (tf 31 11) (by kernel_rfl) (fun K hK=>?_) ?_
       ·simp only [sI3,sI4,sI5]
        go_big_op
        refine (CJ.out _ _ _ ra2.out rb2.out).mono ?_
        rintro e wp3 ⟨lu,l7,l9,lC,lD,lF,lG,lH,rfl,hr,hb⟩
        have ra3:Hid (aB wp3 ⟨st,it,ins,outs,ah,steps⟩ va1):=ra2.out.below (hb)
        have rb3:Hid (aB wp3 ⟨su,iu,jns,aF,aG,ax⟩ vb2):=rb2.out.below (hb)
        have rw3:Hid (bM wp3 0 ⟨tst,tit,ay,ak,au,ai⟩ (.agg #[.int .i64 tst,.int .i64 tit,.slice lu ay.length l7,.slice l9 ak.length lC,.slice lD au.length lF,.slice lG ai.length lH])):=hr.mono (Nat.zero_le _)
        have hS3:=hHeld.below hb
        clear hb hr
        refine hK.out _ _ hS3 (fun hHeld=>?_)
        clear hK K hS3
        refine aW 5 94 (.tuple #[.agg #[.int .i64 tst,.int .i64 tit,.slice lu ay.length l7,.slice l9 ak.length lC,.slice lD au.length lF,.slice lG ai.length lH],.bool q]) (.tmp 99) (fuel:=5) rfl rfl (by kernel_rfl) (fun _ _ _ h=>h) (by kernel_rfl) (by kernel_rfl) (by first|exact Or.inl rfl|exact Or.inr rfl) hHeld (tf 63 11) (by kernel_rfl) (fun K hK=>?_)
        go_big_move
        refine hK.out _ ?_
        clear hK K
        refine aZ 6 100 (.agg #[.int .i64 tst,.int .i64 tit,.slice lu ay.length l7,.slice l9 ak.length lC,.slice lD au.length lF,.slice lG ai.length lH]) (.tmp 94) (.tuple #[.agg #[.int .i64 tst,.int .i64 tit,.slice lu ay.length l7,.slice l9 ak.length lC,.slice lD au.length lF,.slice lG ai.length lH],.bool q]) (fuel:=4) rfl rfl (by kernel_rfl) (fun _ _ _ h=>h) (by kernel_rfl) (by kernel_rfl) (fun ρ hr0 _ w hSw=>by simp [go_sem,hr0]) hHeld (tf 127 11) (by kernel_rfl) (fun K hK=>?_)
        go_big_move
        refine hK.out _ ?_
        clear hK K
        refine aZ 7 101 (.bool q) (.tmp 94) (.tuple #[.agg #[.int .i64 tst,.int .i64 tit,.slice lu ay.length l7,.slice l9 ak.length lC,.slice lD au.length lF,.slice lG ai.length lH],.bool q]) (fuel:=3) rfl rfl (by kernel_rfl) (fun _ _ _ h=>h) (by kernel_rfl) (by kernel_rfl) (fun ρ hr0 _ w hSw=>by simp [go_sem,hr0]) hHeld (tf 255 11) (by kernel_rfl) (fun K hK=>?_)
        go_big_move
        refine hK.out _ ?_
        clear hK K
        refine wpAnyH_ready (rs:=[8]) (fuel:=2) (by kernel_rfl) (by simp) ?_
        refine aC rfl (by kernel_rfl) (tf 511 11) (by kernel_rfl) (fun K hK=>?_) AllReadyH.nil
        have ra4:Hid (aB (wp3.alloc (.cells #[.int .i64 0,.int .i64 0,.slice none 0 0,.slice none 0 0,.slice none 0 0,.slice none 0 0] 27)) ⟨st,it,ins,outs,ah,steps⟩ va1):=ra3.out.below ((Below.refl _ wp3).alloc (Nat.le_refl _) (.cells #[.int .i64 0,.int .i64 0,.slice none 0 0,.slice none 0 0,.slice none 0 0,.slice none 0 0] 27))
        have rb4:Hid (aB (wp3.alloc (.cells #[.int .i64 0,.int .i64 0,.slice none 0 0,.slice none 0 0,.slice none 0 0,.slice none 0 0] 27)) ⟨su,iu,jns,aF,aG,ax⟩ vb2):=rb3.out.below ((Below.refl _ wp3).alloc (Nat.le_refl _) (.cells #[.int .i64 0,.int .i64 0,.slice none 0 0,.slice none 0 0,.slice none 0 0,.slice none 0 0] 27))
        have rw4:Hid (bM (wp3.alloc (.cells #[.int .i64 0,.int .i64 0,.slice none 0 0,.slice none 0 0,.slice none 0 0,.slice none 0 0] 27)) 0 ⟨tst,tit,ay,ak,au,ai⟩ (.agg #[.int .i64 tst,.int .i64 tit,.slice lu ay.length l7,.slice l9 ak.length lC,.slice lD au.length lF,.slice lG ai.length lH])):=rw3.out.below ((Below.refl _ wp3).alloc (Nat.le_refl _) (.cells #[.int .i64 0,.int .i64 0,.slice none 0 0,.slice none 0 0,.slice none 0 0,.slice none 0 0] 27))
        have BL:Hid (w10.heap.size<wp3.heap.size):=by
         have h1:=hHeld.2.1.lt
         (try simp at h1)
         unfold Hid
         (try simp)
         omega
        have vn4:Hid (ae (wp3.alloc (.cells #[.int .i64 0,.int .i64 0,.slice none 0 0,.slice none 0 0,.slice none 0 0,.slice none 0 0] 27)) (wp3.heap.size) #[.int .i64 0,.int .i64 0,.slice none 0 0,.slice none 0 0,.slice none 0 0,.slice none 0 0] 27):=ae.new wp3 #[.int .i64 0,.int .i64 0,.slice none 0 0,.slice none 0 0,.slice none 0 0,.slice none 0 0] 27 (by simp)
        simp only [sI3,sI4,sI5]
        go_big_op
        refine hK.out _ _ (hHeld.below ((Below.refl _ wp3).alloc (Nat.le_refl _) (.cells #[.int .i64 0,.int .i64 0,.slice none 0 0,.slice none 0 0,.slice none 0 0,.slice none 0 0] 27))) (fun hHeld=>?_)
        clear hK K
        have tZ:Hid ((wp3.alloc (.cells #[.int .i64 0,.int .i64 0,.slice none 0 0,.slice none 0 0,.slice none 0 0,.slice none 0 0] 27)).there (wp3.heap.size) 0 6):=vn4.out.there rfl
        have gZ:=Lib.hid (aA (wp3.heap.size) [.int .i64 tst,.int .i64 tit,.slice lu ay.length l7,.slice l9 ak.length lC,.slice lD au.length lF,.slice lG ai.length lH] 0 (wp3.alloc (.cells #[.int .i64 0,.int .i64 0,.slice none 0 0,.slice none 0 0,.slice none 0 0,.slice none 0 0] 27)))
        have hSZ:Hid (pU w5 ((wp3.alloc (.cells #[.int .i64 0,.int .i64 0,.slice none 0 0,.slice none 0 0,.slice none 0 0,.slice none 0 0] 27)).setCells (wp3.heap.size) 0 [.int .i64 tst,.int .i64 tit,.slice lu ay.length l7,.slice l9 ak.length lC,.slice lD au.length lF,.slice lG ai.length lH]) w10.heap.size (w8.heap.size+1) (fU ⟨tst,tit,ay,ak,au,ai⟩) #[.int .i64 tst,.int .i64 tit,.slice ga2 ay.length gc2,.slice ga3 ak.length gc3,.slice ga4 au.length gc4,.slice ga5 ai.length gc5]):=⟨hHeld.1.grown gZ.out hHeld.1.size (fun q hq=>by have h1:=Option.some.inj hq;have h2:=BL.out;omega),hHeld.2.1.grown gZ.out (fun e=>by have h1:=Option.some.inj e;have h2:=BL.out;omega),hHeld.2.2.az vn4.out gZ.out⟩
        have rZ:Hid (bM ((wp3.alloc (.cells #[.int .i64 0,.int .i64 0,.slice none 0 0,.slice none 0 0,.slice none 0 0,.slice none 0 0] 27)).setCells (wp3.heap.size) 0 [.int .i64 tst,.int .i64 tit,.slice lu ay.length l7,.slice l9 ak.length lC,.slice lD au.length lF,.slice lG ai.length lH]) 0 ⟨tst,tit,ay,ak,au,ai⟩ (.agg #[.int .i64 tst,.int .i64 tit,.slice lu ay.length l7,.slice l9 ak.length lC,.slice lD au.length lF,.slice lG ai.length lH])):=rw4.out.az vn4.out gZ.out
        have vZ:Hid (ae ((wp3.alloc (.cells #[.int .i64 0,.int .i64 0,.slice none 0 0,.slice none 0 0,.slice none 0 0,.slice none 0 0] 27)).setCells (wp3.heap.size) 0 [.int .i64 tst,.int .i64 tit,.slice lu ay.length l7,.slice l9 ak.length lC,.slice lD au.length lF,.slice lG ai.length lH]) (wp3.heap.size) #[.int .i64 tst,.int .i64 tit,.slice lu ay.length l7,.slice l9 ak.length lC,.slice lD au.length lF,.slice lG ai.length lH] 27):=vn4.out.sets _ _ _ _ _ _
        refine wpAnyH_ready (rs:=[9]) (fuel:=1) (by kernel_rfl) (by simp) ?_
        refine aC rfl (by kernel_rfl) (tf 1023 11) (by kernel_rfl) (fun K hK=>?_) AllReadyH.nil
        refine wp_store_mid _ _ _ rfl (wp3.heap.size) 0 #[.int .i64 tst,.int .i64 tit,.slice lu ay.length l7,.slice l9 ak.length lC,.slice lD au.length lF,.slice lG ai.length lH] rfl rfl tZ.out (by kernel_rfl) (di _ _ _ _ _ _ _ _ _ _ _ _ _ _) ?_
        refine hK.out _ _ hSZ.out (fun hHeld=>?_)
        clear hK K
        try simp only [sI3,sI4,sI5,Act.put]
        refine aW 10 16 (.bool q) (.tmp 101) (fuel:=0) rfl rfl (by kernel_rfl) (fun _ _ _ h=>h) (by kernel_rfl) (by kernel_rfl) (by first|exact Or.inl rfl|exact Or.inr rfl) hHeld (tf 2047 11) (by kernel_rfl) (fun K hK=>?_)
        go_big_move
        refine hK.out _ ?_
        clear hK K
        refine wpAnyH_done (by kernel_rfl) ?_ _
        exact REST.out (wp3.heap.size,va1,vb2,(lu,l7),(l9,lC),(lD,lF),(lG,lH)) _ _ (by kernel_rfl) ⟨hSZ.out,vZ.out,rZ.out,BL.out⟩
       refine aC rfl (by kernel_rfl) (tf 271 11) (by kernel_rfl) (fun K hK=>?_) AllReadyH.nil
       have ra5:Hid (aB (wp2.alloc (.cells #[.int .i64 0,.int .i64 0,.slice none 0 0,.slice none 0 0,.slice none 0 0,.slice none 0 0] 27)) ⟨st,it,ins,outs,ah,steps⟩ va1):=ra2.out.below ((Below.refl _ wp2).alloc (Nat.le_refl _) (.cells #[.int .i64 0,.int .i64 0,.slice none 0 0,.slice none 0 0,.slice none 0 0,.slice none 0 0] 27))
       have rb5:Hid (aB (wp2.alloc (.cells #[.int .i64 0,.int .i64 0,.slice none 0 0,.slice none 0 0,.slice none 0 0,.slice none 0 0] 27)) ⟨su,iu,jns,aF,aG,ax⟩ vb2):=rb2.out.below ((Below.refl _ wp2).alloc (Nat.le_refl _) (.cells #[.int .i64 0,.int .i64 0,.slice none 0 0,.slice none 0 0,.slice none 0 0,.slice none 0 0] 27))
       have BL:Hid (w10.heap.size<wp2.heap.size):=by
        have h1:=hHeld.2.1.lt
        (try simp at h1)
        unfold Hid
        (try simp)
        omega
       have vn5:Hid (ae (wp2.alloc (.cells #[.int .i64 0,.int .i64 0,.slice none 0 0,.slice none 0 0,.slice none 0 0,.slice none 0 0] 27)) (wp2.heap.size) #[.int .i64 0,.int .i64 0,.slice none 0 0,.slice none 0 0,.slice none 0 0,.slice none 0 0] 27):=ae.new wp2 #[.int .i64 0,.int .i64 0,.slice none 0 0,.slice none 0 0,.slice none 0 0,.slice none 0 0] 27 (by simp)
       simp only [sI3,sI4,sI5]
       go_big_op
       refine hK.out _ _ (hHeld.below ((Below.refl _ wp2).alloc (Nat.le_refl _) (.cells #[.int .i64 0,.int .i64 0,.slice none 0 0,.slice none 0 0,.slice none 0 0,.slice none 0 0] 27))) (fun hHeld=>?_)
       clear hK K
       refine wpAnyH_ready (rs:=[4]) (fuel:=5) (by kernel_rfl) (by simp) ?_
       refine aC rfl (by kernel_rfl) (tf 287 11) (by kernel_rfl) (fun K hK=>?_) AllReadyH.nil
       simp only [sI3,sI4,sI5]
       go_big_op
       refine (CJ.out _ _ _ ra5.out rb5.out).mono ?_
       rintro e wp6 ⟨oh,oq,ou,oz,o6,o7,o8,o9,rfl,hr,hb⟩
       have ra6:Hid (aB wp6 ⟨st,it,ins,outs,ah,steps⟩ va1):=ra5.out.below (hb)
       have rb6:Hid (aB wp6 ⟨su,iu,jns,aF,aG,ax⟩ vb2):=rb5.out.below (hb)
       have v6:Hid (ae wp6 (wp2.heap.size) #[.int .i64 0,.int .i64 0,.slice none 0 0,.slice none 0 0,.slice none 0 0,.slice none 0 0] 27):=vn5.out.below (hb)
       have rw6:Hid (bM wp6 0 ⟨tst,tit,ay,ak,au,ai⟩ (.agg #[.int .i64 tst,.int .i64 tit,.slice oh ay.length oq,.slice ou ak.length oz,.slice o6 au.length o7,.slice o8 ai.length o9])):=hr.mono (Nat.zero_le _)
       have hS6:=hHeld.below hb
       clear hb hr
       refine hK.out _ _ hS6 (fun hHeld=>?_)
       clear hK K hS6
       refine aW 5 94 (.tuple #[.agg #[.int .i64 tst,.int .i64 tit,.slice oh ay.length oq,.slice ou ak.length oz,.slice o6 au.length o7,.slice o8 ai.length o9],.bool q]) (.tmp 99) (fuel:=4) rfl rfl (by kernel_rfl) (fun _ _ _ h=>h) (by kernel_rfl) (by kernel_rfl) (by first|exact Or.inl rfl|exact Or.inr rfl) hHeld (tf 319 11) (by kernel_rfl) (fun K hK=>?_)
       go_big_move
       refine hK.out _ ?_
       clear hK K
       refine aZ 6 100 (.agg #[.int .i64 tst,.int .i64 tit,.slice oh ay.length oq,.slice ou ak.length oz,.slice o6 au.length o7,.slice o8 ai.length o9]) (.tmp 94) (.tuple #[.agg #[.int .i64 tst,.int .i64 tit,.slice oh ay.length oq,.slice ou ak.length oz,.slice o6 au.length o7,.slice o8 ai.length o9],.bool q]) (fuel:=3) rfl rfl (by kernel_rfl) (fun _ _ _ h=>h) (by kernel_rfl) (by kernel_rfl) (fun ρ hr0 _ w hSw=>by simp [go_sem,hr0]) hHeld (tf 383 11) (by kernel_rfl) (fun K hK=>?_)
       go_big_move
       refine hK.out _ ?_
       clear hK K
       refine aZ 7 101 (.bool q) (.tmp 94) (.tuple #[.agg #[.int .i64 tst,.int .i64 tit,.slice oh ay.length oq,.slice ou ak.length oz,.slice o6 au.length o7,.slice o8 ai.length o9],.bool q]) (fuel:=2) rfl rfl (by kernel_rfl) (fun _ _ _ h=>h) (by kernel_rfl) (by kernel_rfl) (fun ρ hr0 _ w hSw=>by simp [go_sem,hr0]) hHeld (tf 511 11) (by kernel_rfl) (fun K hK=>?_)
       go_big_move
       refine hK.out _ ?_
       clear hK K
       have tZ:Hid (wp6.there (wp2.heap.size) 0 6):=v6.out.there rfl
       have gZ:=Lib.hid (aA (wp2.heap.size) [.int .i64 tst,.int .i64 tit,.slice oh ay.length oq,.slice ou ak.length oz,.slice o6 au.length o7,.slice o8 ai.length o9] 0 wp6)
       have hSZ:Hid (pU w5 (wp6.setCells (wp2.heap.size) 0 [.int .i64 tst,.int .i64 tit,.slice oh ay.length oq,.slice ou ak.length oz,.slice o6 au.length o7,.slice o8 ai.length o9]) w10.heap.size (w8.heap.size+1) (fU ⟨tst,tit,ay,ak,au,ai⟩) #[.int .i64 tst,.int .i64 tit,.slice ga2 ay.length gc2,.slice ga3 ak.length gc3,.slice ga4 au.length gc4,.slice ga5 ai.length gc5]):=⟨hHeld.1.grown gZ.out hHeld.1.size (fun q hq=>by have h1:=Option.some.inj hq;have h2:=BL.out;omega),hHeld.2.1.grown gZ.out (fun e=>by have h1:=Option.some.inj e;have h2:=BL.out;omega),hHeld.2.2.az v6.out gZ.out⟩
       have rZ:Hid (bM (wp6.setCells (wp2.heap.size) 0 [.int .i64 tst,.int .i64 tit,.slice oh ay.length oq,.slice ou ak.length oz,.slice o6 au.length o7,.slice o8 ai.length o9]) 0 ⟨tst,tit,ay,ak,au,ai⟩ (.agg #[.int .i64 tst,.int .i64 tit,.slice oh ay.length oq,.slice ou ak.length oz,.slice o6 au.length o7,.slice o8 ai.length o9])):=rw6.out.az v6.out gZ.out
       have vZ:Hid (ae (wp6.setCells (wp2.heap.size) 0 [.int .i64 tst,.int .i64 tit,.slice oh ay.length oq,.slice ou ak.length oz,.slice o6 au.length o7,.slice o8 ai.length o9]) (wp2.heap.size) #[.int .i64 tst,.int .i64 tit,.slice oh ay.length oq,.slice ou ak.length oz,.slice o6 au.length o7,.slice o8 ai.length o9] 27):=v6.out.sets _ _ _ _ _ _
       refine wpAnyH_ready (rs:=[9]) (fuel:=1) (by kernel_rfl) (by simp) ?_
       refine aC rfl (by kernel_rfl) (tf 1023 11) (by kernel_rfl) (fun K hK=>?_) AllReadyH.nil
       refine wp_store_mid _ _ _ rfl (wp2.heap.size) 0 #[.int .i64 tst,.int .i64 tit,.slice oh ay.length oq,.slice ou ak.length oz,.slice o6 au.length o7,.slice o8 ai.length o9] rfl rfl tZ.out (by kernel_rfl) (di _ _ _ _ _ _ _ _ _ _ _ _ _ _) ?_
       refine hK.out _ _ hSZ.out (fun hHeld=>?_)
       clear hK K
       try simp only [sI3,sI4,sI5,Act.put]
       refine aW 10 16 (.bool q) (.tmp 101) (fuel:=0) rfl rfl (by kernel_rfl) (fun _ _ _ h=>h) (by kernel_rfl) (by kernel_rfl) (by first|exact Or.inl rfl|exact Or.inr rfl) hHeld (tf 2047 11) (by kernel_rfl) (fun K hK=>?_)
       go_big_move
       refine hK.out _ ?_
       clear hK K
       refine wpAnyH_done (by kernel_rfl) ?_ _
       exact REST.out (wp2.heap.size,va1,vb2,(oh,oq),(ou,oz),(o6,o7),(o8,o9)) _ _ (by kernel_rfl) ⟨hSZ.out,vZ.out,rZ.out,BL.out⟩
      refine aC rfl (by kernel_rfl) (tf 263 11) (by kernel_rfl) (fun K hK=>?_) AllReadyH.nil
      have ra7:Hid (aB (wp1.alloc (.cells #[.int .i64 0,.int .i64 0,.slice none 0 0,.slice none 0 0,.slice none 0 0,.slice none 0 0] 27)) ⟨st,it,ins,outs,ah,steps⟩ va1):=ra1.out.below ((Below.refl _ wp1).alloc (Nat.le_refl _) (.cells #[.int .i64 0,.int .i64 0,.slice none 0 0,.slice none 0 0,.slice none 0 0,.slice none 0 0] 27))
      have BL:Hid (w10.heap.size<wp1.heap.size):=by
       have h1:=hHeld.2.1.lt
       (try simp at h1)
       unfold Hid
       (try simp)
       omega
      have vn7:Hid (ae (wp1.alloc (.cells #[.int .i64 0,.int .i64 0,.slice none 0 0,.slice none 0 0,.slice none 0 0,.slice none 0 0] 27)) (wp1.heap.size) #[.int .i64 0,.int .i64 0,.slice none 0 0,.slice none 0 0,.slice none 0 0,.slice none 0 0] 27):=ae.new wp1 #[.int .i64 0,.int .i64 0,.slice none 0 0,.slice none 0 0,.slice none 0 0,.slice none 0 0] 27 (by simp)
      simp only [sI3,sI4,sI5]
      go_big_op
      refine hK.out _ _ (hHeld.below ((Below.refl _ wp1).alloc (Nat.le_refl _) (.cells #[.int .i64 0,.int .i64 0,.slice none 0 0,.slice none 0 0,.slice none 0 0,.slice none 0 0] 27))) (fun hHeld=>?_)
      clear hK K
      refine wpAnyH_ready (rs:=[3]) (fuel:=6) (by kernel_rfl) (by simp) ?_
      refine aC rfl (by kernel_rfl) (tf 271 11) (by kernel_rfl) (fun K hK=>?_) AllReadyH.nil
      simp only [sI3,sI4,sI5]
      go_big_op
      refine (CTB.out _ (S5.out.1.trans (hHeld.1.mono S5.out.1.size))).mono ?_
      rintro e wp8 ⟨vb8,rfl,hat,hb⟩
      have ra8:Hid (aB wp8 ⟨st,it,ins,outs,ah,steps⟩ va1):=ra7.out.below (hb)
      have v8:Hid (ae wp8 (wp1.heap.size) #[.int .i64 0,.int .i64 0,.slice none 0 0,.slice none 0 0,.slice none 0 0,.slice none 0 0] 27):=vn7.out.below (hb)
      have rb8:Hid (aB wp8 ⟨su,iu,jns,aF,aG,ax⟩ vb8):=hat.row
      have hS8:=hHeld.below hb
      clear hb hat
      refine hK.out _ _ hS8 (fun hHeld=>?_)
      clear hK K hS8
      refine wpAnyH_ready (rs:=[4]) (fuel:=5) (by kernel_rfl) (by simp) ?_
      refine aC rfl (by kernel_rfl) (tf 287 11) (by kernel_rfl) (fun K hK=>?_) AllReadyH.nil
      simp only [sI3,sI4,sI5]
      go_big_op
      refine (CJ.out _ _ _ ra8.out rb8.out).mono ?_
      rintro e wp9 ⟨oC,oD,oG,oH,oI,oJ,oK,oL,rfl,hr,hb⟩
      have ra9:Hid (aB wp9 ⟨st,it,ins,outs,ah,steps⟩ va1):=ra8.out.below (hb)
      have v9:Hid (ae wp9 (wp1.heap.size) #[.int .i64 0,.int .i64 0,.slice none 0 0,.slice none 0 0,.slice none 0 0,.slice none 0 0] 27):=v8.out.below (hb)
      have rb9:Hid (aB wp9 ⟨su,iu,jns,aF,aG,ax⟩ vb8):=rb8.out.below (hb)
      have rw9:Hid (bM wp9 0 ⟨tst,tit,ay,ak,au,ai⟩ (.agg #[.int .i64 tst,.int .i64 tit,.slice oC ay.length oD,.slice oG ak.length oH,.slice oI au.length oJ,.slice oK ai.length oL])):=hr.mono (Nat.zero_le _)
      have hS9:=hHeld.below hb
      clear hb hr
      refine hK.out _ _ hS9 (fun hHeld=>?_)
      clear hK K hS9
      refine aW 5 94 (.tuple #[.agg #[.int .i64 tst,.int .i64 tit,.slice oC ay.length oD,.slice oG ak.length oH,.slice oI au.length oJ,.slice oK ai.length oL],.bool q]) (.tmp 99) (fuel:=4) rfl rfl (by kernel_rfl) (fun _ _ _ h=>h) (by kernel_rfl) (by kernel_rfl) (by first|exact Or.inl rfl|exact Or.inr rfl) hHeld (tf 319 11) (by kernel_rfl) (fun K hK=>?_)
      go_big_move
      refine hK.out _ ?_
      clear hK K
      refine aZ 6 100 (.agg #[.int .i64 tst,.int .i64 tit,.slice oC ay.length oD,.slice oG ak.length oH,.slice oI au.length oJ,.slice oK ai.length oL]) (.tmp 94) (.tuple #[.agg #[.int .i64 tst,.int .i64 tit,.slice oC ay.length oD,.slice oG ak.length oH,.slice oI au.length oJ,.slice oK ai.length oL],.bool q]) (fuel:=3) rfl rfl (by kernel_rfl) (fun _ _ _ h=>h) (by kernel_rfl) (by kernel_rfl) (fun ρ hr0 _ w hSw=>by simp [go_sem,hr0]) hHeld (tf 383 11) (by kernel_rfl) (fun K hK=>?_)
      go_big_move
      refine hK.out _ ?_
      clear hK K
      refine aZ 7 101 (.bool q) (.tmp 94) (.tuple #[.agg #[.int .i64 tst,.int .i64 tit,.slice oC ay.length oD,.slice oG ak.length oH,.slice oI au.length oJ,.slice oK ai.length oL],.bool q]) (fuel:=2) rfl rfl (by kernel_rfl) (fun _ _ _ h=>h) (by kernel_rfl) (by kernel_rfl) (fun ρ hr0 _ w hSw=>by simp [go_sem,hr0]) hHeld (tf 511 11) (by kernel_rfl) (fun K hK=>?_)
      go_big_move
      refine hK.out _ ?_
      clear hK K
      have tZ:Hid (wp9.there (wp1.heap.size) 0 6):=v9.out.there rfl
      have gZ:=Lib.hid (aA (wp1.heap.size) [.int .i64 tst,.int .i64 tit,.slice oC ay.length oD,.slice oG ak.length oH,.slice oI au.length oJ,.slice oK ai.length oL] 0 wp9)
      have hSZ:Hid (pU w5 (wp9.setCells (wp1.heap.size) 0 [.int .i64 tst,.int .i64 tit,.slice oC ay.length oD,.slice oG ak.length oH,.slice oI au.length oJ,.slice oK ai.length oL]) w10.heap.size (w8.heap.size+1) (fU ⟨tst,tit,ay,ak,au,ai⟩) #[.int .i64 tst,.int .i64 tit,.slice ga2 ay.length gc2,.slice ga3 ak.length gc3,.slice ga4 au.length gc4,.slice ga5 ai.length gc5]):=⟨hHeld.1.grown gZ.out hHeld.1.size (fun q hq=>by have h1:=Option.some.inj hq;have h2:=BL.out;omega),hHeld.2.1.grown gZ.out (fun e=>by have h1:=Option.some.inj e;have h2:=BL.out;omega),hHeld.2.2.az v9.out gZ.out⟩
      have rZ:Hid (bM (wp9.setCells (wp1.heap.size) 0 [.int .i64 tst,.int .i64 tit,.slice oC ay.length oD,.slice oG ak.length oH,.slice oI au.length oJ,.slice oK ai.length oL]) 0 ⟨tst,tit,ay,ak,au,ai⟩ (.agg #[.int .i64 tst,.int .i64 tit,.slice oC ay.length oD,.slice oG ak.length oH,.slice oI au.length oJ,.slice oK ai.length oL])):=rw9.out.az v9.out gZ.out
      have vZ:Hid (ae (wp9.setCells (wp1.heap.size) 0 [.int .i64 tst,.int .i64 tit,.slice oC ay.length oD,.slice oG ak.length oH,.slice oI au.length oJ,.slice oK ai.length oL]) (wp1.heap.size) #[.int .i64 tst,.int .i64 tit,.slice oC ay.length oD,.slice oG ak.length oH,.slice oI au.length oJ,.slice oK ai.length oL] 27):=v9.out.sets _ _ _ _ _ _
      refine wpAnyH_ready (rs:=[9]) (fuel:=1) (by kernel_rfl) (by simp) ?_
      refine aC rfl (by kernel_rfl) (tf 1023 11) (by kernel_rfl) (fun K hK=>?_) AllReadyH.nil
      refine wp_store_mid _ _ _ rfl (wp1.heap.size) 0 #[.int .i64 tst,.int .i64 tit,.slice oC ay.length oD,.slice oG ak.length oH,.slice oI au.length oJ,.slice oK ai.length oL] rfl rfl tZ.out (by kernel_rfl) (di _ _ _ _ _ _ _ _ _ _ _ _ _ _) ?_
      refine hK.out _ _ hSZ.out (fun hHeld=>?_)
      clear hK K
      try simp only [sI3,sI4,sI5,Act.put]
      refine aW 10 16 (.bool q) (.tmp 101) (fuel:=0) rfl rfl (by kernel_rfl) (fun _ _ _ h=>h) (by kernel_rfl) (by kernel_rfl) (by first|exact Or.inl rfl|exact Or.inr rfl) hHeld (tf 2047 11) (by kernel_rfl) (fun K hK=>?_)
      go_big_move
      refine hK.out _ ?_
      clear hK K
      refine wpAnyH_done (by kernel_rfl) ?_ _
      exact REST.out (wp1.heap.size,va1,vb8,(oC,oD),(oG,oH),(oI,oJ),(oK,oL)) _ _ (by kernel_rfl) ⟨hSZ.out,vZ.out,rZ.out,BL.out⟩
     refine aC rfl (by kernel_rfl) (tf 261 11) (by kernel_rfl) (fun K hK=>?_) AllReadyH.nil
     have BL:Hid (w10.heap.size<w19.heap.size):=by
      have h1:=hHeld.2.1.lt
      (try simp at h1)
      unfold Hid
      (try simp)
      omega
     have zU:Hid (ae (w19.drew.alloc (.cells #[.int .i64 0,.int .i64 0,.slice none 0 0,.slice none 0 0,.slice none 0 0,.slice none 0 0] 27)) (w19.heap.size) #[.int .i64 0,.int .i64 0,.slice none 0 0,.slice none 0 0,.slice none 0 0,.slice none 0 0] 27):=ae.new w19.drew #[.int .i64 0,.int .i64 0,.slice none 0 0,.slice none 0 0,.slice none 0 0,.slice none 0 0] 27 (by simp)
     simp only [sI3,sI4,sI5]
     go_big_op
     refine hK.out _ _ (hHeld.below ((Below.refl _ w19.drew).alloc (Nat.le_refl _) (.cells #[.int .i64 0,.int .i64 0,.slice none 0 0,.slice none 0 0,.slice none 0 0,.slice none 0 0] 27))) (fun hHeld=>?_)
     clear hK K
     refine wpAnyH_ready (rs:=[1]) (fuel:=7) (by kernel_rfl) (by simp) ?_
     refine aC rfl (by kernel_rfl) (tf 263 11) (by kernel_rfl) (fun K hK=>?_) AllReadyH.nil
     simp only [sI3,sI4,sI5]
     go_big_op
     refine (CTA.out _ (S5.out.1.trans (hHeld.1.mono S5.out.1.size))).mono ?_
     rintro e fD ⟨x9,rfl,hat,hb⟩
     have v11:Hid (ae fD (w19.heap.size) #[.int .i64 0,.int .i64 0,.slice none 0 0,.slice none 0 0,.slice none 0 0,.slice none 0 0] 27):=zU.out.below (hb)
     have ra11:Hid (aB fD ⟨st,it,ins,outs,ah,steps⟩ x9):=hat.row
     have rC:=hHeld.below hb
     clear hb hat
     refine hK.out _ _ rC (fun hHeld=>?_)
     clear hK K rC
     refine wpAnyH_ready (rs:=[3]) (fuel:=6) (by kernel_rfl) (by simp) ?_
     refine aC rfl (by kernel_rfl) (tf 271 11) (by kernel_rfl) (fun K hK=>?_) AllReadyH.nil
     simp only [sI3,sI4,sI5]
     go_big_op
     refine (CTB.out _ (S5.out.1.trans (hHeld.1.mono S5.out.1.size))).mono ?_
     rintro e iI ⟨Ac,rfl,hat,hb⟩
     have v12:Hid (ae iI (w19.heap.size) #[.int .i64 0,.int .i64 0,.slice none 0 0,.slice none 0 0,.slice none 0 0,.slice none 0 0] 27):=v11.out.below (hb)
     have ET:Hid (aB iI ⟨st,it,ins,outs,ah,steps⟩ x9):=ra11.out.below (hb)
     have EU:Hid (aB iI ⟨su,iu,jns,aF,aG,ax⟩ Ac):=hat.row
     have rD:=hHeld.below hb
     clear hb hat
     refine hK.out _ _ rD (fun hHeld=>?_)
     clear hK K rD
     refine wpAnyH_ready (rs:=[4]) (fuel:=5) (by kernel_rfl) (by simp) ?_
     refine aC rfl (by kernel_rfl) (tf 287 11) (by kernel_rfl) (fun K hK=>?_) AllReadyH.nil
     simp only [sI3,sI4,sI5]
     go_big_op
     refine (CJ.out _ _ _ ET.out EU.out).mono ?_
     rintro e bf ⟨jL,jM,jO,jP,jQ,jR,jS,jT,rfl,hr,hb⟩
     have v13:Hid (ae bf (w19.heap.size) #[.int .i64 0,.int .i64 0,.slice none 0 0,.slice none 0 0,.slice none 0 0,.slice none 0 0] 27):=v12.out.below (hb)
     have ra13:Hid (aB bf ⟨st,it,ins,outs,ah,steps⟩ x9):=ET.out.below (hb)
     have rb13:Hid (aB bf ⟨su,iu,jns,aF,aG,ax⟩ Ac):=EU.out.below (hb)
     have rw13:Hid (bM bf 0 ⟨tst,tit,ay,ak,au,ai⟩ (.agg #[.int .i64 tst,.int .i64 tit,.slice jL ay.length jM,.slice jO ak.length jP,.slice jQ au.length jR,.slice jS ai.length jT])):=hr.mono (Nat.zero_le _)
     have rE:=hHeld.below hb
     clear hb hr
     refine hK.out _ _ rE (fun hHeld=>?_)
     clear hK K rE
     refine aW 5 94 (.tuple #[.agg #[.int .i64 tst,.int .i64 tit,.slice jL ay.length jM,.slice jO ak.length jP,.slice jQ au.length jR,.slice jS ai.length jT],.bool q]) (.tmp 99) (fuel:=4) rfl rfl (by kernel_rfl) (fun _ _ _ h=>h) (by kernel_rfl) (by kernel_rfl) (by first|exact Or.inl rfl|exact Or.inr rfl) hHeld (tf 319 11) (by kernel_rfl) (fun K hK=>?_)
     go_big_move
     refine hK.out _ ?_
     clear hK K
     refine aZ 6 100 (.agg #[.int .i64 tst,.int .i64 tit,.slice jL ay.length jM,.slice jO ak.length jP,.slice jQ au.length jR,.slice jS ai.length jT]) (.tmp 94) (.tuple #[.agg #[.int .i64 tst,.int .i64 tit,.slice jL ay.length jM,.slice jO ak.length jP,.slice jQ au.length jR,.slice jS ai.length jT],.bool q]) (fuel:=3) rfl rfl (by kernel_rfl) (fun _ _ _ h=>h) (by kernel_rfl) (by kernel_rfl) (fun ρ hr0 _ w hSw=>by simp [go_sem,hr0]) hHeld (tf 383 11) (by kernel_rfl) (fun K hK=>?_)
     go_big_move
     refine hK.out _ ?_
     clear hK K
     refine aZ 7 101 (.bool q) (.tmp 94) (.tuple #[.agg #[.int .i64 tst,.int .i64 tit,.slice jL ay.length jM,.slice jO ak.length jP,.slice jQ au.length jR,.slice jS ai.length jT],.bool q]) (fuel:=2) rfl rfl (by kernel_rfl) (fun _ _ _ h=>h) (by kernel_rfl) (by kernel_rfl) (fun ρ hr0 _ w hSw=>by simp [go_sem,hr0]) hHeld (tf 511 11) (by kernel_rfl) (fun K hK=>?_)
     go_big_move
     refine hK.out _ ?_
     clear hK K
     have tZ:Hid (bf.there (w19.heap.size) 0 6):=v13.out.there rfl
     have gZ:=Lib.hid (aA (w19.heap.size) [.int .i64 tst,.int .i64 tit,.slice jL ay.length jM,.slice jO ak.length jP,.slice jQ au.length jR,.slice jS ai.length jT] 0 bf)
     have hSZ:Hid (pU w5 (bf.setCells (w19.heap.size) 0 [.int .i64 tst,.int .i64 tit,.slice jL ay.length jM,.slice jO ak.length jP,.slice jQ au.length jR,.slice jS ai.length jT]) w10.heap.size (w8.heap.size+1) (fU ⟨tst,tit,ay,ak,au,ai⟩) #[.int .i64 tst,.int .i64 tit,.slice ga2 ay.length gc2,.slice ga3 ak.length gc3,.slice ga4 au.length gc4,.slice ga5 ai.length gc5]):=⟨hHeld.1.grown gZ.out hHeld.1.size (fun q hq=>by have h1:=Option.some.inj hq;have h2:=BL.out;omega),hHeld.2.1.grown gZ.out (fun e=>by have h1:=Option.some.inj e;have h2:=BL.out;omega),hHeld.2.2.az v13.out gZ.out⟩
     have rZ:Hid (bM (bf.setCells (w19.heap.size) 0 [.int .i64 tst,.int .i64 tit,.slice jL ay.length jM,.slice jO ak.length jP,.slice jQ au.length jR,.slice jS ai.length jT]) 0 ⟨tst,tit,ay,ak,au,ai⟩ (.agg #[.int .i64 tst,.int .i64 tit,.slice jL ay.length jM,.slice jO ak.length jP,.slice jQ au.length jR,.slice jS ai.length jT])):=rw13.out.az v13.out gZ.out
     have vZ:Hid (ae (bf.setCells (w19.heap.size) 0 [.int .i64 tst,.int .i64 tit,.slice jL ay.length jM,.slice jO ak.length jP,.slice jQ au.length jR,.slice jS ai.length jT]) (w19.heap.size) #[.int .i64 tst,.int .i64 tit,.slice jL ay.length jM,.slice jO ak.length jP,.slice jQ au.length jR,.slice jS ai.length jT] 27):=v13.out.sets _ _ _ _ _ _
     refine wpAnyH_ready (rs:=[9]) (fuel:=1) (by kernel_rfl) (by simp) ?_
     refine aC rfl (by kernel_rfl) (tf 1023 11) (by kernel_rfl) (fun K hK=>?_) AllReadyH.nil
     refine wp_store_mid _ _ _ rfl (w19.heap.size) 0 #[.int .i64 tst,.int .i64 tit,.slice jL ay.length jM,.slice jO ak.length jP,.slice jQ au.length jR,.slice jS ai.length jT] rfl rfl tZ.out (by kernel_rfl) (di _ _ _ _ _ _ _ _ _ _ _ _ _ _) ?_
     refine hK.out _ _ hSZ.out (fun hHeld=>?_)
     clear hK K
     try simp only [sI3,sI4,sI5,Act.put]
     refine aW 10 16 (.bool q) (.tmp 101) (fuel:=0) rfl rfl (by kernel_rfl) (fun _ _ _ h=>h) (by kernel_rfl) (by kernel_rfl) (by first|exact Or.inl rfl|exact Or.inr rfl) hHeld (tf 2047 11) (by kernel_rfl) (fun K hK=>?_)
     go_big_move
     refine hK.out _ ?_
     clear hK K
     refine wpAnyH_done (by kernel_rfl) ?_ _
     exact REST.out (w19.heap.size,x9,Ac,(jL,jM),(jO,jP),(jQ,jR),(jS,jT)) _ _ (by kernel_rfl) ⟨hSZ.out,vZ.out,rZ.out,BL.out⟩
   ·refine wpAnyH_ready (rs:=[1,8]) (fuel:=8) (by kernel_rfl) (by simp) ?_
    refine aC rfl (by kernel_rfl) (tf 7 11) (by kernel_rfl) (fun K hK=>?_) ?_
    ·simp only [sI3,sI4,sI5]
     go_big_op
     refine (CTA.out _ hHeld.1).mono ?_
     rintro e wp1 ⟨va1,rfl,hat,hb⟩
     have ra1:Hid (aB wp1 ⟨st,it,ins,outs,ah,steps⟩ va1):=hat.row
     have hS1:=hHeld.below hb
     clear hb hat
     refine hK.out _ _ hS1 (fun hHeld=>?_)
     clear hK K hS1
     refine wpAnyH_ready (rs:=[3,8]) (fuel:=7) (by kernel_rfl) (by simp) ?_
     refine aC rfl (by kernel_rfl) (tf 15 11) (by kernel_rfl) (fun K hK=>?_) ?_
     ·simp only [sI3,sI4,sI5]
      go_big_op
      refine (CTB.out _ hHeld.1).mono ?_
      rintro e wp2 ⟨vb2,rfl,hat,hb⟩
      have ra2:Hid (aB wp2 ⟨st,it,ins,outs,ah,steps⟩ va1):=ra1.out.below (hb)
      have rb2:Hid (aB wp2 ⟨su,iu,jns,aF,aG,ax⟩ vb2):=hat.row
      have hS2:=hHeld.below hb
      clear hb hat
      refine hK.out _ _ hS2 (fun hHeld=>?_)
      clear hK K hS2
      refine wpAnyH_ready (rs:=[4,8]) (fuel:=6) (by kernel_rfl) (by simp) ?_
      refine aC rfl (by kernel_rfl) (tf 31 11) (by kernel_rfl) (fun K hK=>?_) ?_
      ·simp only [sI3,sI4,sI5]
       go_big_op
       refine (CP.out _ _ _ ra2.out rb2.out).mono ?_
       rintro e wp3 ⟨lI,lJ,lK,lL,lM,lN,lQ,lS,rfl,hr,hb⟩
       have ra3:Hid (aB wp3 ⟨st,it,ins,outs,ah,steps⟩ va1):=ra2.out.below (hb)
       have rb3:Hid (aB wp3 ⟨su,iu,jns,aF,aG,ax⟩ vb2):=rb2.out.below (hb)
       have rw3:Hid (aB wp3 ⟨tst,tit,ay,ak,au,ai⟩ (.agg #[.int .i64 tst,.int .i64 tit,.slice lI ay.length lJ,.slice lK ak.length lL,.slice lM au.length lN,.slice lQ ai.length lS])):=hr.rowF
       have hS3:=hHeld.below hb
       clear hb hr
       refine hK.out _ _ hS3 (fun hHeld=>?_)
       clear hK K hS3
       refine aW 5 27 (.tuple #[.agg #[.int .i64 tst,.int .i64 tit,.slice lI ay.length lJ,.slice lK ak.length lL,.slice lM au.length lN,.slice lQ ai.length lS],.bool q]) (.tmp 32) (fuel:=5) rfl rfl (by kernel_rfl) (fun _ _ _ h=>h) (by kernel_rfl) (by kernel_rfl) (by first|exact Or.inl rfl|exact Or.inr rfl) hHeld (tf 63 11) (by kernel_rfl) (fun K hK=>?_)
       go_big_move
       refine hK.out _ ?_
       clear hK K
       refine aZ 6 33 (.agg #[.int .i64 tst,.int .i64 tit,.slice lI ay.length lJ,.slice lK ak.length lL,.slice lM au.length lN,.slice lQ ai.length lS]) (.tmp 27) (.tuple #[.agg #[.int .i64 tst,.int .i64 tit,.slice lI ay.length lJ,.slice lK ak.length lL,.slice lM au.length lN,.slice lQ ai.length lS],.bool q]) (fuel:=4) rfl rfl (by kernel_rfl) (fun _ _ _ h=>h) (by kernel_rfl) (by kernel_rfl) (fun ρ hr0 _ w hSw=>by simp [go_sem,hr0]) hHeld (tf 127 11) (by kernel_rfl) (fun K hK=>?_)
       go_big_move
       refine hK.out _ ?_
       clear hK K
       refine aZ 7 34 (.bool q) (.tmp 27) (.tuple #[.agg #[.int .i64 tst,.int .i64 tit,.slice lI ay.length lJ,.slice lK ak.length lL,.slice lM au.length lN,.slice lQ ai.length lS],.bool q]) (fuel:=3) rfl rfl (by kernel_rfl) (fun _ _ _ h=>h) (by kernel_rfl) (by kernel_rfl) (fun ρ hr0 _ w hSw=>by simp [go_sem,hr0]) hHeld (tf 255 11) (by kernel_rfl) (fun K hK=>?_)
       go_big_move
       refine hK.out _ ?_
       clear hK K
       refine wpAnyH_ready (rs:=[8]) (fuel:=2) (by kernel_rfl) (by simp) ?_
       refine aC rfl (by kernel_rfl) (tf 511 11) (by kernel_rfl) (fun K hK=>?_) AllReadyH.nil
       have ra4:Hid (aB (wp3.alloc (.cells #[.int .i64 0,.int .i64 0,.slice none 0 0,.slice none 0 0,.slice none 0 0,.slice none 0 0] 27)) ⟨st,it,ins,outs,ah,steps⟩ va1):=ra3.out.below ((Below.refl _ wp3).alloc (Nat.le_refl _) (.cells #[.int .i64 0,.int .i64 0,.slice none 0 0,.slice none 0 0,.slice none 0 0,.slice none 0 0] 27))
       have rb4:Hid (aB (wp3.alloc (.cells #[.int .i64 0,.int .i64 0,.slice none 0 0,.slice none 0 0,.slice none 0 0,.slice none 0 0] 27)) ⟨su,iu,jns,aF,aG,ax⟩ vb2):=rb3.out.below ((Below.refl _ wp3).alloc (Nat.le_refl _) (.cells #[.int .i64 0,.int .i64 0,.slice none 0 0,.slice none 0 0,.slice none 0 0,.slice none 0 0] 27))
       have rw4:Hid (aB (wp3.alloc (.cells #[.int .i64 0,.int .i64 0,.slice none 0 0,.slice none 0 0,.slice none 0 0,.slice none 0 0] 27)) ⟨tst,tit,ay,ak,au,ai⟩ (.agg #[.int .i64 tst,.int .i64 tit,.slice lI ay.length lJ,.slice lK ak.length lL,.slice lM au.length lN,.slice lQ ai.length lS])):=rw3.out.below ((Below.refl _ wp3).alloc (Nat.le_refl _) (.cells #[.int .i64 0,.int .i64 0,.slice none 0 0,.slice none 0 0,.slice none 0 0,.slice none 0 0] 27))
       have BL:Hid (w.heap.size+1<wp3.heap.size):=by
        have h1:=hHeld.2.2.lt
        (try simp at h1)
        unfold Hid
        (try simp)
        omega
       have NB:=Lib.hid (rw3.out.KN (b:=wp3.heap.size) (by simp))
       have vn4:Hid (ae (wp3.alloc (.cells #[.int .i64 0,.int .i64 0,.slice none 0 0,.slice none 0 0,.slice none 0 0,.slice none 0 0] 27)) (wp3.heap.size) #[.int .i64 0,.int .i64 0,.slice none 0 0,.slice none 0 0,.slice none 0 0,.slice none 0 0] 27):=ae.new wp3 #[.int .i64 0,.int .i64 0,.slice none 0 0,.slice none 0 0,.slice none 0 0,.slice none 0 0] 27 (by simp)
       simp only [sI3,sI4,sI5]
       go_big_op
       refine hK.out _ _ (hHeld.below ((Below.refl _ wp3).alloc (Nat.le_refl _) (.cells #[.int .i64 0,.int .i64 0,.slice none 0 0,.slice none 0 0,.slice none 0 0,.slice none 0 0] 27))) (fun hHeld=>?_)
       clear hK K
       have tZ:Hid ((wp3.alloc (.cells #[.int .i64 0,.int .i64 0,.slice none 0 0,.slice none 0 0,.slice none 0 0,.slice none 0 0] 27)).there (wp3.heap.size) 0 6):=vn4.out.there rfl
       have gZ:=Lib.hid (aA (wp3.heap.size) [.int .i64 tst,.int .i64 tit,.slice lI ay.length lJ,.slice lK ak.length lL,.slice lM au.length lN,.slice lQ ai.length lS] 0 (wp3.alloc (.cells #[.int .i64 0,.int .i64 0,.slice none 0 0,.slice none 0 0,.slice none 0 0,.slice none 0 0] 27)))
       have hSZ:Hid (aI w ((wp3.alloc (.cells #[.int .i64 0,.int .i64 0,.slice none 0 0,.slice none 0 0,.slice none 0 0,.slice none 0 0] 27)).setCells (wp3.heap.size) 0 [.int .i64 tst,.int .i64 tit,.slice lI ay.length lJ,.slice lK ak.length lL,.slice lM au.length lN,.slice lQ ai.length lS]) w.heap.size (w.heap.size+1) 41 (iaC st it a2 n2 c2 a3 n3 c3 a4 n4 c4 a5 n5 c5) (iaC su iu b2 m2 d2 b3 m3 d3 b4 m4 d4 b5 m5 d5)):=⟨hHeld.1.grown gZ.out hHeld.1.size (fun q hq=>by have h1:=Option.some.inj hq;have h2:=BL.out;omega),hHeld.2.1.grown gZ.out (fun e=>by have h1:=Option.some.inj e;have h2:=BL.out;omega),hHeld.2.2.grown gZ.out (fun e=>by have h1:=Option.some.inj e;have h2:=BL.out;omega)⟩
       have rZ:Hid (aB ((wp3.alloc (.cells #[.int .i64 0,.int .i64 0,.slice none 0 0,.slice none 0 0,.slice none 0 0,.slice none 0 0] 27)).setCells (wp3.heap.size) 0 [.int .i64 tst,.int .i64 tit,.slice lI ay.length lJ,.slice lK ak.length lL,.slice lM au.length lN,.slice lQ ai.length lS]) ⟨tst,tit,ay,ak,au,ai⟩ (.agg #[.int .i64 tst,.int .i64 tit,.slice lI ay.length lJ,.slice lK ak.length lL,.slice lM au.length lN,.slice lQ ai.length lS])):=rw4.out.Bh NB.out gZ.out
       have vZ:Hid (ae ((wp3.alloc (.cells #[.int .i64 0,.int .i64 0,.slice none 0 0,.slice none 0 0,.slice none 0 0,.slice none 0 0] 27)).setCells (wp3.heap.size) 0 [.int .i64 tst,.int .i64 tit,.slice lI ay.length lJ,.slice lK ak.length lL,.slice lM au.length lN,.slice lQ ai.length lS]) (wp3.heap.size) #[.int .i64 tst,.int .i64 tit,.slice lI ay.length lJ,.slice lK ak.length lL,.slice lM au.length lN,.slice lQ ai.length lS] 27):=vn4.out.sets _ _ _ _ _ _
       refine wpAnyH_ready (rs:=[9]) (fuel:=1) (by kernel_rfl) (by simp) ?_
       refine aC rfl (by kernel_rfl) (tf 1023 11) (by kernel_rfl) (fun K hK=>?_) AllReadyH.nil
       refine wp_store_mid _ _ _ rfl (wp3.heap.size) 0 #[.int .i64 tst,.int .i64 tit,.slice lI ay.length lJ,.slice lK ak.length lL,.slice lM au.length lN,.slice lQ ai.length lS] rfl rfl tZ.out (by kernel_rfl) (di _ _ _ _ _ _ _ _ _ _ _ _ _ _) ?_
       refine hK.out _ _ hSZ.out (fun hHeld=>?_)
       clear hK K
       try simp only [sI3,sI4,sI5,Act.put]
       refine aW 10 7 (.bool q) (.tmp 34) (fuel:=0) rfl rfl (by kernel_rfl) (fun _ _ _ h=>h) (by kernel_rfl) (by kernel_rfl) (by first|exact Or.inl rfl|exact Or.inr rfl) hHeld (tf 2047 11) (by kernel_rfl) (fun K hK=>?_)
       go_big_move
       refine hK.out _ ?_
       clear hK K
       refine wpAnyH_done (by kernel_rfl) ?_ _
       exact REST.out (wp3.heap.size,va1,vb2,(lI,lJ),(lK,lL),(lM,lN),(lQ,lS)) _ _ (by kernel_rfl) ⟨hSZ.out,vZ.out,rZ.out,BL.out⟩
      refine aC rfl (by kernel_rfl) (tf 271 11) (by kernel_rfl) (fun K hK=>?_) AllReadyH.nil
      have ra5:Hid (aB (wp2.alloc (.cells #[.int .i64 0,.int .i64 0,.slice none 0 0,.slice none 0 0,.slice none 0 0,.slice none 0 0] 27)) ⟨st,it,ins,outs,ah,steps⟩ va1):=ra2.out.below ((Below.refl _ wp2).alloc (Nat.le_refl _) (.cells #[.int .i64 0,.int .i64 0,.slice none 0 0,.slice none 0 0,.slice none 0 0,.slice none 0 0] 27))
      have rb5:Hid (aB (wp2.alloc (.cells #[.int .i64 0,.int .i64 0,.slice none 0 0,.slice none 0 0,.slice none 0 0,.slice none 0 0] 27)) ⟨su,iu,jns,aF,aG,ax⟩ vb2):=rb2.out.below ((Below.refl _ wp2).alloc (Nat.le_refl _) (.cells #[.int .i64 0,.int .i64 0,.slice none 0 0,.slice none 0 0,.slice none 0 0,.slice none 0 0] 27))
      have BL:Hid (w.heap.size+1<wp2.heap.size):=by
       have h1:=hHeld.2.2.lt
       (try simp at h1)
       unfold Hid
       (try simp)
       omega
      have vn5:Hid (ae (wp2.alloc (.cells #[.int .i64 0,.int .i64 0,.slice none 0 0,.slice none 0 0,.slice none 0 0,.slice none 0 0] 27)) (wp2.heap.size) #[.int .i64 0,.int .i64 0,.slice none 0 0,.slice none 0 0,.slice none 0 0,.slice none 0 0] 27):=ae.new wp2 #[.int .i64 0,.int .i64 0,.slice none 0 0,.slice none 0 0,.slice none 0 0,.slice none 0 0] 27 (by simp)
      simp only [sI3,sI4,sI5]
      go_big_op
      refine hK.out _ _ (hHeld.below ((Below.refl _ wp2).alloc (Nat.le_refl _) (.cells #[.int .i64 0,.int .i64 0,.slice none 0 0,.slice none 0 0,.slice none 0 0,.slice none 0 0] 27))) (fun hHeld=>?_)
      clear hK K
      refine wpAnyH_ready (rs:=[4]) (fuel:=5) (by kernel_rfl) (by simp) ?_
      refine aC rfl (by kernel_rfl) (tf 287 11) (by kernel_rfl) (fun K hK=>?_) AllReadyH.nil
      simp only [sI3,sI4,sI5]
      go_big_op
      refine (CP.out _ _ _ ra5.out rb5.out).mono ?_
      rintro e wp6 ⟨lT,lU,lV,lW,lX,lY,lZ,mf,rfl,hr,hb⟩
      have ra6:Hid (aB wp6 ⟨st,it,ins,outs,ah,steps⟩ va1):=ra5.out.below (hb)
      have rb6:Hid (aB wp6 ⟨su,iu,jns,aF,aG,ax⟩ vb2):=rb5.out.below (hb)
      have v6:Hid (ae wp6 (wp2.heap.size) #[.int .i64 0,.int .i64 0,.slice none 0 0,.slice none 0 0,.slice none 0 0,.slice none 0 0] 27):=vn5.out.below (hb)
      have rw6:Hid (aB wp6 ⟨tst,tit,ay,ak,au,ai⟩ (.agg #[.int .i64 tst,.int .i64 tit,.slice lT ay.length lU,.slice lV ak.length lW,.slice lX au.length lY,.slice lZ ai.length mf])):=hr.rowF
      have nb6:Hid (wB (wp2.heap.size) (.agg #[.int .i64 tst,.int .i64 tit,.slice lT ay.length lU,.slice lV ak.length lW,.slice lX au.length lY,.slice lZ ai.length mf])):=hr.Iw (by have h1:=vn5.out.lt;(try simp at h1);first|omega|(simp <;> omega))
      have hS6:=hHeld.below hb
      clear hb hr
      refine hK.out _ _ hS6 (fun hHeld=>?_)
      clear hK K hS6
      refine aW 5 27 (.tuple #[.agg #[.int .i64 tst,.int .i64 tit,.slice lT ay.length lU,.slice lV ak.length lW,.slice lX au.length lY,.slice lZ ai.length mf],.bool q]) (.tmp 32) (fuel:=4) rfl rfl (by kernel_rfl) (fun _ _ _ h=>h) (by kernel_rfl) (by kernel_rfl) (by first|exact Or.inl rfl|exact Or.inr rfl) hHeld (tf 319 11) (by kernel_rfl) (fun K hK=>?_)
      go_big_move
      refine hK.out _ ?_
      clear hK K
      refine aZ 6 33 (.agg #[.int .i64 tst,.int .i64 tit,.slice lT ay.length lU,.slice lV ak.length lW,.slice lX au.length lY,.slice lZ ai.length mf]) (.tmp 27) (.tuple #[.agg #[.int .i64 tst,.int .i64 tit,.slice lT ay.length lU,.slice lV ak.length lW,.slice lX au.length lY,.slice lZ ai.length mf],.bool q]) (fuel:=3) rfl rfl (by kernel_rfl) (fun _ _ _ h=>h) (by kernel_rfl) (by kernel_rfl) (fun ρ hr0 _ w hSw=>by simp [go_sem,hr0]) hHeld (tf 383 11) (by kernel_rfl) (fun K hK=>?_)
      go_big_move
      refine hK.out _ ?_
      clear hK K
      refine aZ 7 34 (.bool q) (.tmp 27) (.tuple #[.agg #[.int .i64 tst,.int .i64 tit,.slice lT ay.length lU,.slice lV ak.length lW,.slice lX au.length lY,.slice lZ ai.length mf],.bool q]) (fuel:=2) rfl rfl (by kernel_rfl) (fun _ _ _ h=>h) (by kernel_rfl) (by kernel_rfl) (fun ρ hr0 _ w hSw=>by simp [go_sem,hr0]) hHeld (tf 511 11) (by kernel_rfl) (fun K hK=>?_)
      go_big_move
      refine hK.out _ ?_
      clear hK K
      have tZ:Hid (wp6.there (wp2.heap.size) 0 6):=v6.out.there rfl
      have gZ:=Lib.hid (aA (wp2.heap.size) [.int .i64 tst,.int .i64 tit,.slice lT ay.length lU,.slice lV ak.length lW,.slice lX au.length lY,.slice lZ ai.length mf] 0 wp6)
      have hSZ:Hid (aI w (wp6.setCells (wp2.heap.size) 0 [.int .i64 tst,.int .i64 tit,.slice lT ay.length lU,.slice lV ak.length lW,.slice lX au.length lY,.slice lZ ai.length mf]) w.heap.size (w.heap.size+1) 41 (iaC st it a2 n2 c2 a3 n3 c3 a4 n4 c4 a5 n5 c5) (iaC su iu b2 m2 d2 b3 m3 d3 b4 m4 d4 b5 m5 d5)):=⟨hHeld.1.grown gZ.out hHeld.1.size (fun q hq=>by have h1:=Option.some.inj hq;have h2:=BL.out;omega),hHeld.2.1.grown gZ.out (fun e=>by have h1:=Option.some.inj e;have h2:=BL.out;omega),hHeld.2.2.grown gZ.out (fun e=>by have h1:=Option.some.inj e;have h2:=BL.out;omega)⟩
      have rZ:Hid (aB (wp6.setCells (wp2.heap.size) 0 [.int .i64 tst,.int .i64 tit,.slice lT ay.length lU,.slice lV ak.length lW,.slice lX au.length lY,.slice lZ ai.length mf]) ⟨tst,tit,ay,ak,au,ai⟩ (.agg #[.int .i64 tst,.int .i64 tit,.slice lT ay.length lU,.slice lV ak.length lW,.slice lX au.length lY,.slice lZ ai.length mf])):=rw6.out.Bh nb6.out gZ.out
      have vZ:Hid (ae (wp6.setCells (wp2.heap.size) 0 [.int .i64 tst,.int .i64 tit,.slice lT ay.length lU,.slice lV ak.length lW,.slice lX au.length lY,.slice lZ ai.length mf]) (wp2.heap.size) #[.int .i64 tst,.int .i64 tit,.slice lT ay.length lU,.slice lV ak.length lW,.slice lX au.length lY,.slice lZ ai.length mf] 27):=v6.out.sets _ _ _ _ _ _
      refine wpAnyH_ready (rs:=[9]) (fuel:=1) (by kernel_rfl) (by simp) ?_
      refine aC rfl (by kernel_rfl) (tf 1023 11) (by kernel_rfl) (fun K hK=>?_) AllReadyH.nil
      refine wp_store_mid _ _ _ rfl (wp2.heap.size) 0 #[.int .i64 tst,.int .i64 tit,.slice lT ay.length lU,.slice lV ak.length lW,.slice lX au.length lY,.slice lZ ai.length mf] rfl rfl tZ.out (by kernel_rfl) (di _ _ _ _ _ _ _ _ _ _ _ _ _ _) ?_
      refine hK.out _ _ hSZ.out (fun hHeld=>?_)
      clear hK K
      try simp only [sI3,sI4,sI5,Act.put]
      refine aW 10 7 (.bool q) (.tmp 34) (fuel:=0) rfl rfl (by kernel_rfl) (fun _ _ _ h=>h) (by kernel_rfl) (by kernel_rfl) (by first|exact Or.inl rfl|exact Or.inr rfl) hHeld (tf 2047 11) (by kernel_rfl) (fun K hK=>?_)
      go_big_move
      refine hK.out _ ?_
      clear hK K
      refine wpAnyH_done (by kernel_rfl) ?_ _
      exact REST.out (wp2.heap.size,va1,vb2,(lT,lU),(lV,lW),(lX,lY),(lZ,mf)) _ _ (by kernel_rfl) ⟨hSZ.out,vZ.out,rZ.out,BL.out⟩
     refine aC rfl (by kernel_rfl) (tf 263 11) (by kernel_rfl) (fun K hK=>?_) AllReadyH.nil
     have ra7:Hid (aB (wp1.alloc (.cells #[.int .i64 0,.int .i64 0,.slice none 0 0,.slice none 0 0,.slice none 0 0,.slice none 0 0] 27)) ⟨st,it,ins,outs,ah,steps⟩ va1):=ra1.out.below ((Below.refl _ wp1).alloc (Nat.le_refl _) (.cells #[.int .i64 0,.int .i64 0,.slice none 0 0,.slice none 0 0,.slice none 0 0,.slice none 0 0] 27))
     have BL:Hid (w.heap.size+1<wp1.heap.size):=by
      have h1:=hHeld.2.2.lt
      (try simp at h1)
      unfold Hid
      (try simp)
      omega
     have vn7:Hid (ae (wp1.alloc (.cells #[.int .i64 0,.int .i64 0,.slice none 0 0,.slice none 0 0,.slice none 0 0,.slice none 0 0] 27)) (wp1.heap.size) #[.int .i64 0,.int .i64 0,.slice none 0 0,.slice none 0 0,.slice none 0 0,.slice none 0 0] 27):=ae.new wp1 #[.int .i64 0,.int .i64 0,.slice none 0 0,.slice none 0 0,.slice none 0 0,.slice none 0 0] 27 (by simp)
     simp only [sI3,sI4,sI5]
     go_big_op
     refine hK.out _ _ (hHeld.below ((Below.refl _ wp1).alloc (Nat.le_refl _) (.cells #[.int .i64 0,.int .i64 0,.slice none 0 0,.slice none 0 0,.slice none 0 0,.slice none 0 0] 27))) (fun hHeld=>?_)
     clear hK K
     refine wpAnyH_ready (rs:=[3]) (fuel:=6) (by kernel_rfl) (by simp) ?_
     refine aC rfl (by kernel_rfl) (tf 271 11) (by kernel_rfl) (fun K hK=>?_) AllReadyH.nil
     simp only [sI3,sI4,sI5]
     go_big_op
     refine (CTB.out _ hHeld.1).mono ?_
     rintro e wp8 ⟨vb8,rfl,hat,hb⟩
     have ra8:Hid (aB wp8 ⟨st,it,ins,outs,ah,steps⟩ va1):=ra7.out.below (hb)
     have v8:Hid (ae wp8 (wp1.heap.size) #[.int .i64 0,.int .i64 0,.slice none 0 0,.slice none 0 0,.slice none 0 0,.slice none 0 0] 27):=vn7.out.below (hb)
     have rb8:Hid (aB wp8 ⟨su,iu,jns,aF,aG,ax⟩ vb8):=hat.row
     have hS8:=hHeld.below hb
     clear hb hat
     refine hK.out _ _ hS8 (fun hHeld=>?_)
     clear hK K hS8
     refine wpAnyH_ready (rs:=[4]) (fuel:=5) (by kernel_rfl) (by simp) ?_
     refine aC rfl (by kernel_rfl) (tf 287 11) (by kernel_rfl) (fun K hK=>?_) AllReadyH.nil
     simp only [sI3,sI4,sI5]
     go_big_op
     refine (CP.out _ _ _ ra8.out rb8.out).mono ?_
     rintro e wp9 ⟨mg,mr,mD,mF,mG,mJ,mM,mO,rfl,hr,hb⟩
     have ra9:Hid (aB wp9 ⟨st,it,ins,outs,ah,steps⟩ va1):=ra8.out.below (hb)
     have v9:Hid (ae wp9 (wp1.heap.size) #[.int .i64 0,.int .i64 0,.slice none 0 0,.slice none 0 0,.slice none 0 0,.slice none 0 0] 27):=v8.out.below (hb)
     have rb9:Hid (aB wp9 ⟨su,iu,jns,aF,aG,ax⟩ vb8):=rb8.out.below (hb)
     have rw9:Hid (aB wp9 ⟨tst,tit,ay,ak,au,ai⟩ (.agg #[.int .i64 tst,.int .i64 tit,.slice mg ay.length mr,.slice mD ak.length mF,.slice mG au.length mJ,.slice mM ai.length mO])):=hr.rowF
     have nb9:Hid (wB (wp1.heap.size) (.agg #[.int .i64 tst,.int .i64 tit,.slice mg ay.length mr,.slice mD ak.length mF,.slice mG au.length mJ,.slice mM ai.length mO])):=hr.Iw (by have h1:=v8.out.lt;(try simp at h1);first|omega|(simp <;> omega))
     have hS9:=hHeld.below hb
     clear hb hr
     refine hK.out _ _ hS9 (fun hHeld=>?_)
     clear hK K hS9
     refine aW 5 27 (.tuple #[.agg #[.int .i64 tst,.int .i64 tit,.slice mg ay.length mr,.slice mD ak.length mF,.slice mG au.length mJ,.slice mM ai.length mO],.bool q]) (.tmp 32) (fuel:=4) rfl rfl (by kernel_rfl) (fun _ _ _ h=>h) (by kernel_rfl) (by kernel_rfl) (by first|exact Or.inl rfl|exact Or.inr rfl) hHeld (tf 319 11) (by kernel_rfl) (fun K hK=>?_)
     go_big_move
     refine hK.out _ ?_
     clear hK K
     refine aZ 6 33 (.agg #[.int .i64 tst,.int .i64 tit,.slice mg ay.length mr,.slice mD ak.length mF,.slice mG au.length mJ,.slice mM ai.length mO]) (.tmp 27) (.tuple #[.agg #[.int .i64 tst,.int .i64 tit,.slice mg ay.length mr,.slice mD ak.length mF,.slice mG au.length mJ,.slice mM ai.length mO],.bool q]) (fuel:=3) rfl rfl (by kernel_rfl) (fun _ _ _ h=>h) (by kernel_rfl) (by kernel_rfl) (fun ρ hr0 _ w hSw=>by simp [go_sem,hr0]) hHeld (tf 383 11) (by kernel_rfl) (fun K hK=>?_)
     go_big_move
     refine hK.out _ ?_
     clear hK K
     refine aZ 7 34 (.bool q) (.tmp 27) (.tuple #[.agg #[.int .i64 tst,.int .i64 tit,.slice mg ay.length mr,.slice mD ak.length mF,.slice mG au.length mJ,.slice mM ai.length mO],.bool q]) (fuel:=2) rfl rfl (by kernel_rfl) (fun _ _ _ h=>h) (by kernel_rfl) (by kernel_rfl) (fun ρ hr0 _ w hSw=>by simp [go_sem,hr0]) hHeld (tf 511 11) (by kernel_rfl) (fun K hK=>?_)
     go_big_move
     refine hK.out _ ?_
     clear hK K
     have tZ:Hid (wp9.there (wp1.heap.size) 0 6):=v9.out.there rfl
     have gZ:=Lib.hid (aA (wp1.heap.size) [.int .i64 tst,.int .i64 tit,.slice mg ay.length mr,.slice mD ak.length mF,.slice mG au.length mJ,.slice mM ai.length mO] 0 wp9)
     have hSZ:Hid (aI w (wp9.setCells (wp1.heap.size) 0 [.int .i64 tst,.int .i64 tit,.slice mg ay.length mr,.slice mD ak.length mF,.slice mG au.length mJ,.slice mM ai.length mO]) w.heap.size (w.heap.size+1) 41 (iaC st it a2 n2 c2 a3 n3 c3 a4 n4 c4 a5 n5 c5) (iaC su iu b2 m2 d2 b3 m3 d3 b4 m4 d4 b5 m5 d5)):=⟨hHeld.1.grown gZ.out hHeld.1.size (fun q hq=>by have h1:=Option.some.inj hq;have h2:=BL.out;omega),hHeld.2.1.grown gZ.out (fun e=>by have h1:=Option.some.inj e;have h2:=BL.out;omega),hHeld.2.2.grown gZ.out (fun e=>by have h1:=Option.some.inj e;have h2:=BL.out;omega)⟩
     have rZ:Hid (aB (wp9.setCells (wp1.heap.size) 0 [.int .i64 tst,.int .i64 tit,.slice mg ay.length mr,.slice mD ak.length mF,.slice mG au.length mJ,.slice mM ai.length mO]) ⟨tst,tit,ay,ak,au,ai⟩ (.agg #[.int .i64 tst,.int .i64 tit,.slice mg ay.length mr,.slice mD ak.length mF,.slice mG au.length mJ,.slice mM ai.length mO])):=rw9.out.Bh nb9.out gZ.out
     have vZ:Hid (ae (wp9.setCells (wp1.heap.size) 0 [.int .i64 tst,.int .i64 tit,.slice mg ay.length mr,.slice mD ak.length mF,.slice mG au.length mJ,.slice mM ai.length mO]) (wp1.heap.size) #[.int .i64 tst,.int .i64 tit,.slice mg ay.length mr,.slice mD ak.length mF,.slice mG au.length mJ,.slice mM ai.length mO] 27):=v9.out.sets _ _ _ _ _ _
     refine wpAnyH_ready (rs:=[9]) (fuel:=1) (by kernel_rfl) (by simp) ?_
     refine aC rfl (by kernel_rfl) (tf 1023 11) (by kernel_rfl) (fun K hK=>?_) AllReadyH.nil
     refine wp_store_mid _ _ _ rfl (wp1.heap.size) 0 #[.int .i64 tst,.int .i64 tit,.slice mg ay.length mr,.slice mD ak.length mF,.slice mG au.length mJ,.slice mM ai.length mO] rfl rfl tZ.out (by kernel_rfl) (di _ _ _ _ _ _ _ _ _ _ _ _ _ _) ?_
     refine hK.out _ _ hSZ.out (fun hHeld=>?_)
     clear hK K
     try simp only [sI3,sI4,sI5,Act.put]
     refine aW 10 7 (.bool q) (.tmp 34) (fuel:=0) rfl rfl (by kernel_rfl) (fun _ _ _ h=>h) (by kernel_rfl) (by kernel_rfl) (by first|exact Or.inl rfl|exact Or.inr rfl) hHeld (tf 2047 11) (by kernel_rfl) (fun K hK=>?_)
     go_big_move
     refine hK.out _ ?_
     clear hK K
     refine wpAnyH_done (by kernel_rfl) ?_ _
     exact REST.out (wp1.heap.size,va1,vb8,(mg,mr),(mD,mF),(mG,mJ),(mM,mO)) _ _ (by kernel_rfl) ⟨hSZ.out,vZ.out,rZ.out,BL.out⟩
    refine aC rfl (by kernel_rfl) (tf 261 11) (by kernel_rfl) (fun K hK=>?_) AllReadyH.nil
    have BL:Hid (w.heap.size+1<w2.heap.size):=by
     have h1:=hHeld.2.2.lt
     (try simp at h1)
     unfold Hid
     (try simp)
     omega
    have zU:Hid (ae (w2.drew.alloc (.cells #[.int .i64 0,.int .i64 0,.slice none 0 0,.slice none 0 0,.slice none 0 0,.slice none 0 0] 27)) (w2.heap.size) #[.int .i64 0,.int .i64 0,.slice none 0 0,.slice none 0 0,.slice none 0 0,.slice none 0 0] 27):=ae.new w2.drew #[.int .i64 0,.int .i64 0,.slice none 0 0,.slice none 0 0,.slice none 0 0,.slice none 0 0] 27 (by simp)
    simp only [sI3,sI4,sI5]
    go_big_op
    refine hK.out _ _ (hHeld.below ((Below.refl _ w2.drew).alloc (Nat.le_refl _) (.cells #[.int .i64 0,.int .i64 0,.slice none 0 0,.slice none 0 0,.slice none 0 0,.slice none 0 0] 27))) (fun hHeld=>?_)
    clear hK K
    refine wpAnyH_ready (rs:=[1]) (fuel:=7) (by kernel_rfl) (by simp) ?_
    refine aC rfl (by kernel_rfl) (tf 263 11) (by kernel_rfl) (fun K hK=>?_) AllReadyH.nil
    simp only [sI3,sI4,sI5]
    go_big_op
    refine (CTA.out _ hHeld.1).mono ?_
    rintro e fD ⟨x9,rfl,hat,hb⟩
    have v11:Hid (ae fD (w2.heap.size) #[.int .i64 0,.int .i64 0,.slice none 0 0,.slice none 0 0,.slice none 0 0,.slice none 0 0] 27):=zU.out.below (hb)
    have ra11:Hid (aB fD ⟨st,it,ins,outs,ah,steps⟩ x9):=hat.row
    have rC:=hHeld.below hb
    clear hb hat
    refine hK.out _ _ rC (fun hHeld=>?_)
    clear hK K rC
    refine wpAnyH_ready (rs:=[3]) (fuel:=6) (by kernel_rfl) (by simp) ?_
    refine aC rfl (by kernel_rfl) (tf 271 11) (by kernel_rfl) (fun K hK=>?_) AllReadyH.nil
    simp only [sI3,sI4,sI5]
    go_big_op
    refine (CTB.out _ hHeld.1).mono ?_
    rintro e iI ⟨Ac,rfl,hat,hb⟩
    have v12:Hid (ae iI (w2.heap.size) #[.int .i64 0,.int .i64 0,.slice none 0 0,.slice none 0 0,.slice none 0 0,.slice none 0 0] 27):=v11.out.below (hb)
    have ET:Hid (aB iI ⟨st,it,ins,outs,ah,steps⟩ x9):=ra11.out.below (hb)
    have EU:Hid (aB iI ⟨su,iu,jns,aF,aG,ax⟩ Ac):=hat.row
    have rD:=hHeld.below hb
    clear hb hat
    refine hK.out _ _ rD (fun hHeld=>?_)
    clear hK K rD
    refine wpAnyH_ready (rs:=[4]) (fuel:=5) (by kernel_rfl) (by simp) ?_
    refine aC rfl (by kernel_rfl) (tf 287 11) (by kernel_rfl) (fun K hK=>?_) AllReadyH.nil
    simp only [sI3,sI4,sI5]
    go_big_op
    refine (CP.out _ _ _ ET.out EU.out).mono ?_
    rintro e bf ⟨jl,jm,jo,jq,jr,jw,jy,jA,rfl,hr,hb⟩
    have v13:Hid (ae bf (w2.heap.size) #[.int .i64 0,.int .i64 0,.slice none 0 0,.slice none 0 0,.slice none 0 0,.slice none 0 0] 27):=v12.out.below (hb)
    have ra13:Hid (aB bf ⟨st,it,ins,outs,ah,steps⟩ x9):=ET.out.below (hb)
    have rb13:Hid (aB bf ⟨su,iu,jns,aF,aG,ax⟩ Ac):=EU.out.below (hb)
    have rw13:Hid (aB bf ⟨tst,tit,ay,ak,au,ai⟩ (.agg #[.int .i64 tst,.int .i64 tit,.slice jl ay.length jm,.slice jo ak.length jq,.slice jr au.length jw,.slice jy ai.length jA])):=hr.rowF
    have nb13:Hid (wB (w2.heap.size) (.agg #[.int .i64 tst,.int .i64 tit,.slice jl ay.length jm,.slice jo ak.length jq,.slice jr au.length jw,.slice jy ai.length jA])):=hr.Iw (by have h1:=v12.out.lt;(try simp at h1);first|omega|(simp <;> omega))
    have rE:=hHeld.below hb
    clear hb hr
    refine hK.out _ _ rE (fun hHeld=>?_)
    clear hK K rE
    refine aW 5 27 (.tuple #[.agg #[.int .i64 tst,.int .i64 tit,.slice jl ay.length jm,.slice jo ak.length jq,.slice jr au.length jw,.slice jy ai.length jA],.bool q]) (.tmp 32) (fuel:=4) rfl rfl (by kernel_rfl) (fun _ _ _ h=>h) (by kernel_rfl) (by kernel_rfl) (by first|exact Or.inl rfl|exact Or.inr rfl) hHeld (tf 319 11) (by kernel_rfl) (fun K hK=>?_)
    go_big_move
    refine hK.out _ ?_
    clear hK K
    refine aZ 6 33 (.agg #[.int .i64 tst,.int .i64 tit,.slice jl ay.length jm,.slice jo ak.length jq,.slice jr au.length jw,.slice jy ai.length jA]) (.tmp 27) (.tuple #[.agg #[.int .i64 tst,.int .i64 tit,.slice jl ay.length jm,.slice jo ak.length jq,.slice jr au.length jw,.slice jy ai.length jA],.bool q]) (fuel:=3) rfl rfl (by kernel_rfl) (fun _ _ _ h=>h) (by kernel_rfl) (by kernel_rfl) (fun ρ hr0 _ w hSw=>by simp [go_sem,hr0]) hHeld (tf 383 11) (by kernel_rfl) (fun K hK=>?_)
    go_big_move
    refine hK.out _ ?_
    clear hK K
    refine aZ 7 34 (.bool q) (.tmp 27) (.tuple #[.agg #[.int .i64 tst,.int .i64 tit,.slice jl ay.length jm,.slice jo ak.length jq,.slice jr au.length jw,.slice jy ai.length jA],.bool q]) (fuel:=2) rfl rfl (by kernel_rfl) (fun _ _ _ h=>h) (by kernel_rfl) (by kernel_rfl) (fun ρ hr0 _ w hSw=>by simp [go_sem,hr0]) hHeld (tf 511 11) (by kernel_rfl) (fun K hK=>?_)
    go_big_move
    refine hK.out _ ?_
    clear hK K
    have tZ:Hid (bf.there (w2.heap.size) 0 6):=v13.out.there rfl
    have gZ:=Lib.hid (aA (w2.heap.size) [.int .i64 tst,.int .i64 tit,.slice jl ay.length jm,.slice jo ak.length jq,.slice jr au.length jw,.slice jy ai.length jA] 0 bf)
    have hSZ:Hid (aI w (bf.setCells (w2.heap.size) 0 [.int .i64 tst,.int .i64 tit,.slice jl ay.length jm,.slice jo ak.length jq,.slice jr au.length jw,.slice jy ai.length jA]) w.heap.size (w.heap.size+1) 41 (iaC st it a2 n2 c2 a3 n3 c3 a4 n4 c4 a5 n5 c5) (iaC su iu b2 m2 d2 b3 m3 d3 b4 m4 d4 b5 m5 d5)):=⟨hHeld.1.grown gZ.out hHeld.1.size (fun q hq=>by have h1:=Option.some.inj hq;have h2:=BL.out;omega),hHeld.2.1.grown gZ.out (fun e=>by have h1:=Option.some.inj e;have h2:=BL.out;omega),hHeld.2.2.grown gZ.out (fun e=>by have h1:=Option.some.inj e;have h2:=BL.out;omega)⟩
    have rZ:Hid (aB (bf.setCells (w2.heap.size) 0 [.int .i64 tst,.int .i64 tit,.slice jl ay.length jm,.slice jo ak.length jq,.slice jr au.length jw,.slice jy ai.length jA]) ⟨tst,tit,ay,ak,au,ai⟩ (.agg #[.int .i64 tst,.int .i64 tit,.slice jl ay.length jm,.slice jo ak.length jq,.slice jr au.length jw,.slice jy ai.length jA])):=rw13.out.Bh nb13.out gZ.out
    have vZ:Hid (ae (bf.setCells (w2.heap.size) 0 [.int .i64 tst,.int .i64 tit,.slice jl ay.length jm,.slice jo ak.length jq,.slice jr au.length jw,.slice jy ai.length jA]) (w2.heap.size) #[.int .i64 tst,.int .i64 tit,.slice jl ay.length jm,.slice jo ak.length jq,.slice jr au.length jw,.slice jy ai.length jA] 27):=v13.out.sets _ _ _ _ _ _
    refine wpAnyH_ready (rs:=[9]) (fuel:=1) (by kernel_rfl) (by simp) ?_
    refine aC rfl (by kernel_rfl) (tf 1023 11) (by kernel_rfl) (fun K hK=>?_) AllReadyH.nil
    refine wp_store_mid _ _ _ rfl (w2.heap.size) 0 #[.int .i64 tst,.int .i64 tit,.slice jl ay.length jm,.slice jo ak.length jq,.slice jr au.length jw,.slice jy ai.length jA] rfl rfl tZ.out (by kernel_rfl) (di _ _ _ _ _ _ _ _ _ _ _ _ _ _) ?_
    refine hK.out _ _ hSZ.out (fun hHeld=>?_)
    clear hK K
    try simp only [sI3,sI4,sI5,Act.put]
    refine aW 10 7 (.bool q) (.tmp 34) (fuel:=0) rfl rfl (by kernel_rfl) (fun _ _ _ h=>h) (by kernel_rfl) (by kernel_rfl) (by first|exact Or.inl rfl|exact Or.inr rfl) hHeld (tf 2047 11) (by kernel_rfl) (fun K hK=>?_)
    go_big_move
    refine hK.out _ ?_
    clear hK K
    refine wpAnyH_done (by kernel_rfl) ?_ _
    exact REST.out (w2.heap.size,x9,Ac,(jl,jm),(jo,jq),(jr,jw),(jy,jA)) _ _ (by kernel_rfl) ⟨hSZ.out,vZ.out,rZ.out,BL.out⟩
  ·have hr2:roomOf (rm:Int) (m2+m3+m4+m5) = -1:=ig (by omega)
   refine (CY.out _ _ (by omega) hrm2).mono ?_
   rw [hr2]
   rintro e w2 ⟨rfl,hb⟩
   have S2:=Lib.hid (S1.out.below hb)
   clear hb S1
   go_wp2_with fail
   go_ret
   exact ⟨rfl,S2.out.1⟩
 ·have hr:roomOf 1048576 (n2+n3+n4+n5) = -1:=ig (by omega)
  rw [hr] at CZ
  go_enter Tryz.func6,Tryz.ntmps6
  go_wp2_with fail
  refine (CZ.out _).mono ?_
  rintro e w1 ⟨rfl,hb⟩
  have S1:=Lib.hid (S0.out.below hb)
  clear hb CZ S0
  go_wp2_with fail
  go_ret
  exact ⟨rfl,S1.out.1⟩
end Go.Proofs.YtnglogkkkpegnaaGreat
