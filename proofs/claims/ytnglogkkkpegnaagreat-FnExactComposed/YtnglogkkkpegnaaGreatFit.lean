import Derived.Test.YtnglogkkkpegnaaGreatTwo
import Derived.Test.YtnglogkkkpegnaaGreatRisen
set_option maxHeartbeats 6400000
set_option maxRecDepth 20000
namespace Go.Proofs.YtnglogkkkpegnaaGreat
open Go.RowKit
theorem dE.slice {w:World} {xs:List Int} {e:Ending} {w':World} (h:dE w w.heap.size xs e w'):∃ a c,e=.returned (.slice a xs.length c)∧Below w.heap.size w w':=by
 obtain ⟨g,c,he,_,hb⟩:=h
 exact ⟨_,c,he,hb⟩
theorem dO {s:List Int} (h:dm s=true):∀ x∈s,0≤x∧x≤11:=fun _ hx=>rO h hx
theorem pX {a:IaD} (h:aJ a=true):dm a.ins=true∧dm a.outs=true∧dm a.ah=true:=by
 simp only [aJ,sW,Bool.and_eq_true] at h
 exact ⟨h.1.1.2.1.1.1,h.1.1.2.1.1.2,h.1.1.2.1.2⟩
theorem qh {L:List Int} (hr:L.Pairwise (·<·)) (hl:∀ y∈L,0≤y∧y≤11):L.length≤12:=by
 have h:=xR (ys:=[0,1,2,3,4,5,6,7,8,9,10,11]) hr (fun y hy=>by
  obtain ⟨h0,h1⟩:=hl y hy
  have:y=0∨y=1∨y=2∨y=3∨y=4∨y=5∨y=6∨y=7∨y=8∨y=9∨y=10∨y=11:=by omega
  simpa using this)
 simpa using h
theorem jg {a:IaD} {x:Int}:x∈aV a↔x∈a.ins∨x∈a.outs∨x∈a.ah:=by
 unfold aV
 rw [fO,fO,or_assoc]
theorem tC {a:IaD} (h:aJ a=true):(aV a).length≤12:=by
 obtain ⟨s1,s2,s3⟩:=pX h
 refine qh (bJ (bJ List.Pairwise.nil)) (fun y hy=>?_)
 rcases jg.1 hy with h|h|h
 ·exact dO s1 y h
 ·exact dO s2 y h
 ·exact dO s3 y h
theorem Fq (a b:IaD):je a b=decide ((aU a.ins b.ins).length+(aU a.outs b.outs).length+(aU a.ah (aV b)).length+(aU b.ah (aV a)).length=0):=by
 unfold je
 rw [Bool.eq_iff_iff]
 simp only [Bool.and_eq_true,decide_eq_true_eq]
 omega
theorem Fv (a b:IaD) (v u:Value) (w:World) (h:aB w a v) (k:aB w b u) (fa:Small a) (fb:Small b) (oka:aJ a=true) (okb:aJ b=true) :
  Calls Tryz.prog 111 #[v,u] w fun e w'=>e=.returned (.bool (je a b))∧Below w.heap.size w w':=by
 obtain ⟨a2,n2,c2,a3,n3,c3,a4,n4,c4,a5,n5,c5,rfl,r2,r3,r4,r5⟩:=h
 obtain ⟨b2,m2,d2,b3,m3,d3,b4,m4,d4,b5,m5,d5,rfl,q2,q3,q4,q5⟩:=k
 obtain ⟨st,it,ins,outs,ah,steps⟩:=a
 obtain ⟨su,iu,jns,aF,aG,ax⟩:=b
 obtain ⟨f2,f3,f4,f5⟩:=fa
 obtain ⟨g2,g3,g4,g5⟩:=fb
 simp only at r2 r3 r4 r5 q2 q3 q4 q5 f2 f3 f4 f5 g2 g3 g4 g5
 have HA:Hid (∀ W,Below w.heap.size w W→aB W ⟨st,it,ins,outs,ah,steps⟩ (.agg #[.int .i64 st,.int .i64 it,.slice a2 n2 c2,.slice a3 n3 c3,.slice a4 n4 c4,.slice a5 n5 c5])):=fun W hW=>aB.below ⟨a2,n2,c2,a3,n3,c3,a4,n4,c4,a5,n5,c5,rfl,r2,r3,r4,r5⟩ hW
 have HB:Hid (∀ W,Below w.heap.size w W→aB W ⟨su,iu,jns,aF,aG,ax⟩ (.agg #[.int .i64 su,.int .i64 iu,.slice b2 m2 d2,.slice b3 m3 d3,.slice b4 m4 d4,.slice b5 m5 d5])):=fun W hW=>aB.below ⟨b2,m2,d2,b3,m3,d3,b4,m4,d4,b5,m5,d5,rfl,q2,q3,q4,q5⟩ hW
 have S0:=Lib.hid (aI.start w (iaC st it a2 n2 c2 a3 n3 c3 a4 n4 c4 a5 n5 c5) (iaC su iu b2 m2 d2 b3 m3 d3 b4 m4 d4 b5 m5 d5) 27)
 have e2:=r2.1
 have e3:=r3.1
 have e4:=r4.1
 have k2:=q2.1
 have k3:=q3.1
 have k4:=q4.1
 rw [e2] at f2
 rw [e3] at f3
 rw [e4] at f4
 rw [k2] at g2
 rw [k3] at g3
 rw [k4] at g4
 have R2:=Lib.hid r2
 have R3:=Lib.hid r3
 have R4:=Lib.hid r4
 have R5:=Lib.hid r5
 have Q2:=Lib.hid q2
 have Q3:=Lib.hid q3
 have Q4:=Lib.hid q4
 have Q5:=Lib.hid q5
 clear r2 r3 r4 r5 q2 q3 q4 q5
 have GG:(aV ⟨su,iu,jns,aF,aG,ax⟩:List Int).length≤2097152:=by
  have h1:(aV ⟨su,iu,jns,aF,aG,ax⟩).length≤12:=tC okb
  omega
 have GH:(aV ⟨st,it,ins,outs,ah,steps⟩:List Int).length≤2097152:=by
  have h1:(aV ⟨st,it,ins,outs,ah,steps⟩).length≤12:=tC oka
  omega
 obtain ⟨x1,hx1⟩:∃ q,q=(aU ins jns).length:=⟨_,rfl⟩
 obtain ⟨x2,hx2⟩:∃ q,q=(aU outs aF).length:=⟨_,rfl⟩
 obtain ⟨x3,hx3⟩:∃ q,q=(aU ah (aV ⟨su,iu,jns,aF,aG,ax⟩)).length:=⟨_,rfl⟩
 obtain ⟨x4,hx4⟩:∃ q,q=(aU aG (aV ⟨st,it,ins,outs,ah,steps⟩)).length:=⟨_,rfl⟩
 have l1:x1≤1048576:=by have:=dQ ins jns;omega
 have l2:x2≤1048576:=by have:=dQ outs aF;omega
 have l3:x3≤1048576:=by have:=dQ ah (aV ⟨su,iu,jns,aF,aG,ax⟩);omega
 have l4:x4≤1048576:=by have:=dQ aG (aV ⟨st,it,ins,outs,ah,steps⟩);omega
 have M1:Hid (∀ W,aI w W w.heap.size (w.heap.size+1) 27 (iaC st it a2 n2 c2 a3 n3 c3 a4 n4 c4 a5 n5 c5) (iaC su iu b2 m2 d2 b3 m3 d3 b4 m4 d4 b5 m5 d5)→Calls Tryz.prog 112 #[.slice a2 n2 c2,.slice b2 m2 d2] W fun e w'=>∃ ad cc,e=.returned (.slice ad x1 cc)∧aI w w' w.heap.size (w.heap.size+1) 27 (iaC st it a2 n2 c2 a3 n3 c3 a4 n4 c4 a5 n5 c5) (iaC su iu b2 m2 d2 b3 m3 d3 b4 m4 d4 b5 m5 d5)):=fun W hW=>by
  rw [hx1]
  exact (dX a2 b2 n2 c2 m2 d2 ins jns W (R2.out.below hW.1) (Q2.out.below hW.1) (by omega) (by omega)).mono fun e w' h=>by
   obtain ⟨ad,cc,he,hb⟩:=bY.slice h
   exact ⟨ad,cc,he,hW.below hb⟩
 have M2:Hid (∀ W,aI w W w.heap.size (w.heap.size+1) 27 (iaC st it a2 n2 c2 a3 n3 c3 a4 n4 c4 a5 n5 c5) (iaC su iu b2 m2 d2 b3 m3 d3 b4 m4 d4 b5 m5 d5)→Calls Tryz.prog 112 #[.slice a3 n3 c3,.slice b3 m3 d3] W fun e w'=>∃ ad cc,e=.returned (.slice ad x2 cc)∧aI w w' w.heap.size (w.heap.size+1) 27 (iaC st it a2 n2 c2 a3 n3 c3 a4 n4 c4 a5 n5 c5) (iaC su iu b2 m2 d2 b3 m3 d3 b4 m4 d4 b5 m5 d5)):=fun W hW=>by
  rw [hx2]
  exact (dX a3 b3 n3 c3 m3 d3 outs aF W (R3.out.below hW.1) (Q3.out.below hW.1) (by omega) (by omega)).mono fun e w' h=>by
   obtain ⟨ad,cc,he,hb⟩:=bY.slice h
   exact ⟨ad,cc,he,hW.below hb⟩
 have CB:Hid (∀ W,aI w W w.heap.size (w.heap.size+1) 27 (iaC st it a2 n2 c2 a3 n3 c3 a4 n4 c4 a5 n5 c5) (iaC su iu b2 m2 d2 b3 m3 d3 b4 m4 d4 b5 m5 d5)→Calls Tryz.prog 154 #[.agg #[.int .i64 su,.int .i64 iu,.slice b2 m2 d2,.slice b3 m3 d3,.slice b4 m4 d4,.slice b5 m5 d5]] W fun e w'=>∃ ad n cc,e=.returned (.slice ad n cc)∧Row w' ad n (aV ⟨su,iu,jns,aF,aG,ax⟩)∧n≤2097152∧aI w w' w.heap.size (w.heap.size+1) 27 (iaC st it a2 n2 c2 a3 n3 c3 a4 n4 c4 a5 n5 c5) (iaC su iu b2 m2 d2 b3 m3 d3 b4 m4 d4 b5 m5 d5)):=fun W hW=>by
  have hc:=vU ⟨su,iu,jns,aF,aG,ax⟩ _ W (HB.out W hW.1) (by rw [k2];exact g2) (by rw [k3];exact g3) (by rw [k4];exact g4) g5
  rw [if_pos okb] at hc
  refine hc.mono fun e w' h=>?_
  obtain ⟨v,he,ho,hb⟩:=h
  obtain ⟨ad,cc,rfl⟩:=ho.form
  exact ⟨_,_,_,he,ho.row.2.2.2,GG,hW.below hb⟩
 have M3:Hid (∀ W ad n cc,Row W ad n (aV ⟨su,iu,jns,aF,aG,ax⟩)→n≤2097152→aI w W w.heap.size (w.heap.size+1) 27 (iaC st it a2 n2 c2 a3 n3 c3 a4 n4 c4 a5 n5 c5) (iaC su iu b2 m2 d2 b3 m3 d3 b4 m4 d4 b5 m5 d5)→Calls Tryz.prog 112 #[.slice a4 n4 c4,.slice ad n cc] W fun e w'=>∃ ad cc,e=.returned (.slice ad x3 cc)∧aI w w' w.heap.size (w.heap.size+1) 27 (iaC st it a2 n2 c2 a3 n3 c3 a4 n4 c4 a5 n5 c5) (iaC su iu b2 m2 d2 b3 m3 d3 b4 m4 d4 b5 m5 d5)):=fun W ad n cc hr hn hW=>by
  rw [hx3]
  exact (dX a4 ad n4 c4 n cc ah (aV ⟨su,iu,jns,aF,aG,ax⟩) W (R4.out.below hW.1) hr (by omega) hn).mono fun e w' h=>by
   obtain ⟨ad,cc,he,hb⟩:=bY.slice h
   exact ⟨ad,cc,he,hW.below hb⟩
 have CA:Hid (∀ W,aI w W w.heap.size (w.heap.size+1) 27 (iaC st it a2 n2 c2 a3 n3 c3 a4 n4 c4 a5 n5 c5) (iaC su iu b2 m2 d2 b3 m3 d3 b4 m4 d4 b5 m5 d5)→Calls Tryz.prog 154 #[.agg #[.int .i64 st,.int .i64 it,.slice a2 n2 c2,.slice a3 n3 c3,.slice a4 n4 c4,.slice a5 n5 c5]] W fun e w'=>∃ ad n cc,e=.returned (.slice ad n cc)∧Row w' ad n (aV ⟨st,it,ins,outs,ah,steps⟩)∧n≤2097152∧aI w w' w.heap.size (w.heap.size+1) 27 (iaC st it a2 n2 c2 a3 n3 c3 a4 n4 c4 a5 n5 c5) (iaC su iu b2 m2 d2 b3 m3 d3 b4 m4 d4 b5 m5 d5)):=fun W hW=>by
  have hc:=vU ⟨st,it,ins,outs,ah,steps⟩ _ W (HA.out W hW.1) (by rw [e2];exact f2) (by rw [e3];exact f3) (by rw [e4];exact f4) f5
  rw [if_pos oka] at hc
  refine hc.mono fun e w' h=>?_
  obtain ⟨v,he,ho,hb⟩:=h
  obtain ⟨ad,cc,rfl⟩:=ho.form
  exact ⟨_,_,_,he,ho.row.2.2.2,GH,hW.below hb⟩
 have M4:Hid (∀ W ad n cc,Row W ad n (aV ⟨st,it,ins,outs,ah,steps⟩)→n≤2097152→aI w W w.heap.size (w.heap.size+1) 27 (iaC st it a2 n2 c2 a3 n3 c3 a4 n4 c4 a5 n5 c5) (iaC su iu b2 m2 d2 b3 m3 d3 b4 m4 d4 b5 m5 d5)→Calls Tryz.prog 112 #[.slice b4 m4 d4,.slice ad n cc] W fun e w'=>∃ ad cc,e=.returned (.slice ad x4 cc)∧aI w w' w.heap.size (w.heap.size+1) 27 (iaC st it a2 n2 c2 a3 n3 c3 a4 n4 c4 a5 n5 c5) (iaC su iu b2 m2 d2 b3 m3 d3 b4 m4 d4 b5 m5 d5)):=fun W ad n cc hr hn hW=>by
  rw [hx4]
  exact (dX b4 ad m4 d4 n cc aG (aV ⟨st,it,ins,outs,ah,steps⟩) W (Q4.out.below hW.1) hr (by omega) hn).mono fun e w' h=>by
   obtain ⟨ad,cc,he,hb⟩:=bY.slice h
   exact ⟨ad,cc,he,hW.below hb⟩
 obtain ⟨r,hr⟩:∃ r,r=je ⟨st,it,ins,outs,ah,steps⟩ ⟨su,iu,jns,aF,aG,ax⟩:=⟨_,rfl⟩
 rw [← hr]
 have HR:Hid (r=(decide (x1=0)&&decide (x2=0)&&decide (x3=0)&&decide (x4=0))):=by
  unfold Hid
  rw [hr,hx1,hx2,hx3,hx4]
  rfl
 clear hr hx1 hx2 hx3 hx4 HA HB
 go_enter Tryz.func111,Tryz.ntmps111
 go_wp2_with fail
 have SD:=S0.out.drew
 clear S0
 by_cases hz:x1=0
 ·subst hz
  by_cases hz:x2=0
  ·subst hz
   by_cases hz:x3=0
   ·subst hz
    by_cases hz:x4=0
    ·subst hz
     refine wp_region_held_drew (S:=fun w'=>aI w w' w.heap.size (w.heap.size+1) 27 (iaC st it a2 n2 c2 a3 n3 c3 a4 n4 c4 a5 n5 c5) (iaC su iu b2 m2 d2 b3 m3 d3 b4 m4 d4 b5 m5 d5)) (by kernel_rfl) SD (fun hHeld=>?_)
     change wpAnyH _ _ _ _ _ 35 (Array.replicate 35 false) _ _
     refine ag 0 5 (.pointer (some ⟨w.heap.size,2,none⟩)) (fuel:=34) rfl rfl (by kernel_rfl) (fun _ _ _ h=>h) (by rfl) (fun w hSw=>by go_simp) hHeld ?_
     simp only [Act.put,sI0,sI1,sI2]
     refine ag 1 6 (.slice a2 n2 c2) (fuel:=33) rfl rfl (by kernel_rfl) (fun _ _ _ h=>h) (by rfl) (fun w hSw=>by have m:=hSw.2.1.cell (j:=2) (u:=.slice a2 n2 c2) rfl;go_simp) hHeld ?_
     simp only [Act.put,sI0,sI1,sI2]
     refine ag 2 7 (.pointer (some ⟨w.heap.size+1,2,none⟩)) (fuel:=32) rfl rfl (by kernel_rfl) (fun _ _ _ h=>h) (by rfl) (fun w hSw=>by go_simp) hHeld ?_
     simp only [Act.put,sI0,sI1,sI2]
     refine ag 3 8 (.slice b2 m2 d2) (fuel:=31) rfl rfl (by kernel_rfl) (fun _ _ _ h=>h) (by rfl) (fun w hSw=>by have m:=hSw.2.2.cell (j:=2) (u:=.slice b2 m2 d2) rfl;go_simp) hHeld ?_
     simp only [Act.put,sI0,sI1,sI2]
     refine wpAnyH_ready (rs:=[4]) (fuel:=30) (by kernel_rfl) (by simp) ?_
     refine AllReadyH.cons rfl (fun K hK=>?_) AllReadyH.nil
     go_simp
     refine (M1.out _ hHeld).mono ?_
     rintro e w1 ⟨ad1,cc1,rfl,hS⟩
     go_wp2_with fail
     refine hK.out _ _ hS (fun hHeld=>?_)
     clear hK K
     refine ag 5 10 (.int .i64 0) (fuel:=29) rfl rfl (by kernel_rfl) (fun _ _ _ h=>h) (by rfl) (fun w hSw=>by go_simp) hHeld ?_
     simp only [Act.put,sI0,sI1,sI2]
     refine ag 6 11 (.bool true) (fuel:=28) rfl rfl (by kernel_rfl) (fun _ _ _ h=>h) (by rfl) (fun w hSw=>by go_simp) hHeld ?_
     simp only [Act.put,sI0,sI1,sI2]
     refine ag 7 12 (.bool true) (fuel:=27) rfl rfl (by kernel_rfl) (fun _ _ _ h=>h) (by rfl) (fun w hSw=>by go_simp) hHeld ?_
     simp only [Act.put,sI0,sI1,sI2]
     refine ag 8 13 (.pointer (some ⟨w.heap.size,3,none⟩)) (fuel:=26) rfl rfl (by kernel_rfl) (fun _ _ _ h=>h) (by rfl) (fun w hSw=>by go_simp) hHeld ?_
     simp only [Act.put,sI0,sI1,sI2]
     refine ag 9 14 (.slice a3 n3 c3) (fuel:=25) rfl rfl (by kernel_rfl) (fun _ _ _ h=>h) (by rfl) (fun w hSw=>by have m:=hSw.2.1.cell (j:=3) (u:=.slice a3 n3 c3) rfl;go_simp) hHeld ?_
     simp only [Act.put,sI0,sI1,sI2]
     refine ag 10 15 (.pointer (some ⟨w.heap.size+1,3,none⟩)) (fuel:=24) rfl rfl (by kernel_rfl) (fun _ _ _ h=>h) (by rfl) (fun w hSw=>by go_simp) hHeld ?_
     simp only [Act.put,sI0,sI1,sI2]
     refine ag 11 16 (.slice b3 m3 d3) (fuel:=23) rfl rfl (by kernel_rfl) (fun _ _ _ h=>h) (by rfl) (fun w hSw=>by have m:=hSw.2.2.cell (j:=3) (u:=.slice b3 m3 d3) rfl;go_simp) hHeld ?_
     simp only [Act.put,sI0,sI1,sI2]
     refine wpAnyH_ready (rs:=[12]) (fuel:=22) (by kernel_rfl) (by simp) ?_
     refine AllReadyH.cons rfl (fun K hK=>?_) AllReadyH.nil
     go_simp
     refine (M2.out _ hHeld).mono ?_
     rintro e w2 ⟨ad2,cc2,rfl,hS⟩
     go_wp2_with fail
     refine hK.out _ _ hS (fun hHeld=>?_)
     clear hK K
     refine ag 13 18 (.int .i64 0) (fuel:=21) rfl rfl (by kernel_rfl) (fun _ _ _ h=>h) (by rfl) (fun w hSw=>by go_simp) hHeld ?_
     simp only [Act.put,sI0,sI1,sI2]
     refine ag 14 19 (.bool true) (fuel:=20) rfl rfl (by kernel_rfl) (fun _ _ _ h=>h) (by rfl) (fun w hSw=>by go_simp) hHeld ?_
     simp only [Act.put,sI0,sI1,sI2]
     refine ag 15 20 (.bool true) (fuel:=19) rfl rfl (by kernel_rfl) (fun _ _ _ h=>h) (by rfl) (fun w hSw=>by go_simp) hHeld ?_
     simp only [Act.put,sI0,sI1,sI2]
     refine ag 16 21 (.bool true) (fuel:=18) rfl rfl (by kernel_rfl) (fun _ _ _ h=>h) (by rfl) (fun w hSw=>by go_simp) hHeld ?_
     simp only [Act.put,sI0,sI1,sI2]
     refine ag 17 22 (.pointer (some ⟨w.heap.size,4,none⟩)) (fuel:=17) rfl rfl (by kernel_rfl) (fun _ _ _ h=>h) (by rfl) (fun w hSw=>by go_simp) hHeld ?_
     simp only [Act.put,sI0,sI1,sI2]
     refine ag 18 23 (.slice a4 n4 c4) (fuel:=16) rfl rfl (by kernel_rfl) (fun _ _ _ h=>h) (by rfl) (fun w hSw=>by have m:=hSw.2.1.cell (j:=4) (u:=.slice a4 n4 c4) rfl;go_simp) hHeld ?_
     simp only [Act.put,sI0,sI1,sI2]
     refine aX 19 24 (.agg #[.int .i64 su,.int .i64 iu,.slice b2 m2 d2,.slice b3 m3 d3,.slice b4 m4 d4,.slice b5 m5 d5]) (fuel:=15) rfl rfl (by kernel_rfl) (fun _ _ _ h=>h) (yieldsIf_load_mid (by rfl) _ _ rfl (w.heap.size+1) 0 rfl (iaC su iu b2 m2 d2 b3 m3 d3 b4 m4 d4 b5 m5 d5).toList _ (fun w hw=>hw.2.2.range) Tryz.underlying27 rfl (by kernel_rfl)) hHeld ?_
     simp only [Act.put,sI0,sI1,sI2]
     refine wpAnyH_ready (rs:=[20]) (fuel:=14) (by kernel_rfl) (by simp) ?_
     refine AllReadyH.cons rfl (fun K hK=>?_) AllReadyH.nil
     go_simp
     refine (CB.out _ hHeld).mono ?_
     rintro e w3 ⟨ad3,n3x,cc3,rfl,hr3,hn3,hS⟩
     go_wp2_with fail
     refine hK.out _ _ hS (fun hHeld=>?_)
     clear hK K
     refine wpAnyH_ready (rs:=[21]) (fuel:=13) (by kernel_rfl) (by simp) ?_
     refine AllReadyH.cons rfl (fun K hK=>?_) AllReadyH.nil
     go_simp
     refine (M3.out _ _ _ _ hr3 hn3 hHeld).mono ?_
     rintro e w4 ⟨ad4,cc4,rfl,hS⟩
     clear hr3
     go_wp2_with fail
     refine hK.out _ _ hS (fun hHeld=>?_)
     clear hK K
     refine ag 22 27 (.int .i64 0) (fuel:=12) rfl rfl (by kernel_rfl) (fun _ _ _ h=>h) (by rfl) (fun w hSw=>by go_simp) hHeld ?_
     simp only [Act.put,sI0,sI1,sI2]
     refine ag 23 28 (.bool true) (fuel:=11) rfl rfl (by kernel_rfl) (fun _ _ _ h=>h) (by rfl) (fun w hSw=>by go_simp) hHeld ?_
     simp only [Act.put,sI0,sI1,sI2]
     refine ag 24 29 (.bool true) (fuel:=10) rfl rfl (by kernel_rfl) (fun _ _ _ h=>h) (by rfl) (fun w hSw=>by go_simp) hHeld ?_
     simp only [Act.put,sI0,sI1,sI2]
     refine ag 25 30 (.bool true) (fuel:=9) rfl rfl (by kernel_rfl) (fun _ _ _ h=>h) (by rfl) (fun w hSw=>by go_simp) hHeld ?_
     simp only [Act.put,sI0,sI1,sI2]
     refine ag 26 31 (.pointer (some ⟨w.heap.size+1,4,none⟩)) (fuel:=8) rfl rfl (by kernel_rfl) (fun _ _ _ h=>h) (by rfl) (fun w hSw=>by go_simp) hHeld ?_
     simp only [Act.put,sI0,sI1,sI2]
     refine ag 27 32 (.slice b4 m4 d4) (fuel:=7) rfl rfl (by kernel_rfl) (fun _ _ _ h=>h) (by rfl) (fun w hSw=>by have m:=hSw.2.2.cell (j:=4) (u:=.slice b4 m4 d4) rfl;go_simp) hHeld ?_
     simp only [Act.put,sI0,sI1,sI2]
     refine aX 28 33 (.agg #[.int .i64 st,.int .i64 it,.slice a2 n2 c2,.slice a3 n3 c3,.slice a4 n4 c4,.slice a5 n5 c5]) (fuel:=6) rfl rfl (by kernel_rfl) (fun _ _ _ h=>h) (yieldsIf_load_mid (by rfl) _ _ rfl (w.heap.size) 0 rfl (iaC st it a2 n2 c2 a3 n3 c3 a4 n4 c4 a5 n5 c5).toList _ (fun w hw=>hw.2.1.range) Tryz.underlying27 rfl (by kernel_rfl)) hHeld ?_
     simp only [Act.put,sI0,sI1,sI2]
     refine wpAnyH_ready (rs:=[29]) (fuel:=5) (by kernel_rfl) (by simp) ?_
     refine AllReadyH.cons rfl (fun K hK=>?_) AllReadyH.nil
     go_simp
     refine (CA.out _ hHeld).mono ?_
     rintro e w5 ⟨ad5,n5x,cc5,rfl,hr5,hn5,hS⟩
     go_wp2_with fail
     refine hK.out _ _ hS (fun hHeld=>?_)
     clear hK K
     refine wpAnyH_ready (rs:=[30]) (fuel:=4) (by kernel_rfl) (by simp) ?_
     refine AllReadyH.cons rfl (fun K hK=>?_) AllReadyH.nil
     go_simp
     refine (M4.out _ _ _ _ hr5 hn5 hHeld).mono ?_
     rintro e w6 ⟨ad6,cc6,rfl,hS⟩
     clear hr5
     go_wp2_with fail
     refine hK.out _ _ hS (fun hHeld=>?_)
     clear hK K
     refine ag 31 36 (.int .i64 0) (fuel:=3) rfl rfl (by kernel_rfl) (fun _ _ _ h=>h) (by rfl) (fun w hSw=>by go_simp) hHeld ?_
     simp only [Act.put,sI0,sI1,sI2]
     refine ag 32 37 (.bool true) (fuel:=2) rfl rfl (by kernel_rfl) (fun _ _ _ h=>h) (by rfl) (fun w hSw=>by go_simp) hHeld ?_
     simp only [Act.put,sI0,sI1,sI2]
     refine ag 33 38 (.bool true) (fuel:=1) rfl rfl (by kernel_rfl) (fun _ _ _ h=>h) (by rfl) (fun w hSw=>by go_simp) hHeld ?_
     simp only [Act.put,sI0,sI1,sI2]
     refine ag 34 4 (.bool true) (fuel:=0) rfl rfl (by kernel_rfl) (fun _ _ _ h=>h) (by rfl) (fun w hSw=>by go_simp) hHeld ?_
     simp only [Act.put,sI0,sI1,sI2]
     refine wpAnyH_done (by kernel_rfl) ?_ _
     go_wp2_with fail
     go_ret
     exact ⟨aH (by rw [HR.out];try simp),hHeld.1⟩
    ·have hd:(((x4:Nat):Int) == 0)=false:=by simp;omega
     have HZ:=Lib.hid hz
     clear hz
     refine wp_region_held_drew (S:=fun w'=>aI w w' w.heap.size (w.heap.size+1) 27 (iaC st it a2 n2 c2 a3 n3 c3 a4 n4 c4 a5 n5 c5) (iaC su iu b2 m2 d2 b3 m3 d3 b4 m4 d4 b5 m5 d5)) (by kernel_rfl) SD (fun hHeld=>?_)
     change wpAnyH _ _ _ _ _ 35 (Array.replicate 35 false) _ _
     refine ag 0 5 (.pointer (some ⟨w.heap.size,2,none⟩)) (fuel:=34) rfl rfl (by kernel_rfl) (fun _ _ _ h=>h) (by rfl) (fun w hSw=>by go_simp) hHeld ?_
     simp only [Act.put,sI0,sI1,sI2]
     refine ag 1 6 (.slice a2 n2 c2) (fuel:=33) rfl rfl (by kernel_rfl) (fun _ _ _ h=>h) (by rfl) (fun w hSw=>by have m:=hSw.2.1.cell (j:=2) (u:=.slice a2 n2 c2) rfl;go_simp) hHeld ?_
     simp only [Act.put,sI0,sI1,sI2]
     refine ag 2 7 (.pointer (some ⟨w.heap.size+1,2,none⟩)) (fuel:=32) rfl rfl (by kernel_rfl) (fun _ _ _ h=>h) (by rfl) (fun w hSw=>by go_simp) hHeld ?_
     simp only [Act.put,sI0,sI1,sI2]
     refine ag 3 8 (.slice b2 m2 d2) (fuel:=31) rfl rfl (by kernel_rfl) (fun _ _ _ h=>h) (by rfl) (fun w hSw=>by have m:=hSw.2.2.cell (j:=2) (u:=.slice b2 m2 d2) rfl;go_simp) hHeld ?_
     simp only [Act.put,sI0,sI1,sI2]
     refine wpAnyH_ready (rs:=[4]) (fuel:=30) (by kernel_rfl) (by simp) ?_
     refine AllReadyH.cons rfl (fun K hK=>?_) AllReadyH.nil
     go_simp
     refine (M1.out _ hHeld).mono ?_
     rintro e w1 ⟨ad1,cc1,rfl,hS⟩
     go_wp2_with fail
     refine hK.out _ _ hS (fun hHeld=>?_)
     clear hK K
     refine ag 5 10 (.int .i64 0) (fuel:=29) rfl rfl (by kernel_rfl) (fun _ _ _ h=>h) (by rfl) (fun w hSw=>by go_simp) hHeld ?_
     simp only [Act.put,sI0,sI1,sI2]
     refine ag 6 11 (.bool true) (fuel:=28) rfl rfl (by kernel_rfl) (fun _ _ _ h=>h) (by rfl) (fun w hSw=>by go_simp) hHeld ?_
     simp only [Act.put,sI0,sI1,sI2]
     refine ag 7 12 (.bool true) (fuel:=27) rfl rfl (by kernel_rfl) (fun _ _ _ h=>h) (by rfl) (fun w hSw=>by go_simp) hHeld ?_
     simp only [Act.put,sI0,sI1,sI2]
     refine ag 8 13 (.pointer (some ⟨w.heap.size,3,none⟩)) (fuel:=26) rfl rfl (by kernel_rfl) (fun _ _ _ h=>h) (by rfl) (fun w hSw=>by go_simp) hHeld ?_
     simp only [Act.put,sI0,sI1,sI2]
     refine ag 9 14 (.slice a3 n3 c3) (fuel:=25) rfl rfl (by kernel_rfl) (fun _ _ _ h=>h) (by rfl) (fun w hSw=>by have m:=hSw.2.1.cell (j:=3) (u:=.slice a3 n3 c3) rfl;go_simp) hHeld ?_
     simp only [Act.put,sI0,sI1,sI2]
     refine ag 10 15 (.pointer (some ⟨w.heap.size+1,3,none⟩)) (fuel:=24) rfl rfl (by kernel_rfl) (fun _ _ _ h=>h) (by rfl) (fun w hSw=>by go_simp) hHeld ?_
     simp only [Act.put,sI0,sI1,sI2]
     refine ag 11 16 (.slice b3 m3 d3) (fuel:=23) rfl rfl (by kernel_rfl) (fun _ _ _ h=>h) (by rfl) (fun w hSw=>by have m:=hSw.2.2.cell (j:=3) (u:=.slice b3 m3 d3) rfl;go_simp) hHeld ?_
     simp only [Act.put,sI0,sI1,sI2]
     refine wpAnyH_ready (rs:=[12]) (fuel:=22) (by kernel_rfl) (by simp) ?_
     refine AllReadyH.cons rfl (fun K hK=>?_) AllReadyH.nil
     go_simp
     refine (M2.out _ hHeld).mono ?_
     rintro e w2 ⟨ad2,cc2,rfl,hS⟩
     go_wp2_with fail
     refine hK.out _ _ hS (fun hHeld=>?_)
     clear hK K
     refine ag 13 18 (.int .i64 0) (fuel:=21) rfl rfl (by kernel_rfl) (fun _ _ _ h=>h) (by rfl) (fun w hSw=>by go_simp) hHeld ?_
     simp only [Act.put,sI0,sI1,sI2]
     refine ag 14 19 (.bool true) (fuel:=20) rfl rfl (by kernel_rfl) (fun _ _ _ h=>h) (by rfl) (fun w hSw=>by go_simp) hHeld ?_
     simp only [Act.put,sI0,sI1,sI2]
     refine ag 15 20 (.bool true) (fuel:=19) rfl rfl (by kernel_rfl) (fun _ _ _ h=>h) (by rfl) (fun w hSw=>by go_simp) hHeld ?_
     simp only [Act.put,sI0,sI1,sI2]
     refine ag 16 21 (.bool true) (fuel:=18) rfl rfl (by kernel_rfl) (fun _ _ _ h=>h) (by rfl) (fun w hSw=>by go_simp) hHeld ?_
     simp only [Act.put,sI0,sI1,sI2]
     refine ag 17 22 (.pointer (some ⟨w.heap.size,4,none⟩)) (fuel:=17) rfl rfl (by kernel_rfl) (fun _ _ _ h=>h) (by rfl) (fun w hSw=>by go_simp) hHeld ?_
     simp only [Act.put,sI0,sI1,sI2]
     refine ag 18 23 (.slice a4 n4 c4) (fuel:=16) rfl rfl (by kernel_rfl) (fun _ _ _ h=>h) (by rfl) (fun w hSw=>by have m:=hSw.2.1.cell (j:=4) (u:=.slice a4 n4 c4) rfl;go_simp) hHeld ?_
     simp only [Act.put,sI0,sI1,sI2]
     refine aX 19 24 (.agg #[.int .i64 su,.int .i64 iu,.slice b2 m2 d2,.slice b3 m3 d3,.slice b4 m4 d4,.slice b5 m5 d5]) (fuel:=15) rfl rfl (by kernel_rfl) (fun _ _ _ h=>h) (yieldsIf_load_mid (by rfl) _ _ rfl (w.heap.size+1) 0 rfl (iaC su iu b2 m2 d2 b3 m3 d3 b4 m4 d4 b5 m5 d5).toList _ (fun w hw=>hw.2.2.range) Tryz.underlying27 rfl (by kernel_rfl)) hHeld ?_
     simp only [Act.put,sI0,sI1,sI2]
     refine wpAnyH_ready (rs:=[20]) (fuel:=14) (by kernel_rfl) (by simp) ?_
     refine AllReadyH.cons rfl (fun K hK=>?_) AllReadyH.nil
     go_simp
     refine (CB.out _ hHeld).mono ?_
     rintro e w3 ⟨ad3,n3x,cc3,rfl,hr3,hn3,hS⟩
     go_wp2_with fail
     refine hK.out _ _ hS (fun hHeld=>?_)
     clear hK K
     refine wpAnyH_ready (rs:=[21]) (fuel:=13) (by kernel_rfl) (by simp) ?_
     refine AllReadyH.cons rfl (fun K hK=>?_) AllReadyH.nil
     go_simp
     refine (M3.out _ _ _ _ hr3 hn3 hHeld).mono ?_
     rintro e w4 ⟨ad4,cc4,rfl,hS⟩
     clear hr3
     go_wp2_with fail
     refine hK.out _ _ hS (fun hHeld=>?_)
     clear hK K
     refine ag 22 27 (.int .i64 0) (fuel:=12) rfl rfl (by kernel_rfl) (fun _ _ _ h=>h) (by rfl) (fun w hSw=>by go_simp) hHeld ?_
     simp only [Act.put,sI0,sI1,sI2]
     refine ag 23 28 (.bool true) (fuel:=11) rfl rfl (by kernel_rfl) (fun _ _ _ h=>h) (by rfl) (fun w hSw=>by go_simp) hHeld ?_
     simp only [Act.put,sI0,sI1,sI2]
     refine ag 24 29 (.bool true) (fuel:=10) rfl rfl (by kernel_rfl) (fun _ _ _ h=>h) (by rfl) (fun w hSw=>by go_simp) hHeld ?_
     simp only [Act.put,sI0,sI1,sI2]
     refine ag 25 30 (.bool true) (fuel:=9) rfl rfl (by kernel_rfl) (fun _ _ _ h=>h) (by rfl) (fun w hSw=>by go_simp) hHeld ?_
     simp only [Act.put,sI0,sI1,sI2]
     refine ag 26 31 (.pointer (some ⟨w.heap.size+1,4,none⟩)) (fuel:=8) rfl rfl (by kernel_rfl) (fun _ _ _ h=>h) (by rfl) (fun w hSw=>by go_simp) hHeld ?_
     simp only [Act.put,sI0,sI1,sI2]
     refine ag 27 32 (.slice b4 m4 d4) (fuel:=7) rfl rfl (by kernel_rfl) (fun _ _ _ h=>h) (by rfl) (fun w hSw=>by have m:=hSw.2.2.cell (j:=4) (u:=.slice b4 m4 d4) rfl;go_simp) hHeld ?_
     simp only [Act.put,sI0,sI1,sI2]
     refine aX 28 33 (.agg #[.int .i64 st,.int .i64 it,.slice a2 n2 c2,.slice a3 n3 c3,.slice a4 n4 c4,.slice a5 n5 c5]) (fuel:=6) rfl rfl (by kernel_rfl) (fun _ _ _ h=>h) (yieldsIf_load_mid (by rfl) _ _ rfl (w.heap.size) 0 rfl (iaC st it a2 n2 c2 a3 n3 c3 a4 n4 c4 a5 n5 c5).toList _ (fun w hw=>hw.2.1.range) Tryz.underlying27 rfl (by kernel_rfl)) hHeld ?_
     simp only [Act.put,sI0,sI1,sI2]
     refine wpAnyH_ready (rs:=[29]) (fuel:=5) (by kernel_rfl) (by simp) ?_
     refine AllReadyH.cons rfl (fun K hK=>?_) AllReadyH.nil
     go_simp
     refine (CA.out _ hHeld).mono ?_
     rintro e w5 ⟨ad5,n5x,cc5,rfl,hr5,hn5,hS⟩
     go_wp2_with fail
     refine hK.out _ _ hS (fun hHeld=>?_)
     clear hK K
     refine wpAnyH_ready (rs:=[30]) (fuel:=4) (by kernel_rfl) (by simp) ?_
     refine AllReadyH.cons rfl (fun K hK=>?_) AllReadyH.nil
     go_simp
     refine (M4.out _ _ _ _ hr5 hn5 hHeld).mono ?_
     rintro e w6 ⟨ad6,cc6,rfl,hS⟩
     clear hr5
     go_wp2_with fail
     refine hK.out _ _ hS (fun hHeld=>?_)
     clear hK K
     refine ag 31 36 (.int .i64 ((x4:Nat):Int)) (fuel:=3) rfl rfl (by kernel_rfl) (fun _ _ _ h=>h) (by rfl) (fun w hSw=>by go_simp) hHeld ?_
     simp only [Act.put,sI0,sI1,sI2]
     refine ag 32 37 (.bool false) (fuel:=2) rfl rfl (by kernel_rfl) (fun _ _ _ h=>h) (by rfl) (fun w hSw=>by go_simp) hHeld ?_
     simp only [Act.put,sI0,sI1,sI2]
     refine ag 33 38 (.bool false) (fuel:=1) rfl rfl (by kernel_rfl) (fun _ _ _ h=>h) (by rfl) (fun w hSw=>by go_simp) hHeld ?_
     simp only [Act.put,sI0,sI1,sI2]
     refine ag 34 4 (.bool false) (fuel:=0) rfl rfl (by kernel_rfl) (fun _ _ _ h=>h) (by rfl) (fun w hSw=>by go_simp) hHeld ?_
     simp only [Act.put,sI0,sI1,sI2]
     refine wpAnyH_done (by kernel_rfl) ?_ _
     go_wp2_with fail
     go_ret
     exact ⟨aH (by rw [HR.out,decide_eq_false HZ.out];try simp),hHeld.1⟩
   ·have hd:(((x3:Nat):Int) == 0)=false:=by simp;omega
    have HZ:=Lib.hid hz
    clear hz
    refine wp_region_held_drew (S:=fun w'=>aI w w' w.heap.size (w.heap.size+1) 27 (iaC st it a2 n2 c2 a3 n3 c3 a4 n4 c4 a5 n5 c5) (iaC su iu b2 m2 d2 b3 m3 d3 b4 m4 d4 b5 m5 d5)) (by kernel_rfl) SD (fun hHeld=>?_)
    change wpAnyH _ _ _ _ _ 35 (Array.replicate 35 false) _ _
    refine ag 0 5 (.pointer (some ⟨w.heap.size,2,none⟩)) (fuel:=34) rfl rfl (by kernel_rfl) (fun _ _ _ h=>h) (by rfl) (fun w hSw=>by go_simp) hHeld ?_
    simp only [Act.put,sI0,sI1,sI2]
    refine ag 1 6 (.slice a2 n2 c2) (fuel:=33) rfl rfl (by kernel_rfl) (fun _ _ _ h=>h) (by rfl) (fun w hSw=>by have m:=hSw.2.1.cell (j:=2) (u:=.slice a2 n2 c2) rfl;go_simp) hHeld ?_
    simp only [Act.put,sI0,sI1,sI2]
    refine ag 2 7 (.pointer (some ⟨w.heap.size+1,2,none⟩)) (fuel:=32) rfl rfl (by kernel_rfl) (fun _ _ _ h=>h) (by rfl) (fun w hSw=>by go_simp) hHeld ?_
    simp only [Act.put,sI0,sI1,sI2]
    refine ag 3 8 (.slice b2 m2 d2) (fuel:=31) rfl rfl (by kernel_rfl) (fun _ _ _ h=>h) (by rfl) (fun w hSw=>by have m:=hSw.2.2.cell (j:=2) (u:=.slice b2 m2 d2) rfl;go_simp) hHeld ?_
    simp only [Act.put,sI0,sI1,sI2]
    refine wpAnyH_ready (rs:=[4]) (fuel:=30) (by kernel_rfl) (by simp) ?_
    refine AllReadyH.cons rfl (fun K hK=>?_) AllReadyH.nil
    go_simp
    refine (M1.out _ hHeld).mono ?_
    rintro e w1 ⟨ad1,cc1,rfl,hS⟩
    go_wp2_with fail
    refine hK.out _ _ hS (fun hHeld=>?_)
    clear hK K
    refine ag 5 10 (.int .i64 0) (fuel:=29) rfl rfl (by kernel_rfl) (fun _ _ _ h=>h) (by rfl) (fun w hSw=>by go_simp) hHeld ?_
    simp only [Act.put,sI0,sI1,sI2]
    refine ag 6 11 (.bool true) (fuel:=28) rfl rfl (by kernel_rfl) (fun _ _ _ h=>h) (by rfl) (fun w hSw=>by go_simp) hHeld ?_
    simp only [Act.put,sI0,sI1,sI2]
    refine ag 7 12 (.bool true) (fuel:=27) rfl rfl (by kernel_rfl) (fun _ _ _ h=>h) (by rfl) (fun w hSw=>by go_simp) hHeld ?_
    simp only [Act.put,sI0,sI1,sI2]
    refine ag 8 13 (.pointer (some ⟨w.heap.size,3,none⟩)) (fuel:=26) rfl rfl (by kernel_rfl) (fun _ _ _ h=>h) (by rfl) (fun w hSw=>by go_simp) hHeld ?_
    simp only [Act.put,sI0,sI1,sI2]
    refine ag 9 14 (.slice a3 n3 c3) (fuel:=25) rfl rfl (by kernel_rfl) (fun _ _ _ h=>h) (by rfl) (fun w hSw=>by have m:=hSw.2.1.cell (j:=3) (u:=.slice a3 n3 c3) rfl;go_simp) hHeld ?_
    simp only [Act.put,sI0,sI1,sI2]
    refine ag 10 15 (.pointer (some ⟨w.heap.size+1,3,none⟩)) (fuel:=24) rfl rfl (by kernel_rfl) (fun _ _ _ h=>h) (by rfl) (fun w hSw=>by go_simp) hHeld ?_
    simp only [Act.put,sI0,sI1,sI2]
    refine ag 11 16 (.slice b3 m3 d3) (fuel:=23) rfl rfl (by kernel_rfl) (fun _ _ _ h=>h) (by rfl) (fun w hSw=>by have m:=hSw.2.2.cell (j:=3) (u:=.slice b3 m3 d3) rfl;go_simp) hHeld ?_
    simp only [Act.put,sI0,sI1,sI2]
    refine wpAnyH_ready (rs:=[12]) (fuel:=22) (by kernel_rfl) (by simp) ?_
    refine AllReadyH.cons rfl (fun K hK=>?_) AllReadyH.nil
    go_simp
    refine (M2.out _ hHeld).mono ?_
    rintro e w2 ⟨ad2,cc2,rfl,hS⟩
    go_wp2_with fail
    refine hK.out _ _ hS (fun hHeld=>?_)
    clear hK K
    refine ag 13 18 (.int .i64 0) (fuel:=21) rfl rfl (by kernel_rfl) (fun _ _ _ h=>h) (by rfl) (fun w hSw=>by go_simp) hHeld ?_
    simp only [Act.put,sI0,sI1,sI2]
    refine ag 14 19 (.bool true) (fuel:=20) rfl rfl (by kernel_rfl) (fun _ _ _ h=>h) (by rfl) (fun w hSw=>by go_simp) hHeld ?_
    simp only [Act.put,sI0,sI1,sI2]
    refine ag 15 20 (.bool true) (fuel:=19) rfl rfl (by kernel_rfl) (fun _ _ _ h=>h) (by rfl) (fun w hSw=>by go_simp) hHeld ?_
    simp only [Act.put,sI0,sI1,sI2]
    refine ag 16 21 (.bool true) (fuel:=18) rfl rfl (by kernel_rfl) (fun _ _ _ h=>h) (by rfl) (fun w hSw=>by go_simp) hHeld ?_
    simp only [Act.put,sI0,sI1,sI2]
    refine ag 17 22 (.pointer (some ⟨w.heap.size,4,none⟩)) (fuel:=17) rfl rfl (by kernel_rfl) (fun _ _ _ h=>h) (by rfl) (fun w hSw=>by go_simp) hHeld ?_
    simp only [Act.put,sI0,sI1,sI2]
    refine ag 18 23 (.slice a4 n4 c4) (fuel:=16) rfl rfl (by kernel_rfl) (fun _ _ _ h=>h) (by rfl) (fun w hSw=>by have m:=hSw.2.1.cell (j:=4) (u:=.slice a4 n4 c4) rfl;go_simp) hHeld ?_
    simp only [Act.put,sI0,sI1,sI2]
    refine aX 19 24 (.agg #[.int .i64 su,.int .i64 iu,.slice b2 m2 d2,.slice b3 m3 d3,.slice b4 m4 d4,.slice b5 m5 d5]) (fuel:=15) rfl rfl (by kernel_rfl) (fun _ _ _ h=>h) (yieldsIf_load_mid (by rfl) _ _ rfl (w.heap.size+1) 0 rfl (iaC su iu b2 m2 d2 b3 m3 d3 b4 m4 d4 b5 m5 d5).toList _ (fun w hw=>hw.2.2.range) Tryz.underlying27 rfl (by kernel_rfl)) hHeld ?_
    simp only [Act.put,sI0,sI1,sI2]
    refine wpAnyH_ready (rs:=[20]) (fuel:=14) (by kernel_rfl) (by simp) ?_
    refine AllReadyH.cons rfl (fun K hK=>?_) AllReadyH.nil
    go_simp
    refine (CB.out _ hHeld).mono ?_
    rintro e w3 ⟨ad3,n3x,cc3,rfl,hr3,hn3,hS⟩
    go_wp2_with fail
    refine hK.out _ _ hS (fun hHeld=>?_)
    clear hK K
    refine wpAnyH_ready (rs:=[21]) (fuel:=13) (by kernel_rfl) (by simp) ?_
    refine AllReadyH.cons rfl (fun K hK=>?_) AllReadyH.nil
    go_simp
    refine (M3.out _ _ _ _ hr3 hn3 hHeld).mono ?_
    rintro e w4 ⟨ad4,cc4,rfl,hS⟩
    clear hr3
    go_wp2_with fail
    refine hK.out _ _ hS (fun hHeld=>?_)
    clear hK K
    refine ag 22 27 (.int .i64 ((x3:Nat):Int)) (fuel:=12) rfl rfl (by kernel_rfl) (fun _ _ _ h=>h) (by rfl) (fun w hSw=>by go_simp) hHeld ?_
    simp only [Act.put,sI0,sI1,sI2]
    refine ag 23 28 (.bool false) (fuel:=11) rfl rfl (by kernel_rfl) (fun _ _ _ h=>h) (by rfl) (fun w hSw=>by go_simp) hHeld ?_
    simp only [Act.put,sI0,sI1,sI2]
    refine ag 24 29 (.bool false) (fuel:=10) rfl rfl (by kernel_rfl) (fun _ _ _ h=>h) (by rfl) (fun w hSw=>by go_simp) hHeld ?_
    simp only [Act.put,sI0,sI1,sI2]
    refine ag 25 30 (.bool false) (fuel:=9) rfl rfl (by kernel_rfl) (fun _ _ _ h=>h) (by rfl) (fun w hSw=>by go_simp) hHeld ?_
    simp only [Act.put,sI0,sI1,sI2]
    refine aS 26 31 (fuel:=8) rfl rfl (by kernel_rfl) (fun _ _ _ h=>h) (by rfl) hHeld ?_
    simp only [Act.put,sI0,sI1,sI2]
    refine aS 27 32 (fuel:=7) rfl rfl (by kernel_rfl) (fun _ _ _ h=>h) (by rfl) hHeld ?_
    simp only [Act.put,sI0,sI1,sI2]
    refine aS 28 33 (fuel:=6) rfl rfl (by kernel_rfl) (fun _ _ _ h=>h) (by rfl) hHeld ?_
    simp only [Act.put,sI0,sI1,sI2]
    refine aS 29 34 (fuel:=5) rfl rfl (by kernel_rfl) (fun _ _ _ h=>h) (by rfl) hHeld ?_
    simp only [Act.put,sI0,sI1,sI2]
    refine aS 30 35 (fuel:=4) rfl rfl (by kernel_rfl) (fun _ _ _ h=>h) (by rfl) hHeld ?_
    simp only [Act.put,sI0,sI1,sI2]
    refine aS 31 36 (fuel:=3) rfl rfl (by kernel_rfl) (fun _ _ _ h=>h) (by rfl) hHeld ?_
    simp only [Act.put,sI0,sI1,sI2]
    refine aS 32 37 (fuel:=2) rfl rfl (by kernel_rfl) (fun _ _ _ h=>h) (by rfl) hHeld ?_
    simp only [Act.put,sI0,sI1,sI2]
    refine ag 33 38 (.bool false) (fuel:=1) rfl rfl (by kernel_rfl) (fun _ _ _ h=>h) (by rfl) (fun w hSw=>by go_simp) hHeld ?_
    simp only [Act.put,sI0,sI1,sI2]
    refine ag 34 4 (.bool false) (fuel:=0) rfl rfl (by kernel_rfl) (fun _ _ _ h=>h) (by rfl) (fun w hSw=>by go_simp) hHeld ?_
    simp only [Act.put,sI0,sI1,sI2]
    refine wpAnyH_done (by kernel_rfl) ?_ _
    go_wp2_with fail
    go_ret
    exact ⟨aH (by rw [HR.out,decide_eq_false HZ.out];try simp),hHeld.1⟩
  ·have hd:(((x2:Nat):Int) == 0)=false:=by simp;omega
   have HZ:=Lib.hid hz
   clear hz
   refine wp_region_held_drew (S:=fun w'=>aI w w' w.heap.size (w.heap.size+1) 27 (iaC st it a2 n2 c2 a3 n3 c3 a4 n4 c4 a5 n5 c5) (iaC su iu b2 m2 d2 b3 m3 d3 b4 m4 d4 b5 m5 d5)) (by kernel_rfl) SD (fun hHeld=>?_)
   change wpAnyH _ _ _ _ _ 35 (Array.replicate 35 false) _ _
   refine ag 0 5 (.pointer (some ⟨w.heap.size,2,none⟩)) (fuel:=34) rfl rfl (by kernel_rfl) (fun _ _ _ h=>h) (by rfl) (fun w hSw=>by go_simp) hHeld ?_
   simp only [Act.put,sI0,sI1,sI2]
   refine ag 1 6 (.slice a2 n2 c2) (fuel:=33) rfl rfl (by kernel_rfl) (fun _ _ _ h=>h) (by rfl) (fun w hSw=>by have m:=hSw.2.1.cell (j:=2) (u:=.slice a2 n2 c2) rfl;go_simp) hHeld ?_
   simp only [Act.put,sI0,sI1,sI2]
   refine ag 2 7 (.pointer (some ⟨w.heap.size+1,2,none⟩)) (fuel:=32) rfl rfl (by kernel_rfl) (fun _ _ _ h=>h) (by rfl) (fun w hSw=>by go_simp) hHeld ?_
   simp only [Act.put,sI0,sI1,sI2]
   refine ag 3 8 (.slice b2 m2 d2) (fuel:=31) rfl rfl (by kernel_rfl) (fun _ _ _ h=>h) (by rfl) (fun w hSw=>by have m:=hSw.2.2.cell (j:=2) (u:=.slice b2 m2 d2) rfl;go_simp) hHeld ?_
   simp only [Act.put,sI0,sI1,sI2]
   refine wpAnyH_ready (rs:=[4]) (fuel:=30) (by kernel_rfl) (by simp) ?_
   refine AllReadyH.cons rfl (fun K hK=>?_) AllReadyH.nil
   go_simp
   refine (M1.out _ hHeld).mono ?_
   rintro e w1 ⟨ad1,cc1,rfl,hS⟩
   go_wp2_with fail
   refine hK.out _ _ hS (fun hHeld=>?_)
   clear hK K
   refine ag 5 10 (.int .i64 0) (fuel:=29) rfl rfl (by kernel_rfl) (fun _ _ _ h=>h) (by rfl) (fun w hSw=>by go_simp) hHeld ?_
   simp only [Act.put,sI0,sI1,sI2]
   refine ag 6 11 (.bool true) (fuel:=28) rfl rfl (by kernel_rfl) (fun _ _ _ h=>h) (by rfl) (fun w hSw=>by go_simp) hHeld ?_
   simp only [Act.put,sI0,sI1,sI2]
   refine ag 7 12 (.bool true) (fuel:=27) rfl rfl (by kernel_rfl) (fun _ _ _ h=>h) (by rfl) (fun w hSw=>by go_simp) hHeld ?_
   simp only [Act.put,sI0,sI1,sI2]
   refine ag 8 13 (.pointer (some ⟨w.heap.size,3,none⟩)) (fuel:=26) rfl rfl (by kernel_rfl) (fun _ _ _ h=>h) (by rfl) (fun w hSw=>by go_simp) hHeld ?_
   simp only [Act.put,sI0,sI1,sI2]
   refine ag 9 14 (.slice a3 n3 c3) (fuel:=25) rfl rfl (by kernel_rfl) (fun _ _ _ h=>h) (by rfl) (fun w hSw=>by have m:=hSw.2.1.cell (j:=3) (u:=.slice a3 n3 c3) rfl;go_simp) hHeld ?_
   simp only [Act.put,sI0,sI1,sI2]
   refine ag 10 15 (.pointer (some ⟨w.heap.size+1,3,none⟩)) (fuel:=24) rfl rfl (by kernel_rfl) (fun _ _ _ h=>h) (by rfl) (fun w hSw=>by go_simp) hHeld ?_
   simp only [Act.put,sI0,sI1,sI2]
   refine ag 11 16 (.slice b3 m3 d3) (fuel:=23) rfl rfl (by kernel_rfl) (fun _ _ _ h=>h) (by rfl) (fun w hSw=>by have m:=hSw.2.2.cell (j:=3) (u:=.slice b3 m3 d3) rfl;go_simp) hHeld ?_
   simp only [Act.put,sI0,sI1,sI2]
   refine wpAnyH_ready (rs:=[12]) (fuel:=22) (by kernel_rfl) (by simp) ?_
   refine AllReadyH.cons rfl (fun K hK=>?_) AllReadyH.nil
   go_simp
   refine (M2.out _ hHeld).mono ?_
   rintro e w2 ⟨ad2,cc2,rfl,hS⟩
   go_wp2_with fail
   refine hK.out _ _ hS (fun hHeld=>?_)
   clear hK K
   refine ag 13 18 (.int .i64 ((x2:Nat):Int)) (fuel:=21) rfl rfl (by kernel_rfl) (fun _ _ _ h=>h) (by rfl) (fun w hSw=>by go_simp) hHeld ?_
   simp only [Act.put,sI0,sI1,sI2]
   refine ag 14 19 (.bool false) (fuel:=20) rfl rfl (by kernel_rfl) (fun _ _ _ h=>h) (by rfl) (fun w hSw=>by go_simp) hHeld ?_
   simp only [Act.put,sI0,sI1,sI2]
   refine ag 15 20 (.bool false) (fuel:=19) rfl rfl (by kernel_rfl) (fun _ _ _ h=>h) (by rfl) (fun w hSw=>by go_simp) hHeld ?_
   simp only [Act.put,sI0,sI1,sI2]
   refine ag 16 21 (.bool false) (fuel:=18) rfl rfl (by kernel_rfl) (fun _ _ _ h=>h) (by rfl) (fun w hSw=>by go_simp) hHeld ?_
   simp only [Act.put,sI0,sI1,sI2]
   refine aS 17 22 (fuel:=17) rfl rfl (by kernel_rfl) (fun _ _ _ h=>h) (by rfl) hHeld ?_
   simp only [Act.put,sI0,sI1,sI2]
   refine aS 18 23 (fuel:=16) rfl rfl (by kernel_rfl) (fun _ _ _ h=>h) (by rfl) hHeld ?_
   simp only [Act.put,sI0,sI1,sI2]
   refine aS 19 24 (fuel:=15) rfl rfl (by kernel_rfl) (fun _ _ _ h=>h) (by rfl) hHeld ?_
   simp only [Act.put,sI0,sI1,sI2]
   refine aS 20 25 (fuel:=14) rfl rfl (by kernel_rfl) (fun _ _ _ h=>h) (by rfl) hHeld ?_
   simp only [Act.put,sI0,sI1,sI2]
   refine aS 21 26 (fuel:=13) rfl rfl (by kernel_rfl) (fun _ _ _ h=>h) (by rfl) hHeld ?_
   simp only [Act.put,sI0,sI1,sI2]
   refine aS 22 27 (fuel:=12) rfl rfl (by kernel_rfl) (fun _ _ _ h=>h) (by rfl) hHeld ?_
   simp only [Act.put,sI0,sI1,sI2]
   refine aS 23 28 (fuel:=11) rfl rfl (by kernel_rfl) (fun _ _ _ h=>h) (by rfl) hHeld ?_
   simp only [Act.put,sI0,sI1,sI2]
   refine ag 24 29 (.bool false) (fuel:=10) rfl rfl (by kernel_rfl) (fun _ _ _ h=>h) (by rfl) (fun w hSw=>by go_simp) hHeld ?_
   simp only [Act.put,sI0,sI1,sI2]
   refine ag 25 30 (.bool false) (fuel:=9) rfl rfl (by kernel_rfl) (fun _ _ _ h=>h) (by rfl) (fun w hSw=>by go_simp) hHeld ?_
   simp only [Act.put,sI0,sI1,sI2]
   refine aS 26 31 (fuel:=8) rfl rfl (by kernel_rfl) (fun _ _ _ h=>h) (by rfl) hHeld ?_
   simp only [Act.put,sI0,sI1,sI2]
   refine aS 27 32 (fuel:=7) rfl rfl (by kernel_rfl) (fun _ _ _ h=>h) (by rfl) hHeld ?_
   simp only [Act.put,sI0,sI1,sI2]
   refine aS 28 33 (fuel:=6) rfl rfl (by kernel_rfl) (fun _ _ _ h=>h) (by rfl) hHeld ?_
   simp only [Act.put,sI0,sI1,sI2]
   refine aS 29 34 (fuel:=5) rfl rfl (by kernel_rfl) (fun _ _ _ h=>h) (by rfl) hHeld ?_
   simp only [Act.put,sI0,sI1,sI2]
   refine aS 30 35 (fuel:=4) rfl rfl (by kernel_rfl) (fun _ _ _ h=>h) (by rfl) hHeld ?_
   simp only [Act.put,sI0,sI1,sI2]
   refine aS 31 36 (fuel:=3) rfl rfl (by kernel_rfl) (fun _ _ _ h=>h) (by rfl) hHeld ?_
   simp only [Act.put,sI0,sI1,sI2]
   refine aS 32 37 (fuel:=2) rfl rfl (by kernel_rfl) (fun _ _ _ h=>h) (by rfl) hHeld ?_
   simp only [Act.put,sI0,sI1,sI2]
   refine ag 33 38 (.bool false) (fuel:=1) rfl rfl (by kernel_rfl) (fun _ _ _ h=>h) (by rfl) (fun w hSw=>by go_simp) hHeld ?_
   simp only [Act.put,sI0,sI1,sI2]
   refine ag 34 4 (.bool false) (fuel:=0) rfl rfl (by kernel_rfl) (fun _ _ _ h=>h) (by rfl) (fun w hSw=>by go_simp) hHeld ?_
   simp only [Act.put,sI0,sI1,sI2]
   refine wpAnyH_done (by kernel_rfl) ?_ _
   go_wp2_with fail
   go_ret
   exact ⟨aH (by rw [HR.out,decide_eq_false HZ.out];try simp),hHeld.1⟩
 ·have hd:(((x1:Nat):Int) == 0)=false:=by simp;omega
  have HZ:=Lib.hid hz
  clear hz
  refine wp_region_held_drew (S:=fun w'=>aI w w' w.heap.size (w.heap.size+1) 27 (iaC st it a2 n2 c2 a3 n3 c3 a4 n4 c4 a5 n5 c5) (iaC su iu b2 m2 d2 b3 m3 d3 b4 m4 d4 b5 m5 d5)) (by kernel_rfl) SD (fun hHeld=>?_)
  change wpAnyH _ _ _ _ _ 35 (Array.replicate 35 false) _ _
  refine ag 0 5 (.pointer (some ⟨w.heap.size,2,none⟩)) (fuel:=34) rfl rfl (by kernel_rfl) (fun _ _ _ h=>h) (by rfl) (fun w hSw=>by go_simp) hHeld ?_
  simp only [Act.put,sI0,sI1,sI2]
  refine ag 1 6 (.slice a2 n2 c2) (fuel:=33) rfl rfl (by kernel_rfl) (fun _ _ _ h=>h) (by rfl) (fun w hSw=>by have m:=hSw.2.1.cell (j:=2) (u:=.slice a2 n2 c2) rfl;go_simp) hHeld ?_
  simp only [Act.put,sI0,sI1,sI2]
  refine ag 2 7 (.pointer (some ⟨w.heap.size+1,2,none⟩)) (fuel:=32) rfl rfl (by kernel_rfl) (fun _ _ _ h=>h) (by rfl) (fun w hSw=>by go_simp) hHeld ?_
  simp only [Act.put,sI0,sI1,sI2]
  refine ag 3 8 (.slice b2 m2 d2) (fuel:=31) rfl rfl (by kernel_rfl) (fun _ _ _ h=>h) (by rfl) (fun w hSw=>by have m:=hSw.2.2.cell (j:=2) (u:=.slice b2 m2 d2) rfl;go_simp) hHeld ?_
  simp only [Act.put,sI0,sI1,sI2]
  refine wpAnyH_ready (rs:=[4]) (fuel:=30) (by kernel_rfl) (by simp) ?_
  refine AllReadyH.cons rfl (fun K hK=>?_) AllReadyH.nil
  go_simp
  refine (M1.out _ hHeld).mono ?_
  rintro e w1 ⟨ad1,cc1,rfl,hS⟩
  go_wp2_with fail
  refine hK.out _ _ hS (fun hHeld=>?_)
  clear hK K
  refine ag 5 10 (.int .i64 ((x1:Nat):Int)) (fuel:=29) rfl rfl (by kernel_rfl) (fun _ _ _ h=>h) (by rfl) (fun w hSw=>by go_simp) hHeld ?_
  simp only [Act.put,sI0,sI1,sI2]
  refine ag 6 11 (.bool false) (fuel:=28) rfl rfl (by kernel_rfl) (fun _ _ _ h=>h) (by rfl) (fun w hSw=>by go_simp) hHeld ?_
  simp only [Act.put,sI0,sI1,sI2]
  refine ag 7 12 (.bool false) (fuel:=27) rfl rfl (by kernel_rfl) (fun _ _ _ h=>h) (by rfl) (fun w hSw=>by go_simp) hHeld ?_
  simp only [Act.put,sI0,sI1,sI2]
  refine aS 8 13 (fuel:=26) rfl rfl (by kernel_rfl) (fun _ _ _ h=>h) (by rfl) hHeld ?_
  simp only [Act.put,sI0,sI1,sI2]
  refine aS 9 14 (fuel:=25) rfl rfl (by kernel_rfl) (fun _ _ _ h=>h) (by rfl) hHeld ?_
  simp only [Act.put,sI0,sI1,sI2]
  refine aS 10 15 (fuel:=24) rfl rfl (by kernel_rfl) (fun _ _ _ h=>h) (by rfl) hHeld ?_
  simp only [Act.put,sI0,sI1,sI2]
  refine aS 11 16 (fuel:=23) rfl rfl (by kernel_rfl) (fun _ _ _ h=>h) (by rfl) hHeld ?_
  simp only [Act.put,sI0,sI1,sI2]
  refine aS 12 17 (fuel:=22) rfl rfl (by kernel_rfl) (fun _ _ _ h=>h) (by rfl) hHeld ?_
  simp only [Act.put,sI0,sI1,sI2]
  refine aS 13 18 (fuel:=21) rfl rfl (by kernel_rfl) (fun _ _ _ h=>h) (by rfl) hHeld ?_
  simp only [Act.put,sI0,sI1,sI2]
  refine aS 14 19 (fuel:=20) rfl rfl (by kernel_rfl) (fun _ _ _ h=>h) (by rfl) hHeld ?_
  simp only [Act.put,sI0,sI1,sI2]
  refine ag 15 20 (.bool false) (fuel:=19) rfl rfl (by kernel_rfl) (fun _ _ _ h=>h) (by rfl) (fun w hSw=>by go_simp) hHeld ?_
  simp only [Act.put,sI0,sI1,sI2]
  refine ag 16 21 (.bool false) (fuel:=18) rfl rfl (by kernel_rfl) (fun _ _ _ h=>h) (by rfl) (fun w hSw=>by go_simp) hHeld ?_
  simp only [Act.put,sI0,sI1,sI2]
  refine aS 17 22 (fuel:=17) rfl rfl (by kernel_rfl) (fun _ _ _ h=>h) (by rfl) hHeld ?_
  simp only [Act.put,sI0,sI1,sI2]
  refine aS 18 23 (fuel:=16) rfl rfl (by kernel_rfl) (fun _ _ _ h=>h) (by rfl) hHeld ?_
  simp only [Act.put,sI0,sI1,sI2]
  refine aS 19 24 (fuel:=15) rfl rfl (by kernel_rfl) (fun _ _ _ h=>h) (by rfl) hHeld ?_
  simp only [Act.put,sI0,sI1,sI2]
  refine aS 20 25 (fuel:=14) rfl rfl (by kernel_rfl) (fun _ _ _ h=>h) (by rfl) hHeld ?_
  simp only [Act.put,sI0,sI1,sI2]
  refine aS 21 26 (fuel:=13) rfl rfl (by kernel_rfl) (fun _ _ _ h=>h) (by rfl) hHeld ?_
  simp only [Act.put,sI0,sI1,sI2]
  refine aS 22 27 (fuel:=12) rfl rfl (by kernel_rfl) (fun _ _ _ h=>h) (by rfl) hHeld ?_
  simp only [Act.put,sI0,sI1,sI2]
  refine aS 23 28 (fuel:=11) rfl rfl (by kernel_rfl) (fun _ _ _ h=>h) (by rfl) hHeld ?_
  simp only [Act.put,sI0,sI1,sI2]
  refine ag 24 29 (.bool false) (fuel:=10) rfl rfl (by kernel_rfl) (fun _ _ _ h=>h) (by rfl) (fun w hSw=>by go_simp) hHeld ?_
  simp only [Act.put,sI0,sI1,sI2]
  refine ag 25 30 (.bool false) (fuel:=9) rfl rfl (by kernel_rfl) (fun _ _ _ h=>h) (by rfl) (fun w hSw=>by go_simp) hHeld ?_
  simp only [Act.put,sI0,sI1,sI2]
  refine aS 26 31 (fuel:=8) rfl rfl (by kernel_rfl) (fun _ _ _ h=>h) (by rfl) hHeld ?_
  simp only [Act.put,sI0,sI1,sI2]
  refine aS 27 32 (fuel:=7) rfl rfl (by kernel_rfl) (fun _ _ _ h=>h) (by rfl) hHeld ?_
  simp only [Act.put,sI0,sI1,sI2]
  refine aS 28 33 (fuel:=6) rfl rfl (by kernel_rfl) (fun _ _ _ h=>h) (by rfl) hHeld ?_
  simp only [Act.put,sI0,sI1,sI2]
  refine aS 29 34 (fuel:=5) rfl rfl (by kernel_rfl) (fun _ _ _ h=>h) (by rfl) hHeld ?_
  simp only [Act.put,sI0,sI1,sI2]
  refine aS 30 35 (fuel:=4) rfl rfl (by kernel_rfl) (fun _ _ _ h=>h) (by rfl) hHeld ?_
  simp only [Act.put,sI0,sI1,sI2]
  refine aS 31 36 (fuel:=3) rfl rfl (by kernel_rfl) (fun _ _ _ h=>h) (by rfl) hHeld ?_
  simp only [Act.put,sI0,sI1,sI2]
  refine aS 32 37 (fuel:=2) rfl rfl (by kernel_rfl) (fun _ _ _ h=>h) (by rfl) hHeld ?_
  simp only [Act.put,sI0,sI1,sI2]
  refine ag 33 38 (.bool false) (fuel:=1) rfl rfl (by kernel_rfl) (fun _ _ _ h=>h) (by rfl) (fun w hSw=>by go_simp) hHeld ?_
  simp only [Act.put,sI0,sI1,sI2]
  refine ag 34 4 (.bool false) (fuel:=0) rfl rfl (by kernel_rfl) (fun _ _ _ h=>h) (by rfl) (fun w hSw=>by go_simp) hHeld ?_
  simp only [Act.put,sI0,sI1,sI2]
  refine wpAnyH_done (by kernel_rfl) ?_ _
  go_wp2_with fail
  go_ret
  exact ⟨aH (by rw [HR.out,decide_eq_false HZ.out];try simp),hHeld.1⟩
theorem Fz (a b:IaD) (v u:Value) (w:World) (h:aB w a v) (k:aB w b u) (fa:Small a) (fb:Small b) :
  Calls Tryz.prog 59 #[v,u] w fun e w'=>e=.returned (.bool (iH a b))∧Below w.heap.size w w':=by
 have CO:Hid (∀ W,Below w.heap.size w W→Calls Tryz.prog 110 #[v] W fun e w'=>e=.returned (.bool (aJ a))∧Below W.heap.size W w'):=fun W hW=>mV a v W (h.below hW) fa.1 fa.2.1 fa.2.2.1 fa.2.2.2
 have CP:Hid (∀ W,Below w.heap.size w W→Calls Tryz.prog 110 #[u] W fun e w'=>e=.returned (.bool (aJ b))∧Below W.heap.size W w'):=fun W hW=>mV b u W (k.below hW) fb.1 fb.2.1 fb.2.2.1 fb.2.2.2
 have CF:Hid (∀ W,Below w.heap.size w W→aJ a=true→aJ b=true→Calls Tryz.prog 111 #[v,u] W fun e w'=>e=.returned (.bool (je a b))∧Below W.heap.size W w'):=fun W hW oka okb=>Fv a b v u W (h.below hW) (k.below hW) fa fb oka okb
 obtain ⟨q1,hq1⟩:∃ q,q=aJ a:=⟨_,rfl⟩
 obtain ⟨q2,hq2⟩:∃ q,q=aJ b:=⟨_,rfl⟩
 obtain ⟨q3,hq3⟩:∃ q,q=je a b:=⟨_,rfl⟩
 obtain ⟨r,hr⟩:∃ r,r=iH a b:=⟨_,rfl⟩
 rw [← hr]
 have HR:Hid (r=(q1&&q2&&q3&&decide (a.states*b.states≤40))):=by
  unfold Hid
  rw [hr,hq1,hq2,hq3]
  rfl
 have HQ1:Hid (q1=true→aJ a=true):=fun e=>by rw [← hq1];exact e
 have HQ2:Hid (q2=true→aJ b=true):=fun e=>by rw [← hq2];exact e
 rw [← hq1] at CO
 rw [← hq2] at CP
 rw [← hq3] at CF
 clear hq1 hq2 hq3 hr
 obtain ⟨a2,n2,c2,a3,n3,c3,a4,n4,c4,a5,n5,c5,rfl,r2,r3,r4,r5⟩:=h
 obtain ⟨b2,m2,d2,b3,m3,d3,b4,m4,d4,b5,m5,d5,rfl,p2,p3,p4,p5⟩:=k
 obtain ⟨st,it,ins,outs,ah,steps⟩:=a
 obtain ⟨su,iu,jns,aF,aG,ax⟩:=b
 obtain ⟨f2,f3,f4,f5⟩:=fa
 obtain ⟨g2,g3,g4,g5⟩:=fb
 simp only at r2 r3 r4 r5 p2 p3 p4 p5 f2 f3 f4 f5 g2 g3 g4 g5
 have HA:Hid (∀ W,Below w.heap.size w W→aB W ⟨st,it,ins,outs,ah,steps⟩ (.agg #[.int .i64 st,.int .i64 it,.slice a2 n2 c2,.slice a3 n3 c3,.slice a4 n4 c4,.slice a5 n5 c5])):=fun W hW=>aB.below ⟨a2,n2,c2,a3,n3,c3,a4,n4,c4,a5,n5,c5,rfl,r2,r3,r4,r5⟩ hW
 have HB:Hid (∀ W,Below w.heap.size w W→aB W ⟨su,iu,jns,aF,aG,ax⟩ (.agg #[.int .i64 su,.int .i64 iu,.slice b2 m2 d2,.slice b3 m3 d3,.slice b4 m4 d4,.slice b5 m5 d5])):=fun W hW=>aB.below ⟨b2,m2,d2,b3,m3,d3,b4,m4,d4,b5,m5,d5,rfl,p2,p3,p4,p5⟩ hW
 have S0:=Lib.hid (aI.start w (iaC st it a2 n2 c2 a3 n3 c3 a4 n4 c4 a5 n5 c5) (iaC su iu b2 m2 d2 b3 m3 d3 b4 m4 d4 b5 m5 d5) 27)
 clear HA HB r2 r3 r4 r5 p2 p3 p4 p5 f2 f3 f4 f5 g2 g3 g4 g5
 obtain ⟨ca0,ca1,ca2,ca3,ca4,ca5⟩:=S0.out.2.1.aO
 go_enter Tryz.func59,Tryz.ntmps59
 go_wp2_with fail
 clear ca0 ca1 ca2 ca3 ca4 ca5
 refine (CO.out _ S0.out.1).mono ?_
 rintro e w1 ⟨rfl,hb⟩
 have S1:=Lib.hid (S0.out.below hb)
 clear hb S0
 cases q1 with
 | false =>
  go_wp2_with fail
  go_ret
  exact ⟨aH (by rw [HR.out];rfl),S1.out.1⟩
 | true =>
  obtain ⟨cb0,cb1,cb2,cb3,cb4,cb5⟩:=S1.out.2.2.aO
  go_wp2_with fail
  clear cb0 cb1 cb2 cb3 cb4 cb5
  refine (CP.out _ S1.out.1).mono ?_
  rintro e w2 ⟨rfl,hb⟩
  have S2:=Lib.hid (S1.out.below hb)
  clear hb S1
  cases q2 with
  | false =>
   go_wp2_with fail
   go_ret
   exact ⟨aH (by rw [HR.out];rfl),S2.out.1⟩
  | true =>
   have oka:=HQ1.out (by simp)
   have okb:=HQ2.out (by simp)
   have b1:=aN oka
   have b2x:=aN okb
   simp only at b1 b2x
   obtain ⟨u1,u2⟩:=rq b1 b2x
   obtain ⟨ca0,ca1,ca2,ca3,ca4,ca5⟩:=S2.out.2.1.aO
   obtain ⟨cb0,cb1,cb2,cb3,cb4,cb5⟩:=S2.out.2.2.aO
   go_wp2_with fail
   clear ca0 ca1 ca2 ca3 ca4 ca5 cb0 cb1 cb2 cb3 cb4 cb5
   refine (CF.out _ S2.out.1 oka okb).mono ?_
   rintro e w3 ⟨rfl,hb⟩
   have S3:=Lib.hid (S2.out.below hb)
   clear hb S2
   cases q3 with
   | false =>
    go_wp2_with fail
    go_ret
    exact ⟨aH (by rw [HR.out];rfl),S3.out.1⟩
   | true =>
    have m0:=S3.out.2.1.cell (j:=0) (u:=.int .i64 st) rfl
    have k0:=S3.out.2.2.cell (j:=0) (u:=.int .i64 su) rfl
    have hw:IntKind.i64.wrap (st*su)=st*su:=Go.IntWalk.i64_in _ (by omega)
    have HR2:Hid (r=decide (st*su≤40)):=by
     have:=HR.out
     simpa [Hid] using this
    go_wp2_with fail
    go_ret
    exact ⟨aH HR2.out.symm,S3.out.1⟩
theorem vg (a b:IaD) (v u:Value) (w:World) (h:aB w a v) (k:aB w b u) (fa:Small a) (fb:Small b) :
  Calls Tryz.prog 101 #[v,u] w fun e w'=>e=.returned (.bool (iH a b))∧Below w.heap.size w w':=by
 have CO:Hid (∀ W,Below w.heap.size w W→Calls Tryz.prog 126 #[v] W fun e w'=>e=.returned (.bool (aJ a))∧Below W.heap.size W w'):=fun W hW=>mQ a v W (h.below hW) fa.1 fa.2.1 fa.2.2.1 fa.2.2.2
 have CP:Hid (∀ W,Below w.heap.size w W→Calls Tryz.prog 126 #[u] W fun e w'=>e=.returned (.bool (aJ b))∧Below W.heap.size W w'):=fun W hW=>mQ b u W (k.below hW) fb.1 fb.2.1 fb.2.2.1 fb.2.2.2
 obtain ⟨y1,hy1⟩:∃ q,q=aJ a:=⟨_,rfl⟩
 obtain ⟨y2,hy2⟩:∃ q,q=aJ b:=⟨_,rfl⟩
 obtain ⟨r,hr⟩:∃ r,r=iH a b:=⟨_,rfl⟩
 rw [← hr]
 have HR:Hid (r=(y1&&y2&&je a b&&decide (a.states*b.states≤40))):=by
  unfold Hid
  rw [hr,hy1,hy2]
  rfl
 have HQ1:Hid (y1=true→aJ a=true):=fun e=>by rw [← hy1];exact e
 have HQ2:Hid (y2=true→aJ b=true):=fun e=>by rw [← hy2];exact e
 rw [← hy1] at CO
 rw [← hy2] at CP
 clear hy1 hy2 hr
 obtain ⟨a2,n2,c2,a3,n3,c3,a4,n4,c4,a5,n5,c5,rfl,r2,r3,r4,r5⟩:=h
 obtain ⟨b2,m2,d2,b3,m3,d3,b4,m4,d4,b5,m5,d5,rfl,q2,q3,q4,q5⟩:=k
 obtain ⟨st,it,ins,outs,ah,steps⟩:=a
 obtain ⟨su,iu,jns,aF,aG,ax⟩:=b
 obtain ⟨f2,f3,f4,f5⟩:=fa
 obtain ⟨g2,g3,g4,g5⟩:=fb
 simp only at r2 r3 r4 r5 q2 q3 q4 q5 f2 f3 f4 f5 g2 g3 g4 g5
 have HA:Hid (∀ W,Below w.heap.size w W→aB W ⟨st,it,ins,outs,ah,steps⟩ (.agg #[.int .i64 st,.int .i64 it,.slice a2 n2 c2,.slice a3 n3 c3,.slice a4 n4 c4,.slice a5 n5 c5])):=fun W hW=>aB.below ⟨a2,n2,c2,a3,n3,c3,a4,n4,c4,a5,n5,c5,rfl,r2,r3,r4,r5⟩ hW
 have HB:Hid (∀ W,Below w.heap.size w W→aB W ⟨su,iu,jns,aF,aG,ax⟩ (.agg #[.int .i64 su,.int .i64 iu,.slice b2 m2 d2,.slice b3 m3 d3,.slice b4 m4 d4,.slice b5 m5 d5])):=fun W hW=>aB.below ⟨b2,m2,d2,b3,m3,d3,b4,m4,d4,b5,m5,d5,rfl,q2,q3,q4,q5⟩ hW
 have S0:=Lib.hid (aI.start w (iaC st it a2 n2 c2 a3 n3 c3 a4 n4 c4 a5 n5 c5) (iaC su iu b2 m2 d2 b3 m3 d3 b4 m4 d4 b5 m5 d5) 27)
 have e2:=r2.1
 have e3:=r3.1
 have e4:=r4.1
 have k2:=q2.1
 have k3:=q3.1
 have k4:=q4.1
 rw [e2] at f2
 rw [e3] at f3
 rw [e4] at f4
 rw [k2] at g2
 rw [k3] at g3
 rw [k4] at g4
 have R2:=Lib.hid r2
 have R3:=Lib.hid r3
 have R4:=Lib.hid r4
 have R5:=Lib.hid r5
 have Q2:=Lib.hid q2
 have Q3:=Lib.hid q3
 have Q4:=Lib.hid q4
 have Q5:=Lib.hid q5
 clear r2 r3 r4 r5 q2 q3 q4 q5
 obtain ⟨ca0,ca1,ca2,ca3,ca4,ca5⟩:=S0.out.2.1.aO
 go_enter Tryz.func101,Tryz.ntmps101
 go_wp2_with fail
 clear ca0 ca1 ca2 ca3 ca4 ca5
 refine (CO.out _ S0.out.1).mono ?_
 rintro e w1 ⟨rfl,hb⟩
 have S1:=Lib.hid (S0.out.below hb)
 clear hb S0
 cases y1 with
 | false =>
  go_wp2_with fail
  go_ret
  exact ⟨aH (by rw [HR.out];rfl),S1.out.1⟩
 | true =>
  obtain ⟨cb0,cb1,cb2,cb3,cb4,cb5⟩:=S1.out.2.2.aO
  go_wp2_with fail
  clear cb0 cb1 cb2 cb3 cb4 cb5
  refine (CP.out _ S1.out.1).mono ?_
  rintro e w2 ⟨rfl,hb⟩
  have S2:=Lib.hid (S1.out.below hb)
  clear hb S1
  cases y2 with
  | false =>
   go_wp2_with fail
   go_ret
   exact ⟨aH (by rw [HR.out];rfl),S2.out.1⟩
  | true =>
   have oka:=HQ1.out (by simp)
   have okb:=HQ2.out (by simp)
   have b1:=aN oka
   have b2x:=aN okb
   simp only at b1 b2x
   obtain ⟨u1,u2⟩:=rq b1 b2x
   have m0:=S2.out.2.1.cell (j:=0) (u:=.int .i64 st) rfl
   have l0:=S2.out.2.2.cell (j:=0) (u:=.int .i64 su) rfl
   have hw:IntKind.i64.wrap (st*su)=st*su:=Go.IntWalk.i64_in _ (by omega)
   have HR1:Hid (r=(je ⟨st,it,ins,outs,ah,steps⟩ ⟨su,iu,jns,aF,aG,ax⟩&&decide (st*su≤40))):=by
    have:=HR.out
    simpa [Hid] using this
   by_cases hbig:st*su≤40
   ·have hng:¬ 40<st*su:=by omega
    have HR3:Hid (r=je ⟨st,it,ins,outs,ah,steps⟩ ⟨su,iu,jns,aF,aG,ax⟩):=by
     have:=HR1.out
     rw [decide_eq_true hbig,Bool.and_true] at this
     exact this
    clear HR HR1
    go_wp2_with fail
    clear m0 l0 hw
    have SD:=S2.out.drew
    clear S2
    have GG:(aV ⟨su,iu,jns,aF,aG,ax⟩:List Int).length≤2097152:=by
     have h1:(aV ⟨su,iu,jns,aF,aG,ax⟩).length≤12:=tC okb
     omega
    have GH:(aV ⟨st,it,ins,outs,ah,steps⟩:List Int).length≤2097152:=by
     have h1:(aV ⟨st,it,ins,outs,ah,steps⟩).length≤12:=tC oka
     omega
    obtain ⟨x1,hx1⟩:∃ q,q=(aU ins jns).length:=⟨_,rfl⟩
    obtain ⟨x2,hx2⟩:∃ q,q=(aU outs aF).length:=⟨_,rfl⟩
    obtain ⟨x3,hx3⟩:∃ q,q=(aU ah (aV ⟨su,iu,jns,aF,aG,ax⟩)).length:=⟨_,rfl⟩
    obtain ⟨x4,hx4⟩:∃ q,q=(aU aG (aV ⟨st,it,ins,outs,ah,steps⟩)).length:=⟨_,rfl⟩
    have l1:x1≤1048576:=by have:=dQ ins jns;omega
    have l2:x2≤1048576:=by have:=dQ outs aF;omega
    have l3:x3≤1048576:=by have:=dQ ah (aV ⟨su,iu,jns,aF,aG,ax⟩);omega
    have l4:x4≤1048576:=by have:=dQ aG (aV ⟨st,it,ins,outs,ah,steps⟩);omega
    have M1:Hid (∀ W,aI w W w.heap.size (w.heap.size+1) 27 (iaC st it a2 n2 c2 a3 n3 c3 a4 n4 c4 a5 n5 c5) (iaC su iu b2 m2 d2 b3 m3 d3 b4 m4 d4 b5 m5 d5)→Calls Tryz.prog 107 #[.slice a2 n2 c2,.slice b2 m2 d2] W fun e w'=>∃ ad cc,e=.returned (.slice ad x1 cc)∧aI w w' w.heap.size (w.heap.size+1) 27 (iaC st it a2 n2 c2 a3 n3 c3 a4 n4 c4 a5 n5 c5) (iaC su iu b2 m2 d2 b3 m3 d3 b4 m4 d4 b5 m5 d5)):=fun W hW=>by
     rw [hx1]
     exact (dC a2 b2 n2 c2 m2 d2 ins jns W (R2.out.below hW.1) (Q2.out.below hW.1) (by omega) (by omega)).mono fun e w' h=>by
      obtain ⟨ad,cc,he,hb⟩:=dE.slice h
      exact ⟨ad,cc,he,hW.below hb⟩
    have M2:Hid (∀ W,aI w W w.heap.size (w.heap.size+1) 27 (iaC st it a2 n2 c2 a3 n3 c3 a4 n4 c4 a5 n5 c5) (iaC su iu b2 m2 d2 b3 m3 d3 b4 m4 d4 b5 m5 d5)→Calls Tryz.prog 107 #[.slice a3 n3 c3,.slice b3 m3 d3] W fun e w'=>∃ ad cc,e=.returned (.slice ad x2 cc)∧aI w w' w.heap.size (w.heap.size+1) 27 (iaC st it a2 n2 c2 a3 n3 c3 a4 n4 c4 a5 n5 c5) (iaC su iu b2 m2 d2 b3 m3 d3 b4 m4 d4 b5 m5 d5)):=fun W hW=>by
     rw [hx2]
     exact (dC a3 b3 n3 c3 m3 d3 outs aF W (R3.out.below hW.1) (Q3.out.below hW.1) (by omega) (by omega)).mono fun e w' h=>by
      obtain ⟨ad,cc,he,hb⟩:=dE.slice h
      exact ⟨ad,cc,he,hW.below hb⟩
    have CB:Hid (∀ W,aI w W w.heap.size (w.heap.size+1) 27 (iaC st it a2 n2 c2 a3 n3 c3 a4 n4 c4 a5 n5 c5) (iaC su iu b2 m2 d2 b3 m3 d3 b4 m4 d4 b5 m5 d5)→Calls Tryz.prog 150 #[.agg #[.int .i64 su,.int .i64 iu,.slice b2 m2 d2,.slice b3 m3 d3,.slice b4 m4 d4,.slice b5 m5 d5]] W fun e w'=>∃ ad n cc,e=.returned (.slice ad n cc)∧Row w' ad n (aV ⟨su,iu,jns,aF,aG,ax⟩)∧n≤2097152∧aI w w' w.heap.size (w.heap.size+1) 27 (iaC st it a2 n2 c2 a3 n3 c3 a4 n4 c4 a5 n5 c5) (iaC su iu b2 m2 d2 b3 m3 d3 b4 m4 d4 b5 m5 d5)):=fun W hW=>by
     have hc:=qZ ⟨su,iu,jns,aF,aG,ax⟩ _ W (HB.out W hW.1) (by rw [k2];exact g2) (by rw [k3];exact g3) (by rw [k4];exact g4) g5
     rw [if_pos okb] at hc
     refine hc.mono fun e w' h=>?_
     obtain ⟨g,cc,he,ho,hb⟩:=h
     exact ⟨_,_,_,he,ho.row.2.2.2,GG,hW.below hb⟩
    have M3:Hid (∀ W ad n cc,Row W ad n (aV ⟨su,iu,jns,aF,aG,ax⟩)→n≤2097152→aI w W w.heap.size (w.heap.size+1) 27 (iaC st it a2 n2 c2 a3 n3 c3 a4 n4 c4 a5 n5 c5) (iaC su iu b2 m2 d2 b3 m3 d3 b4 m4 d4 b5 m5 d5)→Calls Tryz.prog 107 #[.slice a4 n4 c4,.slice ad n cc] W fun e w'=>∃ ad cc,e=.returned (.slice ad x3 cc)∧aI w w' w.heap.size (w.heap.size+1) 27 (iaC st it a2 n2 c2 a3 n3 c3 a4 n4 c4 a5 n5 c5) (iaC su iu b2 m2 d2 b3 m3 d3 b4 m4 d4 b5 m5 d5)):=fun W ad n cc hr hn hW=>by
     rw [hx3]
     exact (dC a4 ad n4 c4 n cc ah (aV ⟨su,iu,jns,aF,aG,ax⟩) W (R4.out.below hW.1) hr (by omega) hn).mono fun e w' h=>by
      obtain ⟨ad,cc,he,hb⟩:=dE.slice h
      exact ⟨ad,cc,he,hW.below hb⟩
    have CA:Hid (∀ W,aI w W w.heap.size (w.heap.size+1) 27 (iaC st it a2 n2 c2 a3 n3 c3 a4 n4 c4 a5 n5 c5) (iaC su iu b2 m2 d2 b3 m3 d3 b4 m4 d4 b5 m5 d5)→Calls Tryz.prog 150 #[.agg #[.int .i64 st,.int .i64 it,.slice a2 n2 c2,.slice a3 n3 c3,.slice a4 n4 c4,.slice a5 n5 c5]] W fun e w'=>∃ ad n cc,e=.returned (.slice ad n cc)∧Row w' ad n (aV ⟨st,it,ins,outs,ah,steps⟩)∧n≤2097152∧aI w w' w.heap.size (w.heap.size+1) 27 (iaC st it a2 n2 c2 a3 n3 c3 a4 n4 c4 a5 n5 c5) (iaC su iu b2 m2 d2 b3 m3 d3 b4 m4 d4 b5 m5 d5)):=fun W hW=>by
     have hc:=qZ ⟨st,it,ins,outs,ah,steps⟩ _ W (HA.out W hW.1) (by rw [e2];exact f2) (by rw [e3];exact f3) (by rw [e4];exact f4) f5
     rw [if_pos oka] at hc
     refine hc.mono fun e w' h=>?_
     obtain ⟨g,cc,he,ho,hb⟩:=h
     exact ⟨_,_,_,he,ho.row.2.2.2,GH,hW.below hb⟩
    have M4:Hid (∀ W ad n cc,Row W ad n (aV ⟨st,it,ins,outs,ah,steps⟩)→n≤2097152→aI w W w.heap.size (w.heap.size+1) 27 (iaC st it a2 n2 c2 a3 n3 c3 a4 n4 c4 a5 n5 c5) (iaC su iu b2 m2 d2 b3 m3 d3 b4 m4 d4 b5 m5 d5)→Calls Tryz.prog 107 #[.slice b4 m4 d4,.slice ad n cc] W fun e w'=>∃ ad cc,e=.returned (.slice ad x4 cc)∧aI w w' w.heap.size (w.heap.size+1) 27 (iaC st it a2 n2 c2 a3 n3 c3 a4 n4 c4 a5 n5 c5) (iaC su iu b2 m2 d2 b3 m3 d3 b4 m4 d4 b5 m5 d5)):=fun W ad n cc hr hn hW=>by
     rw [hx4]
     exact (dC b4 ad m4 d4 n cc aG (aV ⟨st,it,ins,outs,ah,steps⟩) W (Q4.out.below hW.1) hr (by omega) hn).mono fun e w' h=>by
      obtain ⟨ad,cc,he,hb⟩:=dE.slice h
      exact ⟨ad,cc,he,hW.below hb⟩
    have HR2:Hid (r=decide (x1+x2+x3+x4=0)):=by
     unfold Hid
     rw [HR3.out,hx1,hx2,hx3,hx4,Fq]
    clear HR3 hx1 hx2 hx3 hx4 HA HB oka okb
    by_cases hz:x1+x2+x3+x4=0
    ·obtain rfl:x1=0:=by omega
     obtain rfl:x2=0:=by omega
     obtain rfl:x3=0:=by omega
     obtain rfl:x4=0:=by omega
     refine wp_region_held_drew (S:=fun w'=>aI w w' w.heap.size (w.heap.size+1) 27 (iaC st it a2 n2 c2 a3 n3 c3 a4 n4 c4 a5 n5 c5) (iaC su iu b2 m2 d2 b3 m3 d3 b4 m4 d4 b5 m5 d5)) (by kernel_rfl) SD (fun hHeld=>?_)
     change wpAnyH _ _ _ _ _ 29 (Array.replicate 29 false) _ _
     refine ag 0 21 (.pointer (some ⟨w.heap.size,2,none⟩)) (fuel:=28) rfl rfl (by kernel_rfl) (fun _ _ _ h=>h) (by rfl) (fun w hSw=>by go_simp) hHeld ?_
     simp only [Act.put,sI0,sI1,sI2]
     refine ag 1 22 (.slice a2 n2 c2) (fuel:=27) rfl rfl (by kernel_rfl) (fun _ _ _ h=>h) (by rfl) (fun w hSw=>by have m:=hSw.2.1.cell (j:=2) (u:=.slice a2 n2 c2) rfl;go_simp) hHeld ?_
     simp only [Act.put,sI0,sI1,sI2]
     refine ag 2 23 (.pointer (some ⟨w.heap.size+1,2,none⟩)) (fuel:=26) rfl rfl (by kernel_rfl) (fun _ _ _ h=>h) (by rfl) (fun w hSw=>by go_simp) hHeld ?_
     simp only [Act.put,sI0,sI1,sI2]
     refine ag 3 24 (.slice b2 m2 d2) (fuel:=25) rfl rfl (by kernel_rfl) (fun _ _ _ h=>h) (by rfl) (fun w hSw=>by have m:=hSw.2.2.cell (j:=2) (u:=.slice b2 m2 d2) rfl;go_simp) hHeld ?_
     simp only [Act.put,sI0,sI1,sI2]
     refine ag 6 27 (.pointer (some ⟨w.heap.size,3,none⟩)) (fuel:=24) rfl rfl (by kernel_rfl) (fun _ _ _ h=>h) (by rfl) (fun w hSw=>by go_simp) hHeld ?_
     simp only [Act.put,sI0,sI1,sI2]
     refine ag 7 28 (.slice a3 n3 c3) (fuel:=23) rfl rfl (by kernel_rfl) (fun _ _ _ h=>h) (by rfl) (fun w hSw=>by have m:=hSw.2.1.cell (j:=3) (u:=.slice a3 n3 c3) rfl;go_simp) hHeld ?_
     simp only [Act.put,sI0,sI1,sI2]
     refine ag 8 29 (.pointer (some ⟨w.heap.size+1,3,none⟩)) (fuel:=22) rfl rfl (by kernel_rfl) (fun _ _ _ h=>h) (by rfl) (fun w hSw=>by go_simp) hHeld ?_
     simp only [Act.put,sI0,sI1,sI2]
     refine ag 9 30 (.slice b3 m3 d3) (fuel:=21) rfl rfl (by kernel_rfl) (fun _ _ _ h=>h) (by rfl) (fun w hSw=>by have m:=hSw.2.2.cell (j:=3) (u:=.slice b3 m3 d3) rfl;go_simp) hHeld ?_
     simp only [Act.put,sI0,sI1,sI2]
     refine ag 13 34 (.pointer (some ⟨w.heap.size,4,none⟩)) (fuel:=20) rfl rfl (by kernel_rfl) (fun _ _ _ h=>h) (by rfl) (fun w hSw=>by go_simp) hHeld ?_
     simp only [Act.put,sI0,sI1,sI2]
     refine ag 14 35 (.slice a4 n4 c4) (fuel:=19) rfl rfl (by kernel_rfl) (fun _ _ _ h=>h) (by rfl) (fun w hSw=>by have m:=hSw.2.1.cell (j:=4) (u:=.slice a4 n4 c4) rfl;go_simp) hHeld ?_
     simp only [Act.put,sI0,sI1,sI2]
     refine aX 15 36 (.agg #[.int .i64 su,.int .i64 iu,.slice b2 m2 d2,.slice b3 m3 d3,.slice b4 m4 d4,.slice b5 m5 d5]) (fuel:=18) rfl rfl (by kernel_rfl) (fun _ _ _ h=>h) (yieldsIf_load_mid (by rfl) _ _ rfl (w.heap.size+1) 0 rfl (iaC su iu b2 m2 d2 b3 m3 d3 b4 m4 d4 b5 m5 d5).toList _ (fun w hw=>hw.2.2.range) Tryz.underlying27 rfl (by kernel_rfl)) hHeld ?_
     simp only [Act.put,sI0,sI1,sI2]
     refine ag 20 41 (.pointer (some ⟨w.heap.size+1,4,none⟩)) (fuel:=17) rfl rfl (by kernel_rfl) (fun _ _ _ h=>h) (by rfl) (fun w hSw=>by go_simp) hHeld ?_
     simp only [Act.put,sI0,sI1,sI2]
     refine ag 21 42 (.slice b4 m4 d4) (fuel:=16) rfl rfl (by kernel_rfl) (fun _ _ _ h=>h) (by rfl) (fun w hSw=>by have m:=hSw.2.2.cell (j:=4) (u:=.slice b4 m4 d4) rfl;go_simp) hHeld ?_
     simp only [Act.put,sI0,sI1,sI2]
     refine aX 22 43 (.agg #[.int .i64 st,.int .i64 it,.slice a2 n2 c2,.slice a3 n3 c3,.slice a4 n4 c4,.slice a5 n5 c5]) (fuel:=15) rfl rfl (by kernel_rfl) (fun _ _ _ h=>h) (yieldsIf_load_mid (by rfl) _ _ rfl (w.heap.size) 0 rfl (iaC st it a2 n2 c2 a3 n3 c3 a4 n4 c4 a5 n5 c5).toList _ (fun w hw=>hw.2.1.range) Tryz.underlying27 rfl (by kernel_rfl)) hHeld ?_
     simp only [Act.put,sI0,sI1,sI2]
     refine wpAnyH_ready (rs:=[4]) (fuel:=14) (by kernel_rfl) (by simp) ?_
     refine AllReadyH.cons rfl (fun K hK=>?_) AllReadyH.nil
     go_simp
     refine (M1.out _ hHeld).mono ?_
     rintro e w1 ⟨ad1,cc1,rfl,hS⟩
     go_wp2_with fail
     refine hK.out _ _ hS (fun hHeld=>?_)
     clear hK K
     refine ag 5 26 (.int .i64 0) (fuel:=13) rfl rfl (by kernel_rfl) (fun _ _ _ h=>h) (by rfl) (fun w hSw=>by go_simp) hHeld ?_
     simp only [Act.put,sI0,sI1,sI2]
     refine wpAnyH_ready (rs:=[10]) (fuel:=12) (by kernel_rfl) (by simp) ?_
     refine AllReadyH.cons rfl (fun K hK=>?_) AllReadyH.nil
     go_simp
     refine (M2.out _ hHeld).mono ?_
     rintro e w2 ⟨ad2,cc2,rfl,hS⟩
     go_wp2_with fail
     refine hK.out _ _ hS (fun hHeld=>?_)
     clear hK K
     refine ag 11 32 (.int .i64 0) (fuel:=11) rfl rfl (by kernel_rfl) (fun _ _ _ h=>h) (by rfl) (fun w hSw=>by go_simp) hHeld ?_
     simp only [Act.put,sI0,sI1,sI2]
     refine ag 12 33 (.int .i64 0) (fuel:=10) rfl rfl (by kernel_rfl) (fun _ _ _ h=>h) (by rfl) (fun w hSw=>by go_simp;exact Go.IntWalk.i64_in _ (by omega)) hHeld ?_
     simp only [Act.put,sI0,sI1,sI2]
     refine wpAnyH_ready (rs:=[16]) (fuel:=9) (by kernel_rfl) (by simp) ?_
     refine AllReadyH.cons rfl (fun K hK=>?_) AllReadyH.nil
     go_simp
     refine (CB.out _ hHeld).mono ?_
     rintro e w3 ⟨ad3,n3x,cc3,rfl,hr3,hn3,hS⟩
     go_wp2_with fail
     refine hK.out _ _ hS (fun hHeld=>?_)
     clear hK K
     refine wpAnyH_ready (rs:=[17]) (fuel:=8) (by kernel_rfl) (by simp) ?_
     refine AllReadyH.cons rfl (fun K hK=>?_) AllReadyH.nil
     go_simp
     refine (M3.out _ _ _ _ hr3 hn3 hHeld).mono ?_
     rintro e w4 ⟨ad4,cc4,rfl,hS⟩
     clear hr3
     go_wp2_with fail
     refine hK.out _ _ hS (fun hHeld=>?_)
     clear hK K
     refine ag 18 39 (.int .i64 0) (fuel:=7) rfl rfl (by kernel_rfl) (fun _ _ _ h=>h) (by rfl) (fun w hSw=>by go_simp) hHeld ?_
     simp only [Act.put,sI0,sI1,sI2]
     refine ag 19 40 (.int .i64 0) (fuel:=6) rfl rfl (by kernel_rfl) (fun _ _ _ h=>h) (by rfl) (fun w hSw=>by go_simp;exact Go.IntWalk.i64_in _ (by omega)) hHeld ?_
     simp only [Act.put,sI0,sI1,sI2]
     refine wpAnyH_ready (rs:=[23]) (fuel:=5) (by kernel_rfl) (by simp) ?_
     refine AllReadyH.cons rfl (fun K hK=>?_) AllReadyH.nil
     go_simp
     refine (CA.out _ hHeld).mono ?_
     rintro e w5 ⟨ad5,n5x,cc5,rfl,hr5,hn5,hS⟩
     go_wp2_with fail
     refine hK.out _ _ hS (fun hHeld=>?_)
     clear hK K
     refine wpAnyH_ready (rs:=[24]) (fuel:=4) (by kernel_rfl) (by simp) ?_
     refine AllReadyH.cons rfl (fun K hK=>?_) AllReadyH.nil
     go_simp
     refine (M4.out _ _ _ _ hr5 hn5 hHeld).mono ?_
     rintro e w6 ⟨ad6,cc6,rfl,hS⟩
     clear hr5
     go_wp2_with fail
     refine hK.out _ _ hS (fun hHeld=>?_)
     clear hK K
     refine ag 25 46 (.int .i64 0) (fuel:=3) rfl rfl (by kernel_rfl) (fun _ _ _ h=>h) (by rfl) (fun w hSw=>by go_simp) hHeld ?_
     simp only [Act.put,sI0,sI1,sI2]
     refine ag 26 47 (.int .i64 0) (fuel:=2) rfl rfl (by kernel_rfl) (fun _ _ _ h=>h) (by rfl) (fun w hSw=>by go_simp;exact Go.IntWalk.i64_in _ (by omega)) hHeld ?_
     simp only [Act.put,sI0,sI1,sI2]
     refine ag 27 48 (.bool true) (fuel:=1) rfl rfl (by kernel_rfl) (fun _ _ _ h=>h) (by rfl) (fun w hSw=>by go_simp) hHeld ?_
     simp only [Act.put,sI0,sI1,sI2]
     refine ag 28 4 (.bool true) (fuel:=0) rfl rfl (by kernel_rfl) (fun _ _ _ h=>h) (by rfl) (fun w hSw=>by go_simp) hHeld ?_
     simp only [Act.put,sI0,sI1,sI2]
     refine wpAnyH_done (by kernel_rfl) ?_ _
     go_wp2_with fail
     go_ret
     exact ⟨aH (by rw [HR2.out];try simp),hHeld.1⟩
    ·have hd:((((x1:Nat):Int)+((x2:Nat):Int)+((x3:Nat):Int)+((x4:Nat):Int)) == 0)=false:=by simp;omega
     have HZ:=Lib.hid hz
     clear hz
     refine wp_region_held_drew (S:=fun w'=>aI w w' w.heap.size (w.heap.size+1) 27 (iaC st it a2 n2 c2 a3 n3 c3 a4 n4 c4 a5 n5 c5) (iaC su iu b2 m2 d2 b3 m3 d3 b4 m4 d4 b5 m5 d5)) (by kernel_rfl) SD (fun hHeld=>?_)
     change wpAnyH _ _ _ _ _ 29 (Array.replicate 29 false) _ _
     refine ag 0 21 (.pointer (some ⟨w.heap.size,2,none⟩)) (fuel:=28) rfl rfl (by kernel_rfl) (fun _ _ _ h=>h) (by rfl) (fun w hSw=>by go_simp) hHeld ?_
     simp only [Act.put,sI0,sI1,sI2]
     refine ag 1 22 (.slice a2 n2 c2) (fuel:=27) rfl rfl (by kernel_rfl) (fun _ _ _ h=>h) (by rfl) (fun w hSw=>by have m:=hSw.2.1.cell (j:=2) (u:=.slice a2 n2 c2) rfl;go_simp) hHeld ?_
     simp only [Act.put,sI0,sI1,sI2]
     refine ag 2 23 (.pointer (some ⟨w.heap.size+1,2,none⟩)) (fuel:=26) rfl rfl (by kernel_rfl) (fun _ _ _ h=>h) (by rfl) (fun w hSw=>by go_simp) hHeld ?_
     simp only [Act.put,sI0,sI1,sI2]
     refine ag 3 24 (.slice b2 m2 d2) (fuel:=25) rfl rfl (by kernel_rfl) (fun _ _ _ h=>h) (by rfl) (fun w hSw=>by have m:=hSw.2.2.cell (j:=2) (u:=.slice b2 m2 d2) rfl;go_simp) hHeld ?_
     simp only [Act.put,sI0,sI1,sI2]
     refine ag 6 27 (.pointer (some ⟨w.heap.size,3,none⟩)) (fuel:=24) rfl rfl (by kernel_rfl) (fun _ _ _ h=>h) (by rfl) (fun w hSw=>by go_simp) hHeld ?_
     simp only [Act.put,sI0,sI1,sI2]
     refine ag 7 28 (.slice a3 n3 c3) (fuel:=23) rfl rfl (by kernel_rfl) (fun _ _ _ h=>h) (by rfl) (fun w hSw=>by have m:=hSw.2.1.cell (j:=3) (u:=.slice a3 n3 c3) rfl;go_simp) hHeld ?_
     simp only [Act.put,sI0,sI1,sI2]
     refine ag 8 29 (.pointer (some ⟨w.heap.size+1,3,none⟩)) (fuel:=22) rfl rfl (by kernel_rfl) (fun _ _ _ h=>h) (by rfl) (fun w hSw=>by go_simp) hHeld ?_
     simp only [Act.put,sI0,sI1,sI2]
     refine ag 9 30 (.slice b3 m3 d3) (fuel:=21) rfl rfl (by kernel_rfl) (fun _ _ _ h=>h) (by rfl) (fun w hSw=>by have m:=hSw.2.2.cell (j:=3) (u:=.slice b3 m3 d3) rfl;go_simp) hHeld ?_
     simp only [Act.put,sI0,sI1,sI2]
     refine ag 13 34 (.pointer (some ⟨w.heap.size,4,none⟩)) (fuel:=20) rfl rfl (by kernel_rfl) (fun _ _ _ h=>h) (by rfl) (fun w hSw=>by go_simp) hHeld ?_
     simp only [Act.put,sI0,sI1,sI2]
     refine ag 14 35 (.slice a4 n4 c4) (fuel:=19) rfl rfl (by kernel_rfl) (fun _ _ _ h=>h) (by rfl) (fun w hSw=>by have m:=hSw.2.1.cell (j:=4) (u:=.slice a4 n4 c4) rfl;go_simp) hHeld ?_
     simp only [Act.put,sI0,sI1,sI2]
     refine aX 15 36 (.agg #[.int .i64 su,.int .i64 iu,.slice b2 m2 d2,.slice b3 m3 d3,.slice b4 m4 d4,.slice b5 m5 d5]) (fuel:=18) rfl rfl (by kernel_rfl) (fun _ _ _ h=>h) (yieldsIf_load_mid (by rfl) _ _ rfl (w.heap.size+1) 0 rfl (iaC su iu b2 m2 d2 b3 m3 d3 b4 m4 d4 b5 m5 d5).toList _ (fun w hw=>hw.2.2.range) Tryz.underlying27 rfl (by kernel_rfl)) hHeld ?_
     simp only [Act.put,sI0,sI1,sI2]
     refine ag 20 41 (.pointer (some ⟨w.heap.size+1,4,none⟩)) (fuel:=17) rfl rfl (by kernel_rfl) (fun _ _ _ h=>h) (by rfl) (fun w hSw=>by go_simp) hHeld ?_
     simp only [Act.put,sI0,sI1,sI2]
     refine ag 21 42 (.slice b4 m4 d4) (fuel:=16) rfl rfl (by kernel_rfl) (fun _ _ _ h=>h) (by rfl) (fun w hSw=>by have m:=hSw.2.2.cell (j:=4) (u:=.slice b4 m4 d4) rfl;go_simp) hHeld ?_
     simp only [Act.put,sI0,sI1,sI2]
     refine aX 22 43 (.agg #[.int .i64 st,.int .i64 it,.slice a2 n2 c2,.slice a3 n3 c3,.slice a4 n4 c4,.slice a5 n5 c5]) (fuel:=15) rfl rfl (by kernel_rfl) (fun _ _ _ h=>h) (yieldsIf_load_mid (by rfl) _ _ rfl (w.heap.size) 0 rfl (iaC st it a2 n2 c2 a3 n3 c3 a4 n4 c4 a5 n5 c5).toList _ (fun w hw=>hw.2.1.range) Tryz.underlying27 rfl (by kernel_rfl)) hHeld ?_
     simp only [Act.put,sI0,sI1,sI2]
     refine wpAnyH_ready (rs:=[4]) (fuel:=14) (by kernel_rfl) (by simp) ?_
     refine AllReadyH.cons rfl (fun K hK=>?_) AllReadyH.nil
     go_simp
     refine (M1.out _ hHeld).mono ?_
     rintro e w1 ⟨ad1,cc1,rfl,hS⟩
     go_wp2_with fail
     refine hK.out _ _ hS (fun hHeld=>?_)
     clear hK K
     refine ag 5 26 (.int .i64 ((x1:Nat):Int)) (fuel:=13) rfl rfl (by kernel_rfl) (fun _ _ _ h=>h) (by rfl) (fun w hSw=>by go_simp) hHeld ?_
     simp only [Act.put,sI0,sI1,sI2]
     refine wpAnyH_ready (rs:=[10]) (fuel:=12) (by kernel_rfl) (by simp) ?_
     refine AllReadyH.cons rfl (fun K hK=>?_) AllReadyH.nil
     go_simp
     refine (M2.out _ hHeld).mono ?_
     rintro e w2 ⟨ad2,cc2,rfl,hS⟩
     go_wp2_with fail
     refine hK.out _ _ hS (fun hHeld=>?_)
     clear hK K
     refine ag 11 32 (.int .i64 ((x2:Nat):Int)) (fuel:=11) rfl rfl (by kernel_rfl) (fun _ _ _ h=>h) (by rfl) (fun w hSw=>by go_simp) hHeld ?_
     simp only [Act.put,sI0,sI1,sI2]
     refine ag 12 33 (.int .i64 (((x1:Nat):Int)+((x2:Nat):Int))) (fuel:=10) rfl rfl (by kernel_rfl) (fun _ _ _ h=>h) (by rfl) (fun w hSw=>by go_simp;exact Go.IntWalk.i64_in _ (by constructor <;> omega)) hHeld ?_
     simp only [Act.put,sI0,sI1,sI2]
     refine wpAnyH_ready (rs:=[16]) (fuel:=9) (by kernel_rfl) (by simp) ?_
     refine AllReadyH.cons rfl (fun K hK=>?_) AllReadyH.nil
     go_simp
     refine (CB.out _ hHeld).mono ?_
     rintro e w3 ⟨ad3,n3x,cc3,rfl,hr3,hn3,hS⟩
     go_wp2_with fail
     refine hK.out _ _ hS (fun hHeld=>?_)
     clear hK K
     refine wpAnyH_ready (rs:=[17]) (fuel:=8) (by kernel_rfl) (by simp) ?_
     refine AllReadyH.cons rfl (fun K hK=>?_) AllReadyH.nil
     go_simp
     refine (M3.out _ _ _ _ hr3 hn3 hHeld).mono ?_
     rintro e w4 ⟨ad4,cc4,rfl,hS⟩
     clear hr3
     go_wp2_with fail
     refine hK.out _ _ hS (fun hHeld=>?_)
     clear hK K
     refine ag 18 39 (.int .i64 ((x3:Nat):Int)) (fuel:=7) rfl rfl (by kernel_rfl) (fun _ _ _ h=>h) (by rfl) (fun w hSw=>by go_simp) hHeld ?_
     simp only [Act.put,sI0,sI1,sI2]
     refine ag 19 40 (.int .i64 (((x1:Nat):Int)+((x2:Nat):Int)+((x3:Nat):Int))) (fuel:=6) rfl rfl (by kernel_rfl) (fun _ _ _ h=>h) (by rfl) (fun w hSw=>by go_simp;exact Go.IntWalk.i64_in _ (by constructor <;> omega)) hHeld ?_
     simp only [Act.put,sI0,sI1,sI2]
     refine wpAnyH_ready (rs:=[23]) (fuel:=5) (by kernel_rfl) (by simp) ?_
     refine AllReadyH.cons rfl (fun K hK=>?_) AllReadyH.nil
     go_simp
     refine (CA.out _ hHeld).mono ?_
     rintro e w5 ⟨ad5,n5x,cc5,rfl,hr5,hn5,hS⟩
     go_wp2_with fail
     refine hK.out _ _ hS (fun hHeld=>?_)
     clear hK K
     refine wpAnyH_ready (rs:=[24]) (fuel:=4) (by kernel_rfl) (by simp) ?_
     refine AllReadyH.cons rfl (fun K hK=>?_) AllReadyH.nil
     go_simp
     refine (M4.out _ _ _ _ hr5 hn5 hHeld).mono ?_
     rintro e w6 ⟨ad6,cc6,rfl,hS⟩
     clear hr5
     go_wp2_with fail
     refine hK.out _ _ hS (fun hHeld=>?_)
     clear hK K
     refine ag 25 46 (.int .i64 ((x4:Nat):Int)) (fuel:=3) rfl rfl (by kernel_rfl) (fun _ _ _ h=>h) (by rfl) (fun w hSw=>by go_simp) hHeld ?_
     simp only [Act.put,sI0,sI1,sI2]
     refine ag 26 47 (.int .i64 (((x1:Nat):Int)+((x2:Nat):Int)+((x3:Nat):Int)+((x4:Nat):Int))) (fuel:=2) rfl rfl (by kernel_rfl) (fun _ _ _ h=>h) (by rfl) (fun w hSw=>by go_simp;exact Go.IntWalk.i64_in _ (by constructor <;> omega)) hHeld ?_
     simp only [Act.put,sI0,sI1,sI2]
     refine ag 27 48 (.bool false) (fuel:=1) rfl rfl (by kernel_rfl) (fun _ _ _ h=>h) (by rfl) (fun w hSw=>by go_simp) hHeld ?_
     simp only [Act.put,sI0,sI1,sI2]
     refine ag 28 4 (.bool false) (fuel:=0) rfl rfl (by kernel_rfl) (fun _ _ _ h=>h) (by rfl) (fun w hSw=>by go_simp) hHeld ?_
     simp only [Act.put,sI0,sI1,sI2]
     refine wpAnyH_done (by kernel_rfl) ?_ _
     go_wp2_with fail
     go_ret
     exact ⟨aH (by rw [HR2.out,decide_eq_false HZ.out];try simp),hHeld.1⟩
   ·have hng:40<st*su:=by omega
    go_wp2_with fail
    go_ret
    exact ⟨aH (by rw [HR1.out,decide_eq_false (show ¬ st*su≤40 by omega),Bool.and_false]),S2.out.1⟩
end Go.Proofs.YtnglogkkkpegnaaGreat
