import Derived.Test.YtnglogkkkpegnaaGreatFit
set_option maxHeartbeats 3200000
set_option maxRecDepth 20000
namespace Go.Proofs.YtnglogkkkpegnaaGreat
open Go.RowKit
theorem vV (a b:IaD) (v u:Value) (w:World) (h:aB w a v) (k:aB w b u) (fa:Small a) (fb:Small b) :
  Calls Tryz.prog 60 #[v,u] w (bY w w.heap.size (aY a b)):=by
 obtain ⟨a2,n2,c2,a3,n3,c3,a4,n4,c4,a5,n5,c5,rfl,r2,r3,r4,r5⟩:=h
 obtain ⟨b2,m2,d2,b3,m3,d3,b4,m4,d4,b5,m5,d5,rfl,q2,q3,q4,q5⟩:=k
 obtain ⟨st,it,ins,outs,ah,steps⟩:=a
 obtain ⟨su,iu,jns,aF,aG,ax⟩:=b
 obtain ⟨f2,f3,f4,f5⟩:=fa
 obtain ⟨g2,g3,g4,g5⟩:=fb
 simp only at r2 r3 r4 r5 q2 q3 q4 q5 f2 f3 f4 f5 g2 g3 g4 g5
 have HA:Hid (∀ W,Below w.heap.size w W→aB W ⟨st,it,ins,outs,ah,steps⟩ (.agg #[.int .i64 st,.int .i64 it,.slice a2 n2 c2,.slice a3 n3 c3,.slice a4 n4 c4,.slice a5 n5 c5])):=fun W hW=>aB.below ⟨a2,n2,c2,a3,n3,c3,a4,n4,c4,a5,n5,c5,rfl,r2,r3,r4,r5⟩ hW
 have HB:Hid (∀ W,Below w.heap.size w W→aB W ⟨su,iu,jns,aF,aG,ax⟩ (.agg #[.int .i64 su,.int .i64 iu,.slice b2 m2 d2,.slice b3 m3 d3,.slice b4 m4 d4,.slice b5 m5 d5])):=fun W hW=>aB.below ⟨b2,m2,d2,b3,m3,d3,b4,m4,d4,b5,m5,d5,rfl,q2,q3,q4,q5⟩ hW
 have S0:=Lib.hid (aI.start w (iaC st it a2 n2 c2 a3 n3 c3 a4 n4 c4 a5 n5 c5) (iaC su iu b2 m2 d2 b3 m3 d3 b4 m4 d4 b5 m5 d5) 27)
 have e2:=r2.1
 have e3:=r3.1
 have e4:=r4.1
 have k2:=q2.1
 have k3:=q3.1
 have k4:=q4.1
 rw [e2] at f2
 rw [e3] at f3
 rw [e4] at f4
 rw [k2] at g2
 rw [k3] at g3
 rw [k4] at g4
 have R2:=Lib.hid r2
 have R3:=Lib.hid r3
 have R4:=Lib.hid r4
 have R5:=Lib.hid r5
 have Q2:=Lib.hid q2
 have Q3:=Lib.hid q3
 have Q4:=Lib.hid q4
 have Q5:=Lib.hid q5
 clear r2 r3 r4 r5 q2 q3 q4 q5
 have hlM1:(aU ins aF).length≤1048576:=by have:=dQ ins aF;omega
 have hlM2:(aU outs jns).length≤1048576:=by have:=dQ outs jns;omega
 have M1:Hid (∀ W,aI w W w.heap.size (w.heap.size+1) 27 (iaC st it a2 n2 c2 a3 n3 c3 a4 n4 c4 a5 n5 c5) (iaC su iu b2 m2 d2 b3 m3 d3 b4 m4 d4 b5 m5 d5)→Calls Tryz.prog 112 #[.slice a2 n2 c2,.slice b3 m3 d3] W fun e w'=>∃ ad n cc,e=.returned (.slice ad n cc)∧Row w' ad n (aU ins aF)∧n≤1048576∧aI w w' w.heap.size (w.heap.size+1) 27 (iaC st it a2 n2 c2 a3 n3 c3 a4 n4 c4 a5 n5 c5) (iaC su iu b2 m2 d2 b3 m3 d3 b4 m4 d4 b5 m5 d5)):=fun W hW =>
  (dX a2 b3 n2 c2 m3 d3 ins aF W (R2.out.below hW.1) (Q3.out.below hW.1) (by omega) (by omega)).mono fun e w' h=>by
   obtain ⟨v,he,ho,hb⟩:=h
   obtain ⟨ad,cc,rfl⟩:=ho.form
   exact ⟨_,_,_,he,ho.row.2.2.2,hlM1,hW.below hb⟩
 have M2:Hid (∀ W ap np lp,Row W ap np lp→aI w W w.heap.size (w.heap.size+1) 27 (iaC st it a2 n2 c2 a3 n3 c3 a4 n4 c4 a5 n5 c5) (iaC su iu b2 m2 d2 b3 m3 d3 b4 m4 d4 b5 m5 d5)→Calls Tryz.prog 112 #[.slice a3 n3 c3,.slice b2 m2 d2] W fun e w'=>∃ ad n cc,e=.returned (.slice ad n cc)∧Row w' ad n (aU outs jns)∧Row w' ap np lp∧n≤1048576∧aI w w' w.heap.size (w.heap.size+1) 27 (iaC st it a2 n2 c2 a3 n3 c3 a4 n4 c4 a5 n5 c5) (iaC su iu b2 m2 d2 b3 m3 d3 b4 m4 d4 b5 m5 d5)):=fun W ap np lp hp hW =>
  (dX a3 b2 n3 c3 m2 d2 outs jns W (R3.out.below hW.1) (Q2.out.below hW.1) (by omega) (by omega)).mono fun e w' h=>by
   obtain ⟨v,he,ho,hb⟩:=h
   obtain ⟨ad,cc,rfl⟩:=ho.form
   exact ⟨_,_,_,he,ho.row.2.2.2,hp.below hb,hlM2,hW.below hb⟩
 have MJ:Hid (∀ W ap np cp aq nq cq,Row W ap np (aU ins aF)→Row W aq nq (aU outs jns)→np≤1048576→nq≤1048576→aI w W w.heap.size (w.heap.size+1) 27 (iaC st it a2 n2 c2 a3 n3 c3 a4 n4 c4 a5 n5 c5) (iaC su iu b2 m2 d2 b3 m3 d3 b4 m4 d4 b5 m5 d5)→Calls Tryz.prog 68 #[.slice ap np cp,.slice aq nq cq] W fun e w'=>∃ v,e=.returned v∧aj w' w.heap.size v (aY ⟨st,it,ins,outs,ah,steps⟩ ⟨su,iu,jns,aF,aG,ax⟩).length (aY ⟨st,it,ins,outs,ah,steps⟩ ⟨su,iu,jns,aF,aG,ax⟩)∧aI w w' w.heap.size (w.heap.size+1) 27 (iaC st it a2 n2 c2 a3 n3 c3 a4 n4 c4 a5 n5 c5) (iaC su iu b2 m2 d2 b3 m3 d3 b4 m4 d4 b5 m5 d5)):=fun W ap np cp aq nq cq hp hq h1 h2 hW =>
  (gG ap aq np cp nq cq (aU ins aF) (aU outs jns) W hp hq (by omega) (by omega)).mono fun e w' h=>by
   obtain ⟨v,he,ho,hb⟩:=h
   exact ⟨v,he,ho.mono hW.1.size,hW.below hb⟩
 clear HA HB
 go_enter Tryz.func60,Tryz.ntmps60
 go_wp2_with fail
 have SD:=S0.out.drew
 clear S0
 refine wp_region_held_drew (S:=fun w'=>aI w w' w.heap.size (w.heap.size+1) 27 (iaC st it a2 n2 c2 a3 n3 c3 a4 n4 c4 a5 n5 c5) (iaC su iu b2 m2 d2 b3 m3 d3 b4 m4 d4 b5 m5 d5)) (by kernel_rfl) SD (fun hHeld=>?_)
 change wpAnyH _ _ _ _ _ 12 (Array.replicate 12 false) _ _
 refine ag 0 5 (.pointer (some ⟨w.heap.size,2,none⟩)) (fuel:=11) rfl rfl (by kernel_rfl) (fun _ _ _ h=>h) (by rfl) (fun w hSw=>by go_simp) hHeld ?_
 simp only [Act.put,sI0,sI1,sI2]
 refine ag 1 6 (.slice a2 n2 c2) (fuel:=10) rfl rfl (by kernel_rfl) (fun _ _ _ h=>h) (by rfl) (fun w hSw=>by have m:=hSw.2.1.cell (j:=2) (u:=.slice a2 n2 c2) rfl;go_simp) hHeld ?_
 simp only [Act.put,sI0,sI1,sI2]
 refine ag 2 7 (.pointer (some ⟨w.heap.size+1,3,none⟩)) (fuel:=9) rfl rfl (by kernel_rfl) (fun _ _ _ h=>h) (by rfl) (fun w hSw=>by go_simp) hHeld ?_
 simp only [Act.put,sI0,sI1,sI2]
 refine ag 3 8 (.slice b3 m3 d3) (fuel:=8) rfl rfl (by kernel_rfl) (fun _ _ _ h=>h) (by rfl) (fun w hSw=>by have m:=hSw.2.2.cell (j:=3) (u:=.slice b3 m3 d3) rfl;go_simp) hHeld ?_
 simp only [Act.put,sI0,sI1,sI2]
 refine ag 5 10 (.pointer (some ⟨w.heap.size,3,none⟩)) (fuel:=7) rfl rfl (by kernel_rfl) (fun _ _ _ h=>h) (by rfl) (fun w hSw=>by go_simp) hHeld ?_
 simp only [Act.put,sI0,sI1,sI2]
 refine ag 6 11 (.slice a3 n3 c3) (fuel:=6) rfl rfl (by kernel_rfl) (fun _ _ _ h=>h) (by rfl) (fun w hSw=>by have m:=hSw.2.1.cell (j:=3) (u:=.slice a3 n3 c3) rfl;go_simp) hHeld ?_
 simp only [Act.put,sI0,sI1,sI2]
 refine ag 7 12 (.pointer (some ⟨w.heap.size+1,2,none⟩)) (fuel:=5) rfl rfl (by kernel_rfl) (fun _ _ _ h=>h) (by rfl) (fun w hSw=>by go_simp) hHeld ?_
 simp only [Act.put,sI0,sI1,sI2]
 refine ag 8 13 (.slice b2 m2 d2) (fuel:=4) rfl rfl (by kernel_rfl) (fun _ _ _ h=>h) (by rfl) (fun w hSw=>by have m:=hSw.2.2.cell (j:=2) (u:=.slice b2 m2 d2) rfl;go_simp) hHeld ?_
 simp only [Act.put,sI0,sI1,sI2]
 refine wpAnyH_ready (rs:=[4]) (fuel:=3) (by kernel_rfl) (by simp) ?_
 refine AllReadyH.cons rfl (fun K hK=>?_) AllReadyH.nil
 go_simp
 refine (M1.out _ hHeld).mono ?_
 rintro e w1 ⟨ad1,x1,cc1,rfl,hr1,hn1,hS⟩
 go_wp2_with fail
 refine hK.out _ _ hS (fun hHeld=>?_)
 clear hK K
 refine wpAnyH_ready (rs:=[9]) (fuel:=2) (by kernel_rfl) (by simp) ?_
 refine AllReadyH.cons rfl (fun K hK=>?_) AllReadyH.nil
 go_simp
 refine (M2.out _ _ _ _ hr1 hHeld).mono ?_
 rintro e w2 ⟨ad2,x2,cc2,rfl,hr2,hr1b,hn2,hS⟩
 go_wp2_with fail
 refine hK.out _ _ hS (fun hHeld=>?_)
 clear hK K
 refine wpAnyH_ready (rs:=[10]) (fuel:=1) (by kernel_rfl) (by simp) ?_
 refine AllReadyH.cons rfl (fun K hK=>?_) AllReadyH.nil
 go_simp
 refine (MJ.out _ _ _ _ _ _ _ hr1b hr2 hn1 hn2 hHeld).mono ?_
 rintro e w3 ⟨vj,rfl,ho,hS⟩
 go_wp2_with fail
 refine hK.out _ _ hS (fun hHeld=>?_)
 clear hK K
 refine ag 11 4 (vj) (fuel:=0) rfl rfl (by kernel_rfl) (fun _ _ _ h=>h) (by rfl) (fun w hSw=>by go_simp) hHeld ?_
 simp only [Act.put,sI0,sI1,sI2]
 refine wpAnyH_done (by kernel_rfl) ?_ _
 go_wp2_with fail
 go_ret
 exact ⟨_,rfl,ho,hHeld.1⟩
theorem vW (a b:IaD) (v u:Value) (w:World) (h:aB w a v) (k:aB w b u) (fa:Small a) (fb:Small b) :
  Calls Tryz.prog 102 #[v,u] w (dE w w.heap.size (iU a b)):=by
 have CF:Hid (∀ W,Below w.heap.size w W→Calls Tryz.prog 101 #[v,u] W fun e w'=>e=.returned (.bool (iH a b))∧Below W.heap.size W w'):=fun W hW=>vg a b v u W (h.below hW) (k.below hW) fa fb
 obtain ⟨q,hq⟩:∃ q,q=iH a b:=⟨_,rfl⟩
 have HR:Hid (iU a b=if q then aY a b else []):=by unfold Hid iU;rw [hq]
 rw [← hq] at CF
 obtain ⟨R,hR⟩:∃ R,R=iU a b:=⟨_,rfl⟩
 rw [← hR] at HR ⊢
 clear hq hR
 obtain ⟨a2,n2,c2,a3,n3,c3,a4,n4,c4,a5,n5,c5,rfl,r2,r3,r4,r5⟩:=h
 obtain ⟨b2,m2,d2,b3,m3,d3,b4,m4,d4,b5,m5,d5,rfl,q2,q3,q4,q5⟩:=k
 obtain ⟨st,it,ins,outs,ah,steps⟩:=a
 obtain ⟨su,iu,jns,aF,aG,ax⟩:=b
 obtain ⟨f2,f3,f4,f5⟩:=fa
 obtain ⟨g2,g3,g4,g5⟩:=fb
 simp only at r2 r3 r4 r5 q2 q3 q4 q5 f2 f3 f4 f5 g2 g3 g4 g5
 have HA:Hid (∀ W,Below w.heap.size w W→aB W ⟨st,it,ins,outs,ah,steps⟩ (.agg #[.int .i64 st,.int .i64 it,.slice a2 n2 c2,.slice a3 n3 c3,.slice a4 n4 c4,.slice a5 n5 c5])):=fun W hW=>aB.below ⟨a2,n2,c2,a3,n3,c3,a4,n4,c4,a5,n5,c5,rfl,r2,r3,r4,r5⟩ hW
 have HB:Hid (∀ W,Below w.heap.size w W→aB W ⟨su,iu,jns,aF,aG,ax⟩ (.agg #[.int .i64 su,.int .i64 iu,.slice b2 m2 d2,.slice b3 m3 d3,.slice b4 m4 d4,.slice b5 m5 d5])):=fun W hW=>aB.below ⟨b2,m2,d2,b3,m3,d3,b4,m4,d4,b5,m5,d5,rfl,q2,q3,q4,q5⟩ hW
 have S0:=Lib.hid (aI.start w (iaC st it a2 n2 c2 a3 n3 c3 a4 n4 c4 a5 n5 c5) (iaC su iu b2 m2 d2 b3 m3 d3 b4 m4 d4 b5 m5 d5) 27)
 have e2:=r2.1
 have e3:=r3.1
 have e4:=r4.1
 have k2:=q2.1
 have k3:=q3.1
 have k4:=q4.1
 rw [e2] at f2
 rw [e3] at f3
 rw [e4] at f4
 rw [k2] at g2
 rw [k3] at g3
 rw [k4] at g4
 have R2:=Lib.hid r2
 have R3:=Lib.hid r3
 have R4:=Lib.hid r4
 have R5:=Lib.hid r5
 have Q2:=Lib.hid q2
 have Q3:=Lib.hid q3
 have Q4:=Lib.hid q4
 have Q5:=Lib.hid q5
 clear r2 r3 r4 r5 q2 q3 q4 q5
 clear HA HB
 obtain ⟨ca0,ca1,ca2,ca3,ca4,ca5⟩:=S0.out.2.1.aO
 obtain ⟨cb0,cb1,cb2,cb3,cb4,cb5⟩:=S0.out.2.2.aO
 go_enter Tryz.func102,Tryz.ntmps102
 go_wp2_with fail
 clear ca0 ca1 ca2 ca3 ca4 ca5 cb0 cb1 cb2 cb3 cb4 cb5
 refine (CF.out _ S0.out.1).mono ?_
 rintro e w1 ⟨rfl,hb⟩
 have S1:=Lib.hid (S0.out.below hb)
 clear hb S0
 cases q with
 | false =>
  have HE:Hid (R=[]):=by rw [HR.out];rfl
  have SA:=S1.out.alloc (.cells #[] 3)
  go_wp2_with fail
  go_ret
  obtain rfl:R=[]:=HE.out
  exact ⟨_,_,rfl,(ed _ [] 0 rfl (by unfold maxLen;omega)).mono S1.out.1.size,SA.1⟩
 | true =>
  have HE:Hid (R=aY ⟨st,it,ins,outs,ah,steps⟩ ⟨su,iu,jns,aF,aG,ax⟩):=by rw [HR.out];rfl
  clear HR CF
  have hlM1:(aU ins aF).length≤1048576:=by have:=dQ ins aF;omega
  have hlM2:(aU outs jns).length≤1048576:=by have:=dQ outs jns;omega
  have M1:Hid (∀ W,aI w W w.heap.size (w.heap.size+1) 27 (iaC st it a2 n2 c2 a3 n3 c3 a4 n4 c4 a5 n5 c5) (iaC su iu b2 m2 d2 b3 m3 d3 b4 m4 d4 b5 m5 d5)→Calls Tryz.prog 107 #[.slice a2 n2 c2,.slice b3 m3 d3] W fun e w'=>∃ ad n cc,e=.returned (.slice ad n cc)∧Row w' ad n (aU ins aF)∧n≤1048576∧aI w w' w.heap.size (w.heap.size+1) 27 (iaC st it a2 n2 c2 a3 n3 c3 a4 n4 c4 a5 n5 c5) (iaC su iu b2 m2 d2 b3 m3 d3 b4 m4 d4 b5 m5 d5)):=fun W hW =>
   (dC a2 b3 n2 c2 m3 d3 ins aF W (R2.out.below hW.1) (Q3.out.below hW.1) (by omega) (by omega)).mono fun e w' h=>by
    obtain ⟨g,cc,he,ho,hb⟩:=h
    exact ⟨_,_,_,he,ho.row.2.2.2,hlM1,hW.below hb⟩
  have M2:Hid (∀ W ap np lp,Row W ap np lp→aI w W w.heap.size (w.heap.size+1) 27 (iaC st it a2 n2 c2 a3 n3 c3 a4 n4 c4 a5 n5 c5) (iaC su iu b2 m2 d2 b3 m3 d3 b4 m4 d4 b5 m5 d5)→Calls Tryz.prog 107 #[.slice a3 n3 c3,.slice b2 m2 d2] W fun e w'=>∃ ad n cc,e=.returned (.slice ad n cc)∧Row w' ad n (aU outs jns)∧Row w' ap np lp∧n≤1048576∧aI w w' w.heap.size (w.heap.size+1) 27 (iaC st it a2 n2 c2 a3 n3 c3 a4 n4 c4 a5 n5 c5) (iaC su iu b2 m2 d2 b3 m3 d3 b4 m4 d4 b5 m5 d5)):=fun W ap np lp hp hW =>
   (dC a3 b2 n3 c3 m2 d2 outs jns W (R3.out.below hW.1) (Q2.out.below hW.1) (by omega) (by omega)).mono fun e w' h=>by
    obtain ⟨g,cc,he,ho,hb⟩:=h
    exact ⟨_,_,_,he,ho.row.2.2.2,hp.below hb,hlM2,hW.below hb⟩
  have MJ:Hid (∀ W ap np cp aq nq cq,Row W ap np (aU ins aF)→Row W aq nq (aU outs jns)→np≤1048576→nq≤1048576→aI w W w.heap.size (w.heap.size+1) 27 (iaC st it a2 n2 c2 a3 n3 c3 a4 n4 c4 a5 n5 c5) (iaC su iu b2 m2 d2 b3 m3 d3 b4 m4 d4 b5 m5 d5)→Calls Tryz.prog 104 #[.slice ap np cp,.slice aq nq cq] W fun e w'=>∃ v,e=.returned v∧dE w w.heap.size (aY ⟨st,it,ins,outs,ah,steps⟩ ⟨su,iu,jns,aF,aG,ax⟩) (.returned v) w'∧aI w w' w.heap.size (w.heap.size+1) 27 (iaC st it a2 n2 c2 a3 n3 c3 a4 n4 c4 a5 n5 c5) (iaC su iu b2 m2 d2 b3 m3 d3 b4 m4 d4 b5 m5 d5)):=fun W ap np cp aq nq cq hp hq h1 h2 hW =>
   (fE ap aq np cp nq cq (aU ins aF) (aU outs jns) W hp hq (by omega) (by omega)).mono fun e w' h=>by
    obtain ⟨g,cc,he,ho,hb⟩:=h
    exact ⟨_,he,⟨g,cc,rfl,ho.mono hW.1.size,(hW.below hb).1⟩,hW.below hb⟩
  go_wp2_with fail
  have SD:=S1.out.drew
  clear S1
  refine wp_region_held_drew (S:=fun w'=>aI w w' w.heap.size (w.heap.size+1) 27 (iaC st it a2 n2 c2 a3 n3 c3 a4 n4 c4 a5 n5 c5) (iaC su iu b2 m2 d2 b3 m3 d3 b4 m4 d4 b5 m5 d5)) (by kernel_rfl) SD (fun hHeld=>?_)
  change wpAnyH _ _ _ _ _ 12 (Array.replicate 12 false) _ _
  refine ag 0 10 (.pointer (some ⟨w.heap.size,2,none⟩)) (fuel:=11) rfl rfl (by kernel_rfl) (fun _ _ _ h=>h) (by rfl) (fun w hSw=>by go_simp) hHeld ?_
  simp only [Act.put,sI0,sI1,sI2]
  refine ag 1 11 (.slice a2 n2 c2) (fuel:=10) rfl rfl (by kernel_rfl) (fun _ _ _ h=>h) (by rfl) (fun w hSw=>by have m:=hSw.2.1.cell (j:=2) (u:=.slice a2 n2 c2) rfl;go_simp) hHeld ?_
  simp only [Act.put,sI0,sI1,sI2]
  refine ag 2 12 (.pointer (some ⟨w.heap.size+1,3,none⟩)) (fuel:=9) rfl rfl (by kernel_rfl) (fun _ _ _ h=>h) (by rfl) (fun w hSw=>by go_simp) hHeld ?_
  simp only [Act.put,sI0,sI1,sI2]
  refine ag 3 13 (.slice b3 m3 d3) (fuel:=8) rfl rfl (by kernel_rfl) (fun _ _ _ h=>h) (by rfl) (fun w hSw=>by have m:=hSw.2.2.cell (j:=3) (u:=.slice b3 m3 d3) rfl;go_simp) hHeld ?_
  simp only [Act.put,sI0,sI1,sI2]
  refine ag 5 15 (.pointer (some ⟨w.heap.size,3,none⟩)) (fuel:=7) rfl rfl (by kernel_rfl) (fun _ _ _ h=>h) (by rfl) (fun w hSw=>by go_simp) hHeld ?_
  simp only [Act.put,sI0,sI1,sI2]
  refine ag 6 16 (.slice a3 n3 c3) (fuel:=6) rfl rfl (by kernel_rfl) (fun _ _ _ h=>h) (by rfl) (fun w hSw=>by have m:=hSw.2.1.cell (j:=3) (u:=.slice a3 n3 c3) rfl;go_simp) hHeld ?_
  simp only [Act.put,sI0,sI1,sI2]
  refine ag 7 17 (.pointer (some ⟨w.heap.size+1,2,none⟩)) (fuel:=5) rfl rfl (by kernel_rfl) (fun _ _ _ h=>h) (by rfl) (fun w hSw=>by go_simp) hHeld ?_
  simp only [Act.put,sI0,sI1,sI2]
  refine ag 8 18 (.slice b2 m2 d2) (fuel:=4) rfl rfl (by kernel_rfl) (fun _ _ _ h=>h) (by rfl) (fun w hSw=>by have m:=hSw.2.2.cell (j:=2) (u:=.slice b2 m2 d2) rfl;go_simp) hHeld ?_
  simp only [Act.put,sI0,sI1,sI2]
  refine wpAnyH_ready (rs:=[4]) (fuel:=3) (by kernel_rfl) (by simp) ?_
  refine AllReadyH.cons rfl (fun K hK=>?_) AllReadyH.nil
  go_simp
  refine (M1.out _ hHeld).mono ?_
  rintro e w1 ⟨ad1,x1,cc1,rfl,hr1,hn1,hS⟩
  go_wp2_with fail
  refine hK.out _ _ hS (fun hHeld=>?_)
  clear hK K
  refine wpAnyH_ready (rs:=[9]) (fuel:=2) (by kernel_rfl) (by simp) ?_
  refine AllReadyH.cons rfl (fun K hK=>?_) AllReadyH.nil
  go_simp
  refine (M2.out _ _ _ _ hr1 hHeld).mono ?_
  rintro e w2 ⟨ad2,x2,cc2,rfl,hr2,hr1b,hn2,hS⟩
  go_wp2_with fail
  refine hK.out _ _ hS (fun hHeld=>?_)
  clear hK K
  refine wpAnyH_ready (rs:=[10]) (fuel:=1) (by kernel_rfl) (by simp) ?_
  refine AllReadyH.cons rfl (fun K hK=>?_) AllReadyH.nil
  go_simp
  refine (MJ.out _ _ _ _ _ _ _ hr1b hr2 hn1 hn2 hHeld).mono ?_
  rintro e w3 ⟨vj,rfl,ho,hS⟩
  go_wp2_with fail
  refine hK.out _ _ hS (fun hHeld=>?_)
  clear hK K
  refine ag 11 4 (vj) (fuel:=0) rfl rfl (by kernel_rfl) (fun _ _ _ h=>h) (by rfl) (fun w hSw=>by go_simp) hHeld ?_
  simp only [Act.put,sI0,sI1,sI2]
  refine wpAnyH_done (by kernel_rfl) ?_ _
  go_wp2_with fail
  go_ret
  rw [HE.out]
  exact ho
end Go.Proofs.YtnglogkkkpegnaaGreat
