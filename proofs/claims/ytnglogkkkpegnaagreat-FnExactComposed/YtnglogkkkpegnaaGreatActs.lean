import Derived.Test.YtnglogkkkpegnaaGreatImplStep
import Derived.Test.YtnglogkkkpegnaaGreatIaLaw
set_option maxHeartbeats 3200000
set_option maxRecDepth 20000
namespace Go.Proofs.YtnglogkkkpegnaaGreat
open Go.RowKit
theorem iT (xs ys:List Int):(aT xs ys).length≤xs.length+ys.length:=by
 have h1:=nK ys (bW [] xs)
 have h2:=nK xs []
 simp only [List.length_nil,Nat.zero_add] at h2
 unfold aT
 omega
theorem qZ (a:IaD) (v:Value) (w:World) (h:aB w a v) (f2:a.ins.length≤1048576) (f3:a.outs.length≤1048576) (f4:a.ah.length≤1048576) (f5:a.steps.length≤1048576) :
  Calls Tryz.prog 150 #[v] w (dE w w.heap.size (if aJ a then aV a else [])):=by
 have CO:Hid (∀ W,Below w.heap.size w W→Calls Tryz.prog 126 #[v] W fun e w'=>e=.returned (.bool (aJ a))∧Below W.heap.size W w'):=fun W hW=>mQ a v W (h.below hW) f2 f3 f4 f5
 obtain ⟨a2,n2,c2,a3,n3,c3,a4,n4,c4,a5,n5,c5,rfl,r2,r3,r4,r5⟩:=h
 obtain ⟨st,it,ins,outs,ah,steps⟩:=a
 simp only at r2 r3 r4 r5 f2 f3 f4 f5
 have hj:=iT ins outs
 have R2:=Lib.hid r2
 have R3:=Lib.hid r3
 have R4:=Lib.hid r4
 rw [r2.1] at hj
 rw [r3.1] at hj
 rw [r2.1] at f2
 rw [r3.1] at f3
 rw [r4.1] at f4
 clear r2 r3 r4 r5 f5
 have HJ:=Lib.hid hj
 obtain ⟨q,hq⟩:∃ q,q=aJ ⟨st,it,ins,outs,ah,steps⟩:=⟨_,rfl⟩
 rw [← hq] at CO ⊢
 obtain ⟨L,hL⟩:∃ L,L=if q then aV ⟨st,it,ins,outs,ah,steps⟩ else []:=⟨_,rfl⟩
 rw [← hL]
 have HL:=Lib.hid hL
 have B0:Hid (∀ o,Below w.heap.size w (w.alloc o)):=fun o=>(Below.refl _ _).alloc (Nat.le_refl _) _
 have V0:=Lib.hid (ae.new w #[.int .i64 st,.int .i64 it,.slice a2 n2 c2,.slice a3 n3 c3,.slice a4 n4 c4,.slice a5 n5 c5] 27 rfl)
 have C1:Hid (∀ W,Below w.heap.size w W∧ae W w.heap.size #[.int .i64 st,.int .i64 it,.slice a2 n2 c2,.slice a3 n3 c3,.slice a4 n4 c4,.slice a5 n5 c5] 27∧W.cell? ⟨w.heap.size,2,none⟩=some (.slice a2 n2 c2)∧W.cell? ⟨w.heap.size,3,none⟩=some (.slice a3 n3 c3)∧W.cell? ⟨w.heap.size,4,none⟩=some (.slice a4 n4 c4)→Calls Tryz.prog 104 #[.slice a2 n2 c2,.slice a3 n3 c3] W fun e w'=>∃ g c,e=.returned (.slice (some ⟨g,0,none⟩) (aT ins outs).length c)∧Row w' (some ⟨g,0,none⟩) (aT ins outs).length (aT ins outs)∧(Below w.heap.size w w'∧ae w' w.heap.size #[.int .i64 st,.int .i64 it,.slice a2 n2 c2,.slice a3 n3 c3,.slice a4 n4 c4,.slice a5 n5 c5] 27∧w'.cell? ⟨w.heap.size,2,none⟩=some (.slice a2 n2 c2)∧w'.cell? ⟨w.heap.size,3,none⟩=some (.slice a3 n3 c3)∧w'.cell? ⟨w.heap.size,4,none⟩=some (.slice a4 n4 c4))):=fun W hW =>
   (fE a2 a3 n2 c2 n3 c3 ins outs W (R2.out.below hW.1) (R3.out.below hW.1) (by omega) (by omega)).mono fun e w' ⟨g,c,he,ho,hb⟩=>⟨g,c,he,ho.row.2.2.2,⟨hW.1.trans (hb.mono hW.1.size),hW.2.1.below hb,(hW.2.1.below hb).cell rfl,(hW.2.1.below hb).cell rfl,(hW.2.1.below hb).cell rfl⟩⟩
 have C2:Hid (∀ W (g c:Nat),Below w.heap.size w W∧ae W w.heap.size #[.int .i64 st,.int .i64 it,.slice a2 n2 c2,.slice a3 n3 c3,.slice a4 n4 c4,.slice a5 n5 c5] 27∧W.cell? ⟨w.heap.size,2,none⟩=some (.slice a2 n2 c2)∧W.cell? ⟨w.heap.size,3,none⟩=some (.slice a3 n3 c3)∧W.cell? ⟨w.heap.size,4,none⟩=some (.slice a4 n4 c4)→Row W (some ⟨g,0,none⟩) (aT ins outs).length (aT ins outs)→Calls Tryz.prog 104 #[.slice (some ⟨g,0,none⟩) (aT ins outs).length c,.slice a4 n4 c4] W fun e w'=>dE w w.heap.size (aV ⟨st,it,ins,outs,ah,steps⟩) e w'∧(Below w.heap.size w w'∧ae w' w.heap.size #[.int .i64 st,.int .i64 it,.slice a2 n2 c2,.slice a3 n3 c3,.slice a4 n4 c4,.slice a5 n5 c5] 27∧w'.cell? ⟨w.heap.size,2,none⟩=some (.slice a2 n2 c2)∧w'.cell? ⟨w.heap.size,3,none⟩=some (.slice a3 n3 c3)∧w'.cell? ⟨w.heap.size,4,none⟩=some (.slice a4 n4 c4))):=fun W g c hW hr=>(fE _ a4 _ c n4 c4 (aT ins outs) ah W hr (R4.out.below hW.1) (by omega) (by omega)).mono fun e w' ⟨g',c',he,ho,hb⟩=>⟨⟨g',c',he,ho.mono hW.1.size,hW.1.trans (hb.mono hW.1.size)⟩,⟨hW.1.trans (hb.mono hW.1.size),hW.2.1.below hb,(hW.2.1.below hb).cell rfl,(hW.2.1.below hb).cell rfl,(hW.2.1.below hb).cell rfl⟩⟩
 clear hq hj hL
 go_enter Tryz.func150,Tryz.ntmps150
 go_wp2_with fail
 refine (CO.out _ (B0.out _)).mono ?_
 rintro e w1 ⟨rfl,hb⟩
 have B1:Hid (Below w.heap.size w w1):=(B0.out _).trans (hb.mono (B0.out _).size)
 have V1:=Lib.hid (V0.out.below hb)
 clear hb V0
 cases q with
 | false =>
  go_wp2_with fail
  go_ret
  obtain rfl:L=[]:=HL.out
  exact ⟨_,_,rfl,(ed _ [] 0 rfl (by unfold maxLen;omega)).mono B1.out.size,B1.out.alloc B1.out.size _⟩
 | true =>
  have V1d:=V1.out.drew
  have S0:Below w.heap.size w w1.drew∧ae w1.drew w.heap.size #[.int .i64 st,.int .i64 it,.slice a2 n2 c2,.slice a3 n3 c3,.slice a4 n4 c4,.slice a5 n5 c5] 27∧w1.drew.cell? ⟨w.heap.size,2,none⟩=some (.slice a2 n2 c2)∧w1.drew.cell? ⟨w.heap.size,3,none⟩=some (.slice a3 n3 c3)∧w1.drew.cell? ⟨w.heap.size,4,none⟩=some (.slice a4 n4 c4):=⟨B1.out.drew,V1d,V1d.cell rfl,V1d.cell rfl,V1d.cell rfl⟩
  clear V1d
  go_wp2_with fail
  go_region_held3 (fun w'=>Below w.heap.size w w'∧ae w' w.heap.size #[.int .i64 st,.int .i64 it,.slice a2 n2 c2,.slice a3 n3 c3,.slice a4 n4 c4,.slice a5 n5 c5] 27∧w'.cell? ⟨w.heap.size,2,none⟩=some (.slice a2 n2 c2)∧w'.cell? ⟨w.heap.size,3,none⟩=some (.slice a3 n3 c3)∧w'.cell? ⟨w.heap.size,4,none⟩=some (.slice a4 n4 c4))
   (first|exact hS2|exact hS1|exact S0)
   ((first|(go_at_call 104;refine (C2.out _ _ _ hS1 hR1).mono ?_;rintro e w' ⟨hO2,hS2⟩;obtain ⟨g2,d2,rfl,hO3,hB3⟩:=hO2)|(go_at_call 104;refine (C1.out _ S0).mono ?_;rintro e w' ⟨g,c,rfl,hR1,hS1⟩)))
  have HO:=Lib.hid hO3
  have HB:=Lib.hid hB3
  clear S0 hS1 hS2 hR1 hO3 hB3 C1 C2
  go_wp2_with fail
  go_ret
  obtain rfl:L=aV ⟨st,it,ins,outs,ah,steps⟩:=HL.out
  exact ⟨_,_,rfl,HO.out,HB.out⟩
theorem vU (a:IaD) (v:Value) (w:World) (h:aB w a v) (f2:a.ins.length≤1048576) (f3:a.outs.length≤1048576) (f4:a.ah.length≤1048576) (f5:a.steps.length≤1048576) :
  Calls Tryz.prog 154 #[v] w (bY w w.heap.size (if aJ a then aV a else [])):=by
 have CO:Hid (∀ W,Below w.heap.size w W→Calls Tryz.prog 110 #[v] W fun e w'=>e=.returned (.bool (aJ a))∧Below W.heap.size W w'):=fun W hW=>mV a v W (h.below hW) f2 f3 f4 f5
 obtain ⟨a2,n2,c2,a3,n3,c3,a4,n4,c4,a5,n5,c5,rfl,r2,r3,r4,r5⟩:=h
 obtain ⟨st,it,ins,outs,ah,steps⟩:=a
 simp only at r2 r3 r4 r5 f2 f3 f4 f5
 have hj:=iT ins outs
 have R2:=Lib.hid r2
 have R3:=Lib.hid r3
 have R4:=Lib.hid r4
 rw [r2.1] at hj
 rw [r3.1] at hj
 rw [r2.1] at f2
 rw [r3.1] at f3
 rw [r4.1] at f4
 clear r2 r3 r4 r5 f5
 have HJ:=Lib.hid hj
 obtain ⟨q,hq⟩:∃ q,q=aJ ⟨st,it,ins,outs,ah,steps⟩:=⟨_,rfl⟩
 rw [← hq] at CO ⊢
 obtain ⟨L,hL⟩:∃ L,L=if q then aV ⟨st,it,ins,outs,ah,steps⟩ else []:=⟨_,rfl⟩
 rw [← hL]
 have HL:=Lib.hid hL
 have B0:Hid (∀ o,Below w.heap.size w (w.alloc o)):=fun o=>(Below.refl _ _).alloc (Nat.le_refl _) _
 have V0:=Lib.hid (ae.new w #[.int .i64 st,.int .i64 it,.slice a2 n2 c2,.slice a3 n3 c3,.slice a4 n4 c4,.slice a5 n5 c5] 27 rfl)
 have C1:Hid (∀ W,Below w.heap.size w W∧ae W w.heap.size #[.int .i64 st,.int .i64 it,.slice a2 n2 c2,.slice a3 n3 c3,.slice a4 n4 c4,.slice a5 n5 c5] 27∧W.cell? ⟨w.heap.size,2,none⟩=some (.slice a2 n2 c2)∧W.cell? ⟨w.heap.size,3,none⟩=some (.slice a3 n3 c3)∧W.cell? ⟨w.heap.size,4,none⟩=some (.slice a4 n4 c4)→Calls Tryz.prog 68 #[.slice a2 n2 c2,.slice a3 n3 c3] W fun e w'=>∃ ad c,e=.returned (.slice ad (aT ins outs).length c)∧Row w' ad (aT ins outs).length (aT ins outs)∧(Below w.heap.size w w'∧ae w' w.heap.size #[.int .i64 st,.int .i64 it,.slice a2 n2 c2,.slice a3 n3 c3,.slice a4 n4 c4,.slice a5 n5 c5] 27∧w'.cell? ⟨w.heap.size,2,none⟩=some (.slice a2 n2 c2)∧w'.cell? ⟨w.heap.size,3,none⟩=some (.slice a3 n3 c3)∧w'.cell? ⟨w.heap.size,4,none⟩=some (.slice a4 n4 c4))):=fun W hW =>
   (gG a2 a3 n2 c2 n3 c3 ins outs W (R2.out.below hW.1) (R3.out.below hW.1) (by omega) (by omega)).mono fun e w' ⟨v,he,ho,hb⟩=>by
    obtain ⟨ad,c,rfl⟩:=ho.form
    exact ⟨ad,c,he,ho.row.2.2.2,⟨hW.1.trans (hb.mono hW.1.size),hW.2.1.below hb,(hW.2.1.below hb).cell rfl,(hW.2.1.below hb).cell rfl,(hW.2.1.below hb).cell rfl⟩⟩
 have C2:Hid (∀ W (ad:Option Addr) (c:Nat),Below w.heap.size w W∧ae W w.heap.size #[.int .i64 st,.int .i64 it,.slice a2 n2 c2,.slice a3 n3 c3,.slice a4 n4 c4,.slice a5 n5 c5] 27∧W.cell? ⟨w.heap.size,2,none⟩=some (.slice a2 n2 c2)∧W.cell? ⟨w.heap.size,3,none⟩=some (.slice a3 n3 c3)∧W.cell? ⟨w.heap.size,4,none⟩=some (.slice a4 n4 c4)→Row W ad (aT ins outs).length (aT ins outs)→Calls Tryz.prog 68 #[.slice ad (aT ins outs).length c,.slice a4 n4 c4] W fun e w'=>bY w w.heap.size (aV ⟨st,it,ins,outs,ah,steps⟩) e w'∧(Below w.heap.size w w'∧ae w' w.heap.size #[.int .i64 st,.int .i64 it,.slice a2 n2 c2,.slice a3 n3 c3,.slice a4 n4 c4,.slice a5 n5 c5] 27∧w'.cell? ⟨w.heap.size,2,none⟩=some (.slice a2 n2 c2)∧w'.cell? ⟨w.heap.size,3,none⟩=some (.slice a3 n3 c3)∧w'.cell? ⟨w.heap.size,4,none⟩=some (.slice a4 n4 c4))):=fun W ad c hW hr=>(gG _ a4 _ c n4 c4 (aT ins outs) ah W hr (R4.out.below hW.1) (by omega) (by omega)).mono fun e w' ⟨v',he,ho,hb⟩=>⟨⟨v',he,ho.mono hW.1.size,hW.1.trans (hb.mono hW.1.size)⟩,⟨hW.1.trans (hb.mono hW.1.size),hW.2.1.below hb,(hW.2.1.below hb).cell rfl,(hW.2.1.below hb).cell rfl,(hW.2.1.below hb).cell rfl⟩⟩
 clear hq hj hL
 go_enter Tryz.func154,Tryz.ntmps154
 go_wp2_with fail
 refine (CO.out _ (B0.out _)).mono ?_
 rintro e w1 ⟨rfl,hb⟩
 have B1:Hid (Below w.heap.size w w1):=(B0.out _).trans (hb.mono (B0.out _).size)
 have V1:=Lib.hid (V0.out.below hb)
 clear hb V0
 cases q with
 | false =>
  go_wp2_with fail
  go_ret
  obtain rfl:L=[]:=HL.out
  exact ⟨_,rfl,World.ownsRow_nil _ _ _ _,B1.out⟩
 | true =>
  have V1d:=V1.out.drew
  have S0:Below w.heap.size w w1.drew∧ae w1.drew w.heap.size #[.int .i64 st,.int .i64 it,.slice a2 n2 c2,.slice a3 n3 c3,.slice a4 n4 c4,.slice a5 n5 c5] 27∧w1.drew.cell? ⟨w.heap.size,2,none⟩=some (.slice a2 n2 c2)∧w1.drew.cell? ⟨w.heap.size,3,none⟩=some (.slice a3 n3 c3)∧w1.drew.cell? ⟨w.heap.size,4,none⟩=some (.slice a4 n4 c4):=⟨B1.out.drew,V1d,V1d.cell rfl,V1d.cell rfl,V1d.cell rfl⟩
  clear V1d
  go_wp2_with fail
  go_region_held3 (fun w'=>Below w.heap.size w w'∧ae w' w.heap.size #[.int .i64 st,.int .i64 it,.slice a2 n2 c2,.slice a3 n3 c3,.slice a4 n4 c4,.slice a5 n5 c5] 27∧w'.cell? ⟨w.heap.size,2,none⟩=some (.slice a2 n2 c2)∧w'.cell? ⟨w.heap.size,3,none⟩=some (.slice a3 n3 c3)∧w'.cell? ⟨w.heap.size,4,none⟩=some (.slice a4 n4 c4))
   (first|exact hS2|exact hS1|exact S0)
   ((first|(go_at_call 68;refine (C2.out _ _ _ hS1 hR1).mono ?_;rintro e w' ⟨hO2,hS2⟩;obtain ⟨v2,rfl,hO3,hB3⟩:=hO2)|(go_at_call 68;refine (C1.out _ S0).mono ?_;rintro e w' ⟨ad,c,rfl,hR1,hS1⟩)))
  have HO:=Lib.hid hO3
  have HB:=Lib.hid hB3
  clear S0 hS1 hS2 hR1 hO3 hB3 C1 C2
  go_wp2_with fail
  go_ret
  obtain rfl:L=aV ⟨st,it,ins,outs,ah,steps⟩:=HL.out
  exact ⟨_,rfl,HO.out,HB.out⟩
end Go.Proofs.YtnglogkkkpegnaaGreat
