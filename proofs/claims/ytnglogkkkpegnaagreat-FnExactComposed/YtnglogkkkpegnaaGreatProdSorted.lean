import Derived.Test.YtnglogkkkpegnaaGreatProdSort
import Derived.Test.YtnglogkkkpegnaaGreatAnyFrom
import Derived.Test.YtnglogkkkpegnaaGreatCopied
import Derived.Deep.RegionLaw
import Derived.Deep.RegionLawGrows
import Derived.Test.YtnglogkkkpegnaaGreatClashMath
import Derived.Test.YtnglogkkkpegnaaGreatMarkIa2
import Derived.Test.YtnglogkkkpegnaaGreatIaLaw
import Derived.Test.YtnglogkkkpegnaaGreatIaMath
import Derived.Test.YtnglogkkkpegnaaGreatSpecIaOk
import Derived.Test.YtnglogkkkpegnaaGreatStepRows
import Derived.Test.YtnglogkkkpegnaaGreatRowOf
import Derived.Test.YtnglogkkkpegnaaGreatReachMath
import Derived.WalkMore
import Derived.Test.YtnglogkkkpegnaaGreatActs
import Derived.Test.YtnglogkkkpegnaaGreatRegion
import Derived.Test.YtnglogkkkpegnaaGreatProdSteps
import Derived.Test.YtnglogkkkpegnaaGreatShared
set_option maxHeartbeats 6400000
set_option maxRecDepth 20000
namespace Go.Proofs.YtnglogkkkpegnaaGreat
open Go.RowKit Go.Sort Go.Proofs Go.Shelf
theorem holdsV {w:World} {g:Nat} {cur:Array Value} {e:TypeId} {vs:List Value} (hb:w.heap[g]?=some (.cells cur e (0,0))) (ht:cur.toList.take vs.length=vs):Holds id w g 0 vs.toArray:=fun j hj=>by
 have hl:j<vs.length:=by simpa using hj
 have hc:cur[j]?=some vs[j]:=by rw [← Array.getElem?_toList,← List.getElem?_take_of_lt hl,ht,List.getElem?_eq_getElem hl]
 constructor
 ·simp [World.cell?,hb,hc,hl]
 ·simp [World.frozen?,hb]
theorem zf (w:World) (g n:Nat) (os:Array Obj) (d:Array Value) (k:Nat) (hk:k<w.heap.size) :
  (grow (putRow id (Sort.ahead w n) g 0 d) os).heap[k]?=if g=k then (w.heap[k]?).map (onCells (putCells id 0 d)) else w.heap[k]?:=by
 rw [heap_grow_old _ _ (by simpa using hk)]
 by_cases e:g=k <;> simp [putRow,mapBlock,Sort.ahead,Array.getElem?_modify,e]
theorem Eb {w:World} {g n:Nat} {os:Array Obj} {cur:Array Value} {e:TypeId} {fr:Nat × Nat} (d:Array Value) (hb:w.heap[g]?=some (.cells cur e fr)) :
  (grow (putRow id (Sort.ahead w n) g 0 d) os).heap[g]?=some (.cells (putCells id 0 d cur) e fr):=by
 rw [zf w g n os d g (Array.getElem?_eq_some_iff.1 hb).1,if_pos rfl,hb]
 rfl
theorem Ar {w:World} {g n:Nat} {os:Array Obj} (d:Array Value):w.grownBy (grow (putRow id (Sort.ahead w n) g 0 d) os) (some g) where
 os:=rfl
 tape:=rfl
 output:=rfl
 size:=by simp
 block k hk hne:=by rw [zf w g n os d k hk,if_neg (fun e=>hne (by rw [e]))]
theorem BG (cur:Array Value) (vs:List Value) (h:vs.length≤cur.size):(putCells id 0 vs.toArray cur).toList.take vs.length=vs:=by
 refine List.ext_getElem (by simp [putCells];omega) (fun j h1 h2=>?_)
 simp [putCells,h2]
theorem Au (ss:List St):flatK dY 3 ss.toArray=(flat ss).toArray:=by
 refine ext_get! (by simp [flat_length]) (fun t ht=>?_)
 have ht':t<ss.length*3:=by simpa using ht
 rw [get_flatK _ _ _ _ (by simpa using ht')]
 have hj:t / 3<ss.length:=by omega
 obtain ⟨f0,f1,f2⟩:=yE ss (t / 3) ss[t / 3] (List.getElem?_eq_getElem hj)
 have e1:ss.toArray[t / 3]! = ss[t / 3]:=by simp [hj]
 have e2:(flat ss).toArray[t]! = ((flat ss)[t]?).getD default:=by simp [List.getElem!_eq_getElem?_getD]
 rw [e1,e2]
 have h3:t % 3=0∨t % 3=1∨t % 3=2:=by omega
 rcases h3 with h3|h3|h3
 ·rw [show t / 3*3=t by omega] at f0
  rw [h3,f0];rfl
 ·rw [show t / 3*3+1=t by omega] at f1
  rw [h3,f1];rfl
 ·rw [show t / 3*3+2=t by omega] at f2
  rw [h3,f2];rfl
def nO (ss:List St):List St:=ss.mergeSort fun x y => !(ltOf kU) y x
theorem rX (ss:List St):(nO ss).length=ss.length:=List.length_mergeSort ss
theorem IV {ss:List St} {u:St}:u∈nO ss↔u∈ss:=List.mem_mergeSort
theorem FI {ss:List St} (h:ss.Pairwise (·≠·)):(nO ss).Pairwise Ahead:=by
 have h1:(nO ss).Pairwise fun x y=>(!(ltOf kU) y x)=true:=by
  refine List.pairwise_mergeSort (le:=fun x y => !(ltOf kU) y x) ?_ ?_ ss
  ·intro x y z k1 k2
   simp only [Bool.not_eq_true'] at k1 k2 ⊢
   exact Df.ntrans z y x k2 k1
  ·intro x y
   simp only [Bool.or_eq_true,Bool.not_eq_true']
   cases k:ltOf kU y x with
   | false=>exact .inl rfl
   | true =>
    refine .inr ?_
    cases k2:ltOf kU x y with
    | false=>rfl
    | true=>have:=Df.trans x y x k2 k;rw [Df.irrefl] at this;cases this
 have h2:(nO ss).Pairwise (·≠·):=(List.Perm.pairwise_iff (fun {x y} (h:x≠y)=>h.symm) (List.mergeSort_perm ss _)).2 h
 refine (h1.and h2).imp ?_
 rintro x y ⟨k1,k2⟩
 simp only [Bool.not_eq_true',yG] at k1
 apply Classical.byContradiction
 intro k3
 exact k2 (vw k3 k1)
theorem Ec (v:Value) (n:Nat) (ss:List St) (base:Nat) (w:World) (h:OwnsS 77 w base v n ss) (hn:n≤1000000) :
  Calls Tryz.prog 64 #[v,.func (.func 65) #[] #[] ] w fun e w'=>e=.returned (.tuple #[])∧OwnsS 77 w' base v n (nO ss)∧w.grownBy w' v.ownBlock:=by
 have hl:=h.length
 rcases h.2 with ⟨rfl,rfl⟩|⟨g,cap,cur,rfl,hbase,hb,h1,h2,h3,h4⟩
 ·have hcon:=AnyF.slices_SortFunc_none Tryz.laysSortFunc none 0 (.func (.func 65) #[] #[]) w
  change Calls Tryz.prog 64 _ _ _ at hcon
  refine hcon.mono ?_
  rintro e w' ⟨rfl,rfl⟩
  obtain rfl:ss=[]:=List.length_eq_zero_iff.1 hl
  have e0:nO []=[]:=List.length_eq_zero_iff.1 (rX [])
  rw [e0]
  exact ⟨rfl,h,World.grownBy.refl _ _⟩
 ·have eg:∀ args w,(callFunc 65 args).run Tryz.prog w=.ok (.enter 65 args) w:=enters_of Tryz.func65 (by kernel_rfl) rfl
  have hH:HoldsK dY 3 w g 0 ss.toArray:=by
   unfold HoldsK
   rw [Au]
   exact holdsV hb (by rw [flat_length,hl];exact h4)
  have hg:g<w.heap.size:=(Array.getElem?_eq_some_iff.1 hb).1
  have hcmp:CmpLays Tryz.prog 65 #[] dY 3 kU g 0 ss.toArray.size w:=fun _ _ _ _ x y=>DT x y _
  have hcon:=AnyQ.slices_SortFunc_total Tryz.laysSortFunc 3 Tryz.isAgg77 Tryz.sizeOf77 dY (fun _=>rfl) (fun x v hv=>by simp [dY] at hv;rcases hv with rfl|rfl|rfl <;> rfl) kU Df 65 #[] g 0 cap ss.toArray w eg hcmp hH hg (by simp;omega) (fun x y k1 k2=>by
   rw [yG] at k1 k2
   exact vw k1 k2)
  change Calls Tryz.prog 64 _ _ _ at hcon
  have e0:ss.toArray.size=n:=by simp [hl]
  rw [e0] at hcon
  refine hcon.mono ?_
  rintro e w' ⟨rfl,q,os,rfl⟩
  have e1:ss.toArray.toList.mergeSort (fun x y => !(ltOf kU) y x)=nO ss:=rfl
  rw [e1]
  unfold sortWorldK putRowK
  rw [Au]
  refine ⟨rfl,⟨by rw [flat_length,rX,hl],.inr ⟨g,cap,_,rfl,hbase,Eb _ hb,h1,h2,by simp [putCells,h3],?_⟩⟩,Ar _⟩
  have e2:(flat (nO ss)).length=n*3:=by rw [flat_length,rX,hl]
  rw [← e2]
  exact BG cur _ (by rw [e2,h3];exact Nat.mul_le_mul_right 3 h1)
def mZ (a b:IaD):List St:=nO (nN a b)
theorem qx {a b:IaD} (h:iH a b=true):(mZ a b).Pairwise Ahead:=FI (F6 h)
theorem sN {a b:IaD} {u:St}:u∈mZ a b↔u∈nN a b:=IV
open Go.RowKit
def Ed (w:World) (ad:Option Addr) (n:Nat) (xs:List Int):Prop:=Row w ad n xs∧∃ b o,ad=some ⟨b,o,none⟩
theorem Ed.below {w w':World} {ad:Option Addr} {n:Nat} {xs:List Int} (h:Ed w ad n xs) (hb:Below w.heap.size w w'):Ed w' ad n xs:=⟨Row.below h.1 hb,h.2⟩
def uo (w:World) (ad:Option Addr) (n:Nat) (xs:List Int) (u:Value):Prop:=Ed w ad n xs∧∀ b,u=.pointer (some ⟨b,0,none⟩)→∀ q,ad=some q→0<n→q.block≠b
theorem Row.grown {w w':World} {a:Option Addr} {n b:Nat} {xs:List Int} (h:Row w a n xs) (hg:w.grownBy w' (some b)) (hb:∀ q,a=some q→0<n→q.block≠b):Row w' a n xs:=by
 refine ⟨h.1,fun hn=>?_⟩
 obtain ⟨b',off,e,hlt,hc⟩:=h.2 hn
 have hne:b'≠b:=hb _ e hn
 refine ⟨b',off,e,Nat.lt_of_lt_of_le hlt hg.size,fun j hj=>?_⟩
 rw [World.cell?_of_block (hg.block b' hlt (fun e=>hne (Option.some.inj e)))]
 exact hc j hj
theorem Row.dn {w w':World} {a:Option Addr} {n:Nat} {xs:List Int} {r:Option Nat} (h:Row w a n xs) (hg:w.grownBy w' r) (hb:∀ q,a=some q→0<n→some q.block≠r):Row w' a n xs:=by
 refine ⟨h.1,fun hn=>?_⟩
 obtain ⟨b',off,e,hlt,hc⟩:=h.2 hn
 refine ⟨b',off,e,Nat.lt_of_lt_of_le hlt hg.size,fun j hj=>?_⟩
 rw [World.cell?_of_block (hg.block b' hlt (hb _ e hn))]
 exact hc j hj
theorem Row.lt {w:World} {a:Option Addr} {n:Nat} {xs:List Int} (h:Row w a n xs):∀ q,a=some q→0<n→q.block<w.heap.size:=by
 intro q hq hn
 obtain ⟨b,off,e,hlt,_⟩:=h.2 hn
 rw [hq] at e
 cases e
 exact hlt
theorem uo.below {w w':World} {ad:Option Addr} {n:Nat} {xs:List Int} {u:Value} (h:uo w ad n xs u) (hb:Below w.heap.size w w'):uo w' ad n xs u:=⟨h.1.below hb,h.2⟩
theorem yj {P:Program} {ops:Array Oper} {o:Oper} {a:Act} {w:World} {K:Act→World→Prop} {Q:Exit→Act→World→Prop} {E:Prop} (hgd:o.guard=none) (s x:Operand)
  (hop:o.op=Op.call { callee:=Callee.builtin Builtin.append,args:=#[s,x],argTypes:=#[ 24,24 ] }) (i:TypeInfo) (h1:P.underlying 24=some (.slice 3)) (h2:P.info? 3=some i) (h3:i.zero=some (.int .i64 0)) (h4:i.size=1) (h5:i.bytes=8)
  (g:Nat) (hs:a.eval s=.slice (some ⟨g,0,none⟩) 0 0) (b off n c:Nat) (xs:List Int) (hx:a.eval x=.slice (some ⟨b,off,none⟩) n c) (hr:Row w (some ⟨b,off,none⟩) n xs) (hn:n≤1048576)
  (hK:∀ a' c' w',Ed w' a' n xs→Below w.heap.size w w'→(∀ q,a'=some q→0<n→w.heap.size≤q.block)→K (a.put o.dst (.slice a' n c')) w') :
  if Region.wanted o (yielded ops a.tmps)=true then Oper.wp P o a w K Q else E:=by
 by_cases h0:n=0
 ·subst h0
  obtain rfl:xs=[]:=List.length_eq_zero_iff.1 hr.1
  refine step_append_room hgd s x 24 hop 3 i 1 h1 h2 h4 g 0 0 0 hs ⟨b,off,none⟩ 0 c [] hx rfl (fun j u hu=>by simp at hu) (fun u hu=>by simp at hu) (by omega) (fun j hj=>by simp at hj) ?_
  exact hK _ _ _ ⟨⟨rfl,fun h=>absurd h (by omega)⟩,g,0,rfl⟩ (Below.refl _ _) (fun _ _ h=>absurd h (by omega))
 ·have hc:=(hr.src (c:=c) (fun h=>by cases h)).2.2 ⟨b,off,none⟩ rfl
  have hl:=hr.1
  refine step_append_grows hgd s x 24 hop 3 i (.int .i64 0) 1 8 h1 h2 h3 h4 h5 rfl (by decide) (some ⟨g,0,none⟩) 0 0 [] hs (fun h=>by cases h) rfl (fun _ _ j u hu=>by simp at hu) ⟨b,off,none⟩ n c (xs.map (Value.int .i64)) hx (by simp [hl]) hc (ints_oneCell _ _) (by omega) (by unfold maxLen;omega) (by omega) ?_
  intro v' w' hown hg
  have ho:aj w' w.heap.size v' n xs:=by
   have:=hown
   simpa [aj] using this
  obtain ⟨ad,cc,rfl⟩:=ho.form
  have hN:∃ b o,ad=some ⟨b,o,none⟩:=by
   obtain ⟨b,o,e,_⟩:=ho.row.2.2.2.2 (by omega)
   exact ⟨b,o,e⟩
  exact hK ad cc w' ⟨ho.row.2.2.2,hN⟩ ((Below.refl _ _).grown hg (Nat.le_refl _) (fun k h=>by cases h)) (fun q hq _=>by subst hq;exact (ho.lt q.block rfl).1)
theorem ae.sets {w:World} {b:Nat} {t:TypeId} {z0 z1 z2 z3 z4 z5:Value} (h:ae w b #[z0,z1,z2,z3,z4,z5] t) (v0 v1 v2 v3 v4 v5:Value):ae (w.setCells b 0 [v0,v1,v2,v3,v4,v5]) b #[v0,v1,v2,v3,v4,v5] t :=
 ((((((h.set 0 v0).set 1 v1).set 2 v2).set 3 v3).set 4 v4).set 5 v5)
open Go.RowKit
def fQ (a b:IaD):Bool:=iH a b&&decide ((nN a b).length≤400)
def aQ (a b:IaD):IaD:=⟨a.states*b.states,fJ b.states (a.init,b.init),dK (aT a.ins b.ins) (aY a b),dK (aT a.outs b.outs) (aY a b),aT (aT a.ah b.ah) (aY a b),mZ a b⟩
def gI (a b:IaD):IaD:=if fQ a b then aQ a b else ja
open Go.RowKit
def dS (w:World) (base:Nat) (a:IaD) (v:Value):Prop :=
 ∃ x2 x3 x4 x5:Value,v=.agg #[.int .i64 a.states,.int .i64 a.init,x2,x3,x4,x5]∧aj w base x2 a.ins.length a.ins∧aj w base x3 a.outs.length a.outs∧aj w base x4 a.ah.length a.ah∧OwnsS 77 w base x5 a.steps.length a.steps ∧
  (∀ b,x2.ownBlock=some b→x3.ownBlock≠some b∧x4.ownBlock≠some b∧x5.ownBlock≠some b)∧(∀ b,x3.ownBlock=some b→x4.ownBlock≠some b∧x5.ownBlock≠some b)∧∀ b,x4.ownBlock=some b→x5.ownBlock≠some b
theorem di (s i:Int) (a2:Option Addr) (n2 c2:Nat) (a3:Option Addr) (n3 c3:Nat) (a4:Option Addr) (n4 c4:Nat) (a5:Option Addr) (n5 c5:Nat):(#[.int .i64 s,.int .i64 i,.slice a2 n2 c2,.slice a3 n3 c3,.slice a4 n4 c4,.slice a5 n5 c5]:Array Value).all (·.oneCell')=true :=
 all_oneCell_toArray (fun u hu=>by
  simp only [List.mem_cons,List.not_mem_nil,or_false] at hu
  rcases hu with rfl|rfl|rfl|rfl|rfl|rfl <;> rfl)
def fU (a:IaD):IaD :=
 ⟨a.states,a.init,marks 1 a.ins.length,marks (1+(a.ins.length:Int)) a.outs.length,marks (1+(a.ins.length:Int)+(a.outs.length:Int)) a.ah.length,gW (1+(a.ins.length:Int)+(a.outs.length:Int)+(a.ah.length:Int)) a.steps.length⟩
def vX (a:IaD):Int:=1+(a.ins.length:Int)+(a.outs.length:Int)+(a.ah.length:Int)+3*(a.steps.length:Int)
theorem dS.below {w w':World} {base:Nat} {a:IaD} {v:Value} (h:dS w base a v) (hb:Below w.heap.size w w'):dS w' base a v:=by
 obtain ⟨x2,x3,x4,x5,e,o2,o3,o4,o5,p⟩:=h
 exact ⟨x2,x3,x4,x5,e,o2.below hb,o3.below hb,o4.below hb,o5.below hb,p⟩
theorem dS.row {w:World} {base:Nat} {a:IaD} {v:Value} (h:dS w base a v):aB w a v:=by
 obtain ⟨x2,x3,x4,x5,rfl,o2,o3,o4,o5,_⟩:=h
 obtain ⟨b2,d2,rfl⟩:=o2.form
 obtain ⟨b3,d3,rfl⟩:=o3.form
 obtain ⟨b4,d4,rfl⟩:=o4.form
 obtain ⟨b5,d5,rfl⟩:=o5.form
 exact ⟨_,_,_,_,_,_,_,_,_,_,_,_,rfl,o2.row.2.2.2,o3.row.2.2.2,o4.row.2.2.2,o5.row.2.2.2⟩
theorem OwnsS.dn {e:TypeId} {w w':World} {base n:Nat} {v:Value} {ss:List St} {r:Option Nat} (h:OwnsS e w base v n ss) (hg:w.grownBy w' r) (hr:∀ b,r=some b→v.ownBlock≠some b):OwnsS e w' base v n ss :=
 h.keep hg (fun k hk he=>hr k he.symm hk)
theorem aj.dn {w w':World} {base n:Nat} {v:Value} {xs:List Int} {r:Option Nat} (h:aj w base v n xs) (hg:w.grownBy w' r) (hr:∀ b,r=some b→v.ownBlock≠some b):aj w' base v n xs :=
 h.keep hg (fun k hk he=>hr k he.symm hk)
theorem GM (a:IaD) (v:Value) (base:Nat) (w:World) (h:dS w base a v) (hbase:base≤w.heap.size) (f2:a.ins.length≤2097152) (f3:a.outs.length≤2097152) (f4:a.ah.length≤2097152) (f5:a.steps.length≤2097152) (bx:Nat) (C:Array Value) (ty:TypeId) (hv:ae w bx C ty) (hbx:∀ y0 y1 y2 y3 y4 y5:Value,v=.agg #[y0,y1,y2,y3,y4,y5]→y2.ownBlock≠some bx∧y3.ownBlock≠some bx∧y4.ownBlock≠some bx∧y5.ownBlock≠some bx) :
  Calls Tryz.prog 27 #[v,.int .i64 1] w fun e w'=>e=.returned (.int .i64 (vX a))∧dS w' base (fU a) v∧Below base w w'∧ae w' bx C ty:=by
 obtain ⟨x2,x3,x4,x5,rfl,o2,o3,o4,o5,p2,p3,p4⟩:=h
 have HX:=Lib.hid (hbx _ _ _ _ _ _ rfl)
 clear hbx
 obtain ⟨st,it,ins,outs,ah,steps⟩:=a
 simp only at f2 f3 f4 f5 o2 o3 o4 o5
 have O2:=Lib.hid (o2.alloc (.cells #[.int .i64 st,.int .i64 it,x2,x3,x4,x5] 27))
 have O3:=Lib.hid (o3.alloc (.cells #[.int .i64 st,.int .i64 it,x2,x3,x4,x5] 27))
 have O4:=Lib.hid (o4.alloc (.cells #[.int .i64 st,.int .i64 it,x2,x3,x4,x5] 27))
 have O5:=Lib.hid (o5.alloc (.cells #[.int .i64 st,.int .i64 it,x2,x3,x4,x5] 27))
 have V0:=Lib.hid (ae.new w #[.int .i64 st,.int .i64 it,x2,x3,x4,x5] 27 rfl)
 have Y0:=Lib.hid (hv.alloc (.cells #[.int .i64 st,.int .i64 it,x2,x3,x4,x5] 27))
 clear hv
 have B0:Hid (∀ o,Below base w (w.alloc o)):=fun o=>(Below.refl _ _).alloc hbase _
 have t2:=o2.lt
 have t3:=o3.lt
 have t4:=o4.lt
 have t5:=o5.lt
 have P2:=Lib.hid p2
 have P3:=Lib.hid p3
 have P4:=Lib.hid p4
 have T2:=Lib.hid t2
 have T3:=Lib.hid t3
 have T4:=Lib.hid t4
 have T5:=Lib.hid t5
 obtain ⟨b2,d2,e2⟩:=o2.form
 obtain ⟨b3,d3,e3⟩:=o3.form
 obtain ⟨b4,d4,e4⟩:=o4.form
 obtain ⟨b5,d5,e5⟩:=o5.form
 clear o2 o3 o4 o5 p2 p3 p4 t2 t3 t4 t5
 subst e2 e3 e4 e5
 go_enter Tryz.func27,Tryz.ntmps27
 go_wp2_with fail
 refine (qY _ ins.length base 1 ins _ O2.out (by omega) (by omega) (by omega)).mono ?_
 rintro e w1 ⟨rfl,ho,hg⟩
 have Y1:=Lib.hid (Y0.out.grown hg (fun e=>HX.out.1 e.symm))
 clear Y0
 have V1:=Lib.hid (V0.out.grown hg (fun e=>by have:=(T2.out _ e.symm).2;omega))
 have O2a:=Lib.hid ho
 have O3a:=Lib.hid (O3.out.dn hg (fun b hb=>(P2.out b hb).1))
 have O4a:=Lib.hid (O4.out.dn hg (fun b hb=>(P2.out b hb).2.1))
 have O5a:=Lib.hid (O5.out.dn hg (fun b hb=>(P2.out b hb).2.2))
 have B1:Hid (Below base w w1):=(B0.out _).grown hg (Nat.le_trans hbase (B0.out _).size) (fun k hk=>(T2.out k hk).1)
 clear hg ho O2 O3 O4 O5 V0 B0
 have k1:=V1.out.cell (j:=3) rfl
 go_wp2_with fail
 clear k1
 refine (qY _ outs.length base _ outs _ O3a.out (by omega) (by omega) (by omega)).mono ?_
 rintro e w2 ⟨rfl,ho,hg⟩
 have Y2:=Lib.hid (Y1.out.grown hg (fun e=>HX.out.2.1 e.symm))
 clear Y1
 have V2:=Lib.hid (V1.out.grown hg (fun e=>by have:=(T3.out _ e.symm).2;omega))
 have O2b:=Lib.hid (O2a.out.dn hg (fun b hb h=>(P2.out b h).1 hb))
 have O3b:=Lib.hid ho
 have O4b:=Lib.hid (O4a.out.dn hg (fun b hb=>(P3.out b hb).1))
 have O5b:=Lib.hid (O5a.out.dn hg (fun b hb=>(P3.out b hb).2))
 have B2:Hid (Below base w w2):=B1.out.grown hg (Nat.le_trans hbase B1.out.size) (fun k hk=>(T3.out k hk).1)
 clear hg ho O2a O3a O4a O5a V1 B1
 have k1:=V2.out.cell (j:=4) rfl
 go_wp2_with fail
 clear k1
 refine (qY _ ah.length base _ ah _ O4b.out (by omega) (by omega) (by omega)).mono ?_
 rintro e w3 ⟨rfl,ho,hg⟩
 have Y3:=Lib.hid (Y2.out.grown hg (fun e=>HX.out.2.2.1 e.symm))
 clear Y2
 have V3:=Lib.hid (V2.out.grown hg (fun e=>by have:=(T4.out _ e.symm).2;omega))
 have O2c:=Lib.hid (O2b.out.dn hg (fun b hb h=>(P2.out b h).2.1 hb))
 have O3c:=Lib.hid (O3b.out.dn hg (fun b hb h=>(P3.out b h).1 hb))
 have O4c:=Lib.hid ho
 have O5c:=Lib.hid (O5b.out.dn hg (fun b hb=>P4.out b hb))
 have B3:Hid (Below base w w3):=B2.out.grown hg (Nat.le_trans hbase B2.out.size) (fun k hk=>(T4.out k hk).1)
 clear hg ho O2b O3b O4b O5b V2 B2
 have k1:=V3.out.cell (j:=5) rfl
 go_wp2_with fail
 clear k1
 refine (BU _ steps.length base _ steps _ O5c.out (by omega) (by omega) (by omega)).mono ?_
 rintro e w4 ⟨rfl,ho,hg⟩
 have Y4:=Lib.hid (Y3.out.grown hg (fun e=>HX.out.2.2.2 e.symm))
 clear Y3
 have O2d:=Lib.hid (O2c.out.dn hg (fun b hb h=>(P2.out b h).2.2 hb))
 have O3d:=Lib.hid (O3c.out.dn hg (fun b hb h=>(P3.out b h).2 hb))
 have O4d:=Lib.hid (O4c.out.dn hg (fun b hb h=>P4.out b h hb))
 have O5d:=Lib.hid ho
 have B4:Hid (Below base w w4):=B3.out.grown hg (Nat.le_trans hbase B3.out.size) (fun k hk=>(T5.out k hk).1)
 clear hg ho O2c O3c O4c O5c V3 B3
 go_wp2_with fail
 go_ret
 refine ⟨dP rfl,⟨_,_,_,_,rfl,?_,?_,?_,?_,P2.out,P3.out,P4.out⟩,B4.out,Y4.out⟩
 ·simp only [fU,jU]
  exact O2d.out
 ·simp only [fU,jU]
  exact O3d.out
 ·simp only [fU,jU]
  exact O4d.out
 ·simp only [fU,sZ]
  exact O5d.out
theorem IW (k:Int) (n j:Nat) (h:j<n):(gW k n)[j]?=some (k+3*(j:Int),k+3*(j:Int)+1,k+3*(j:Int)+1+1):=by simp [gW,h]
theorem IX (a:Option Addr) (n c:Nat) (k0:Int) (w:World) (h:eP w a n (gW k0 n)) (hn:n≤274877906944) (hk0:0≤k0) (hk1:k0≤4398046511104) :
  Calls Tryz.prog 41 #[.slice a n c,.int .i64 k0] w fun e w'=>e=.returned (.int .i64 (k0+3*(n:Int)))∧w'=w:=by
 obtain ⟨hl,hc⟩:=h
 have HC:=Lib.hid hc
 clear hl hc
 go_enter Tryz.func41,Tryz.ntmps41
 go_wp2
 go_loop [1,5] (fun k i=>∃ j:Nat,j≤n∧i=.int .i64 j∧k=.int .i64 (k0+3*(j:Int))) (fun _ i=>n - (intOf i).toNat)
 case atStart=>exact ⟨0,Nat.zero_le _,rfl,by simp⟩
 case round =>
  obtain ⟨j,hj,rfl,rfl⟩:=hrel
  by_cases hlt:j<n
  ·obtain ⟨b,off,rfl,hb,hcell⟩:=HC.out (by omega)
   obtain ⟨g0,g1,g2⟩:=hcell j _ (IW k0 n j hlt)
   simp only at g0 g1 g2
   clear hcell
   go_wp2
   go_round
   case rel=>exact ⟨j+1,by omega,by go_num,by go_num⟩
   case measure=>simp [intOf];omega
  ·have HJ:Hid (j=n):=by unfold Hid;omega
   go_wp2
   go_ret
   exact ⟨dP (by rw [HJ.out]),rfl⟩
theorem Aw (a:IaD) (v:Value) (w:World) (h:aB w (fU a) v) (f2:a.ins.length≤2097152) (f3:a.outs.length≤2097152) (f4:a.ah.length≤2097152) (f5:a.steps.length≤2097152) :
  Calls Tryz.prog 33 #[v,.int .i64 1] w fun e w'=>e=.returned (.int .i64 (vX a))∧Below w.heap.size w w':=by
 obtain ⟨a2,n2,c2,a3,n3,c3,a4,n4,c4,a5,n5,c5,rfl,r2,r3,r4,r5⟩:=h
 obtain ⟨st,it,ins,outs,ah,steps⟩:=a
 simp only [fU] at r2 r3 r4 r5 f2 f3 f4 f5 ⊢
 obtain rfl:n2=ins.length:=by have:=r2.1;rw [jU] at this;exact this.symm
 obtain rfl:n3=outs.length:=by have:=r3.1;rw [jU] at this;exact this.symm
 obtain rfl:n4=ah.length:=by have:=r4.1;rw [jU] at this;exact this.symm
 obtain rfl:n5=steps.length:=by have:=r5.1;rw [sZ] at this;exact this.symm
 obtain ⟨sum,hsum⟩:∃ s,s=vX ⟨st,it,ins,outs,ah,steps⟩:=⟨_,rfl⟩
 rw [← hsum]
 have HSUM:Hid (sum=1+(ins.length:Int)+(outs.length:Int)+(ah.length:Int)+3*(steps.length:Int)):=hsum
 have B0:Hid (∀ o,Below w.heap.size w (w.alloc o)):=fun o=>(Below.refl _ _).alloc (Nat.le_refl _) _
 have R2:=Lib.hid (r2.below (B0.out (.cells #[.int .i64 st,.int .i64 it,.slice a2 ins.length c2,.slice a3 outs.length c3,.slice a4 ah.length c4,.slice a5 steps.length c5] 27)))
 have R3:=Lib.hid (r3.below (B0.out (.cells #[.int .i64 st,.int .i64 it,.slice a2 ins.length c2,.slice a3 outs.length c3,.slice a4 ah.length c4,.slice a5 steps.length c5] 27)))
 have R4:=Lib.hid (r4.below (B0.out (.cells #[.int .i64 st,.int .i64 it,.slice a2 ins.length c2,.slice a3 outs.length c3,.slice a4 ah.length c4,.slice a5 steps.length c5] 27)))
 have R5:=Lib.hid (r5.below (B0.out (.cells #[.int .i64 st,.int .i64 it,.slice a2 ins.length c2,.slice a3 outs.length c3,.slice a4 ah.length c4,.slice a5 steps.length c5] 27)))
 clear r2 r3 r4 r5 hsum
 go_enter Tryz.func33,Tryz.ntmps33
 go_wp2_with fail
 refine (zu _ _ _ 1 _ R2.out (by omega) (by omega) (by omega)).mono ?_
 rintro e w1 ⟨rfl,rfl⟩
 go_wp2_with fail
 refine (zu _ _ _ _ _ R3.out (by omega) (by omega) (by omega)).mono ?_
 rintro e w1 ⟨rfl,rfl⟩
 go_wp2_with fail
 refine (zu _ _ _ _ _ R4.out (by omega) (by omega) (by omega)).mono ?_
 rintro e w1 ⟨rfl,rfl⟩
 go_wp2_with fail
 refine (IX _ _ _ _ _ R5.out (by omega) (by omega) (by omega)).mono ?_
 rintro e w1 ⟨rfl,rfl⟩
 go_wp2_with fail
 go_ret
 exact ⟨dP HSUM.out.symm,B0.out _⟩
open Go.RowKit
def lenOf:Value→Nat
 | .slice _ n _=>n
 | _=>0
theorem FK (a:Option Addr) (n c:Nat):lenOf (.slice a n c)=n:=rfl
theorem join_none (xs:List Int):aT xs []=bW [] xs:=rfl
theorem IY (st it:Int) (v2 v3 v4:Value) (a5:Option Addr) (n5 c5:Nat) (steps:List St) (fa:Option Addr) (fn fc:Nat) (from_:List Int) (sa:Option Addr) (sn sc:Nat) (set:List Int) (w:World)
  (r5:eP w a5 n5 steps) (hn:n5≤1048576) (rf:Row w fa fn from_) (hfn:fn≤1048576) (rs:Row w sa sn set) (hsn:sn≤4194304) :
  Calls Tryz.prog 172 #[.agg #[.int .i64 st,.int .i64 it,v2,v3,v4,.slice a5 n5 c5],.slice fa fn fc,.slice sa sn sc] w (dE w w.heap.size (kK set steps from_)):=by
 have HL5:=Lib.hid r5.1
 have HC5:=Lib.hid r5.2
 have HF:=Lib.hid rf
 have HS:=Lib.hid rs
 clear r5 rf rs
 obtain ⟨bd,hbd⟩:∃ b,b=from_.length+steps.length:=⟨_,rfl⟩
 have hbd2:bd≤2097152:=by
  have h1:=HF.out.1
  have h2:=HL5.out
  omega
 have HBD:=Lib.hid hbd
 clear hbd
 have B0:Hid (∀ o,Below w.heap.size w (w.alloc o)):=fun o=>(Below.refl _ _).alloc (Nat.le_refl _) _
 have V0:=Lib.hid (ae.new w #[.int .i64 st,.int .i64 it,v2,v3,v4,.slice a5 n5 c5] 27 rfl)
 go_enter Tryz.func172,Tryz.ntmps172
 go_wp2_with fail
 refine (fE fa none fn fc 0 0 from_ [] _ (HF.out.below (B0.out _)) ⟨rfl,fun h=>absurd h (by omega)⟩ (by omega) (by omega)).mono ?_
 rw [join_none]
 rintro e w1 ⟨g1,c1,rfl,ho,hb⟩
 have B1:Hid (Below w.heap.size w w1):=(B0.out _).trans (hb.mono (B0.out _).size)
 have V1:=Lib.hid (V0.out.below hb)
 have O1:=Lib.hid (ho.mono (B0.out _).size)
 clear ho hb B0 V0
 go_wp2_with fail
 go_loopw [7] (fun out wr=>∃ (g c0 len:Nat) (O:List Int),out=.slice (some ⟨g,0,none⟩) len c0∧Hid (aj wr w.heap.size (.slice (some ⟨g,0,none⟩) len c0) len O)∧len≤bd∧Hid (O.Pairwise (·<·)∧(∀ x∈from_,x∈O)∧∀ y∈O,iw set steps from_ y)∧Below w.heap.size w wr∧Hid (ae wr w.heap.size #[.int .i64 st,.int .i64 it,v2,v3,v4,.slice a5 n5 c5] 27)) (fun out _=>bd - lenOf out)
 case atStart =>
  refine ⟨g1,c1,(bW [] from_).length,bW [] from_,rfl,O1.out,?_,?_,B1.out,V1.out⟩
  ·have:=nK from_ []
   rw [HBD.out]
   simp only [List.length_nil,Nat.zero_add] at this
   omega
  ·exact ⟨bJ List.Pairwise.nil,fun x hx=>gB.2 (Or.inr hx),fun y hy=>by
    rcases gB.1 hy with hy|hy
    ·simp at hy
    ·exact .start y hy⟩
 case round =>
  obtain ⟨g,c0,len,O,rfl,HO,hlen,HI,hnx,HV⟩:=hrel
  clear B1 V1 O1
  go_wp2_with fail
  go_loopw [7,9] (fun out i wr2=>∃ (k g2 c2 bu:Nat) (O2:List Int),k≤n5∧i=.int .i64 k∧out=.slice (some ⟨g2,0,none⟩) bu c2∧Hid (aj wr2 w.heap.size (.slice (some ⟨g2,0,none⟩) bu c2) bu O2)∧Hid (O2=dh set (steps.take k) O)∧Below w.heap.size w wr2∧Hid (ae wr2 w.heap.size #[.int .i64 st,.int .i64 it,v2,v3,v4,.slice a5 n5 c5] 27)) (fun _ i _=>n5 - (intOf i).toNat)
  case atStart=>exact ⟨0,g,c0,len,O,Nat.zero_le _,rfl,rfl,HO.out,rfl,hnx,HV.out⟩
  case round =>
   obtain ⟨k,g2,c2,bu,O2,hk,rfl,rfl,HO2,HT,hnx2,HV2⟩:=hrel
   have hlen2:bu≤bd:=by
    have h1:=jJ (set:=set) (ss:=steps.take k) HI.out.1
    have h2:=oO (set:=set) (ss:=steps.take k) (ss':=steps) (L:=from_) (fun s hs=>List.mem_of_mem_take hs) HI.out.2.2
    have h3:=qf h1 h2
    rw [← HT.out,HO2.out.length,← HBD.out] at h3
    exact h3
   have kb:=HV2.out.cell (j:=5) rfl
   by_cases hlt:k<n5
   ·obtain ⟨b,off,rfl,hb,hcell⟩:=HC5.out (by omega)
    have hkx:k<steps.length:=by rw [HL5.out];exact hlt
    obtain ⟨⟨x,y,z⟩,hs⟩:∃ t,t=steps[k]:=⟨_,rfl⟩
    obtain ⟨d0,d1,d2⟩:=hcell k steps[k] (List.getElem?_eq_getElem hkx)
    rw [← hs] at d0 d1 d2
    have e0:=(hnx2.cell (p:=⟨b,off+k*3,none⟩) hb).trans d0
    have e1:=(hnx2.cell (p:=⟨b,off+k*3+1,none⟩) hb).trans d1
    have e2:=(hnx2.cell (p:=⟨b,off+k*3+2,none⟩) hb).trans d2
    simp only at e0 e1 e2
    obtain ⟨q1,hq1⟩:∃ q,q=hasB set y:=⟨_,rfl⟩
    obtain ⟨q2,hq2⟩:∃ q,q=hasB O2 x:=⟨_,rfl⟩
    have HP:Hid (dh set (steps.take (k+1)) O=if q1&&q2 then put O2 z else O2):=by
     unfold Hid
     rw [List.take_succ_eq_append_getElem hkx,← hs,Fh,← HT.out,hq1,hq2]
    have C1:Hid (∀ W,Below w.heap.size w W→Calls Tryz.prog 57 #[.slice sa sn sc,.int .i64 y] W fun e w'=>e=.returned (.bool q1)∧W=w'):=fun W hW=>by rw [hq1];exact (bz sa sn sc y set W (HS.out.below hW) (by omega)).mono fun _ _ h=>⟨h.1,h.2.symm⟩
    have C2:Hid (Calls Tryz.prog 57 #[.slice (some ⟨g2,0,none⟩) bu c2,.int .i64 x] wr fun e w'=>e=.returned (.bool q2)∧wr=w'):=by unfold Hid;rw [hq2];exact (bz _ bu c2 x O2 _ HO2.out.row.2.2.2 (by omega)).mono fun _ _ h=>⟨h.1,h.2.symm⟩
    clear hq1 hq2 d0 d1 d2 hs hcell HT
    cases q1 with
    | false =>
     have HP2:Hid (O2=dh set (steps.take (k+1)) O):=HP.out.symm
     go_wp2_with fail
     refine (C1.out _ hnx2).mono ?_
     rintro e w3 ⟨rfl,rfl⟩
     go_wp2_with fail
     go_roundw
     case rel=>exact ⟨k+1,g2,c2,bu,O2,by omega,by go_num,rfl,HO2.out,HP2.out,hnx2,HV2.out⟩
     case measure=>simp [intOf];omega
    | true =>
     cases q2 with
     | false =>
      have HP2:Hid (O2=dh set (steps.take (k+1)) O):=HP.out.symm
      go_wp2_with fail
      refine (C1.out _ hnx2).mono ?_
      rintro e w3 ⟨rfl,rfl⟩
      go_wp2_with fail
      refine C2.out.mono ?_
      rintro e w3 ⟨rfl,rfl⟩
      go_wp2_with fail
      go_roundw
      case rel=>exact ⟨k+1,g2,c2,bu,O2,by omega,by go_num,rfl,HO2.out,HP2.out,hnx2,HV2.out⟩
      case measure=>simp [intOf];omega
     | true =>
      have HP2:Hid (put O2 z=dh set (steps.take (k+1)) O):=HP.out.symm
      go_wp2_with fail
      refine (C1.out _ hnx2).mono ?_
      rintro e w3 ⟨rfl,rfl⟩
      go_wp2_with fail
      refine C2.out.mono ?_
      rintro e w3 ⟨rfl,rfl⟩
      go_wp2_with fail
      refine (put_any g2 bu c2 z O2 w.heap.size _ HO2.out (by omega) hnx2.size).mono ?_
      rintro e w3 ⟨g3,c3,rfl,ho,hb3⟩
      have HO3:=Lib.hid ho
      have B3:Hid (Below w.heap.size w w3):=hnx2.trans (hb3.mono hnx2.size)
      have HV3:=Lib.hid (HV2.out.below hb3)
      clear ho hb3
      go_wp2_with fail
      go_roundw
      case rel=>exact ⟨k+1,g3,c3,_,put O2 z,by omega,by go_num,rfl,HO3.out,HP2.out,B3.out,HV3.out⟩
      case measure=>simp [intOf];omega
   ·have HE:Hid (O2=dh set steps O):=by
     have:=HT.out
     rw [List.take_of_length_le (by rw [HL5.out];omega)] at this
     exact this
    have hge:len≤bu:=by
     have:=wM (set:=set) (ss:=steps) HI.out.1
     rw [← HE.out,HO2.out.length,HO.out.length] at this
     exact this
    have HI2:Hid (O2.Pairwise (·<·)∧(∀ x∈from_,x∈O2)∧∀ y∈O2,iw set steps from_ y):=by
     rw [HE.out]
     exact ⟨jJ HI.out.1,fun x hx=>nJ (HI.out.2.1 x hx),oO (fun _ h=>h) HI.out.2.2⟩
    by_cases heq:bu=len
    ·have HR:Hid (O2=kK set steps from_):=by
      have hl:(dh set steps O).length=O.length:=by rw [← HE.out,HO2.out.length,HO.out.length,heq]
      rw [HE.out,rM HI.out.1 hl]
      exact zB HI.out.1 (zA HI.out.1 HI.out.2.1 HI.out.2.2 hl)
     have hd:((bu:Int) == (len:Int))=true:=by simp [heq]
     clear heq
     go_wp2_with fail
     go_ret
     have e:=HO2.out.length
     rw [← HR.out]
     subst e
     exact ⟨_,_,rfl,HO2.out,hnx2⟩
    ·have hd:((bu:Int) == (len:Int))=false:=by simp;omega
     go_wp2_with fail
     go_roundw
     case rel=>exact ⟨g2,c2,bu,O2,rfl,HO2.out,hlen2,HI2.out,hnx2,HV2.out⟩
     case measure=>simp [FK];omega
open Go.RowKit
theorem Ee (kept:List Int) (pl:Nat→Int) (ss:List St) (k:Nat) (hk:k<ss.length):dU kept pl (ss.take (k+1))=dU kept pl (ss.take k)++if hasB kept ss[k].1 then [(pl ss[k].1.toNat,ss[k].2.1,pl ss[k].2.2.toNat)] else []:=by
 unfold dU
 rw [List.take_succ_eq_append_getElem hk,List.filter_append,List.map_append]
 by_cases h:hasB kept ss[k].1=true <;> simp [h]
theorem zL (st it:Int) (v2 v3 v4:Value) (a5:Option Addr) (n5 c5:Nat) (steps:List St) (ka:Option Addr) (kn kc:Nat) (kept:List Int) (P:Array Value) (pl:Nat→Int) (w:World)
  (r5:eP w a5 n5 steps) (hn:n5≤400) (rk:Row w ka kn kept) (hkn:kn≤1048576) (hP:∀ s,s<40→P[s]?=some (.int .i64 (pl s))) (hgood:∀ x∈steps,(0≤x.1∧x.1<40)∧0≤x.2.2∧x.2.2<40) :
  Calls Tryz.prog 130 #[.agg #[.int .i64 st,.int .i64 it,v2,v3,v4,.slice a5 n5 c5],.slice ka kn kc,.agg P] w fun e w'=>∃ v,e=.returned v∧OwnsS 77 w' w.heap.size v (dU kept pl steps).length (dU kept pl steps)∧Below w.heap.size w w':=by
 have HL5:=Lib.hid r5.1
 have HC5:=Lib.hid r5.2
 have HK:=Lib.hid rk
 have HPP:=Lib.hid hP
 have HGD:=Lib.hid hgood
 clear r5 hgood rk hP
 obtain ⟨i0,hi0,hz0,hz1,hz2⟩:=info_parts (show (Tryz.prog.info? 77).map (fun i=>(i.zero,i.size,i.bytes))=some (some (.agg #[.int .i64 0,.int .i64 0,.int .i64 0]),3,24) by kernel_rfl)
 have V0:Hid (ae ((w.alloc (.cells #[.int .i64 st,.int .i64 it,v2,v3,v4,.slice a5 n5 c5] 27)).alloc (.cells P 146)) w.heap.size #[.int .i64 st,.int .i64 it,v2,v3,v4,.slice a5 n5 c5] 27):=(ae.new w _ _ rfl).alloc _
 have V1:Hid (ae ((w.alloc (.cells #[.int .i64 st,.int .i64 it,v2,v3,v4,.slice a5 n5 c5] 27)).alloc (.cells P 146)) (w.heap.size+1) P 146):=ae.new _ _ _ (by simp)
 have B0:Hid (∀ o o',Below w.heap.size w ((w.alloc o).alloc o')):=fun o o'=>((Below.refl _ _).alloc (Nat.le_refl _) _).alloc (by simp) _
 go_enter Tryz.func130,Tryz.ntmps130
 go_wp2_with fail
 go_loopw [7,13] (fun v i wr=>∃ (k len:Nat) (v0:Value) (T:List St),k≤n5∧i=.int .i64 k∧v0=v∧Hid (OwnsS 77 wr (w.heap.size+2) v0 len T)∧Hid (T=dU kept pl (steps.take k))∧len≤k∧Hid (Below w.heap.size w wr)∧Hid (ae wr w.heap.size #[.int .i64 st,.int .i64 it,v2,v3,v4,.slice a5 n5 c5] 27)∧Hid (ae wr (w.heap.size+1) P 146)) (fun _ i _=>n5 - (intOf i).toNat)
 case atStart=>exact ⟨0,0,_,[],Nat.zero_le _,rfl,rfl,World.ownsRow_nil _ _ _ _,by simp [Hid,dU],Nat.le_refl _,B0.out _ _,V0.out,V1.out⟩
 case round =>
  obtain ⟨k,len,v0,T,hk,rfl,rfl,HO,HT,hlen,HB,HVA,HVP⟩:=hrel
  clear V0 V1 B0
  by_cases hlt:k<n5
  ·obtain ⟨b,off,rfl,hb,hcell⟩:=HC5.out (by omega)
   have hkx:k<steps.length:=by rw [HL5.out];exact hlt
   obtain ⟨⟨f,y,z⟩,hs⟩:∃ t,t=steps[k]:=⟨_,rfl⟩
   have hf:=HGD.out steps[k] (List.getElem_mem hkx)
   rw [← hs] at hf
   simp only at hf
   obtain ⟨sF,rfl⟩:∃ s:Nat,f=(s:Int):=⟨f.toNat,by omega⟩
   obtain ⟨sT,rfl⟩:∃ s:Nat,z=(s:Int):=⟨z.toNat,by omega⟩
   have hsF:sF<40:=by omega
   have hsF':(sF:Int)<40:=by omega
   have hsT:sT<40:=by omega
   have hsT':(sT:Int)<40:=by omega
   obtain ⟨d0,d1,d2⟩:=hcell k steps[k] (List.getElem?_eq_getElem hkx)
   rw [← hs] at d0 d1 d2
   have g0:=(HB.out.cell (p:=⟨b,off+k*3,none⟩) hb).trans d0
   have g1:=(HB.out.cell (p:=⟨b,off+k*3+1,none⟩) hb).trans d1
   have g2:=(HB.out.cell (p:=⟨b,off+k*3+2,none⟩) hb).trans d2
   simp only at g0 g1 g2
   have kb:=HVA.out.cell (j:=5) rfl
   obtain ⟨q,hq⟩:∃ q,q=hasB kept (sF:Int):=⟨_,rfl⟩
   obtain ⟨pF,hpF⟩:∃ p,p=pl sF:=⟨_,rfl⟩
   obtain ⟨pT,hpT⟩:∃ p,p=pl sT:=⟨_,rfl⟩
   have HST:Hid (dU kept pl (steps.take (k+1))=T++if q then [(pF,y,pT)] else []):=by
    unfold Hid
    rw [Ee kept pl steps k hkx,← hs,HT.out,hq,hpF,hpT]
    rfl
   have HH:Hid (∀ W,Below w.heap.size w W→Calls Tryz.prog 53 #[.slice ka kn kc,.int .i64 (sF:Int)] W fun e w'=>e=.returned (.bool q)∧W=w'):=fun W hW=>by rw [hq];exact (dB ka kn kc _ kept W (HK.out.below hW) (by omega)).mono fun _ _ h=>⟨h.1,h.2.symm⟩
   have CF:Hid (P[sF]?=some (.int .i64 pF)):=by rw [hpF];exact HPP.out sF hsF
   have CT:Hid (P[sT]?=some (.int .i64 pT)):=by rw [hpT];exact HPP.out sT hsT
   have BX:=Lib.hid (HB.out.alloc HB.out.size (.cells #[.int .i64 (sF:Int),.int .i64 y,.int .i64 (sT:Int)] 77))
   have kx:=(ae.new wr #[.int .i64 (sF:Int),.int .i64 y,.int .i64 (sT:Int)] 77 rfl).cell (j:=0) rfl
   have VA1:=Lib.hid (HVA.out.alloc (.cells #[.int .i64 (sF:Int),.int .i64 y,.int .i64 (sT:Int)] 77))
   have VP1:=Lib.hid (HVP.out.alloc (.cells #[.int .i64 (sF:Int),.int .i64 y,.int .i64 (sT:Int)] 77))
   clear d0 d1 d2 hs hcell hf hq hpF hpT
   cases q with
   | false =>
    have HT2:Hid (T=dU kept pl (steps.take (k+1))):=by
     have:=HST.out
     simp only [Bool.false_eq_true,if_false,List.append_nil] at this
     exact this.symm
    have HO2:=Lib.hid (HO.out.alloc (.cells #[.int .i64 (sF:Int),.int .i64 y,.int .i64 (sT:Int)] 77))
    go_wp2_with fail
    refine (HH.out _ BX.out).mono ?_
    rintro e w3 ⟨rfl,rfl⟩
    go_wp2_with fail
    go_roundw
    case rel=>exact ⟨k+1,len,_,T,by omega,by go_num,rfl,HO2.out,HT2.out,by omega,BX.out,VA1.out,VP1.out⟩
    case measure=>simp [intOf];omega
   | true =>
    have HT2:Hid (T++[(pF,y,pT)]=dU kept pl (steps.take (k+1))):=by
     have:=HST.out
     simp only [if_true] at this
     exact this.symm
    have hps:=HVP.out.lt
    have OR:Hid ((((wr.alloc (.cells #[.int .i64 (sF:Int),.int .i64 y,.int .i64 (sT:Int)] 77)).alloc (.cells #[.int .i64 pF,.int .i64 y,.int .i64 pT] 77)).drew).ownsRow (w.heap.size+2) 77 3 v0 len (flat T)):=(((HO.out.alloc (.cells #[.int .i64 (sF:Int),.int .i64 y,.int .i64 (sT:Int)] 77)).alloc (.cells #[.int .i64 pF,.int .i64 y,.int .i64 pT] 77)).below (Below.refl _ _).drew)
    have HH2:Hid ((((wr.alloc (.cells #[.int .i64 (sF:Int),.int .i64 y,.int .i64 (sT:Int)] 77)).alloc (.cells #[.int .i64 pF,.int .i64 y,.int .i64 pT] 77)).drew).heap.size=wr.heap.size+1+1):=by
     unfold Hid
     simp
    have hbs:Hid (w.heap.size+2≤(((wr.alloc (.cells #[.int .i64 (sF:Int),.int .i64 y,.int .i64 (sT:Int)] 77)).alloc (.cells #[.int .i64 pF,.int .i64 y,.int .i64 pT] 77)).drew).heap.size):=by
     rw [HH2.out]
     unfold Hid
     omega
    have SN:Hid (∀ j u,(flat [(pF,y,pT)])[j]?=some u→(((wr.alloc (.cells #[.int .i64 (sF:Int),.int .i64 y,.int .i64 (sT:Int)] 77)).alloc (.cells #[.int .i64 pF,.int .i64 y,.int .i64 pT] 77)).drew).cell? ((⟨wr.heap.size+1,0,none⟩:Addr).add j)=some u):=fun j u hu=>by
     have hv:ae (((wr.alloc (.cells #[.int .i64 (sF:Int),.int .i64 y,.int .i64 (sT:Int)] 77)).alloc (.cells #[.int .i64 pF,.int .i64 y,.int .i64 pT] 77)).drew) (wr.heap.size+1) #[.int .i64 pF,.int .i64 y,.int .i64 pT] 77:=(ae.new (wr.alloc (.cells #[.int .i64 (sF:Int),.int .i64 y,.int .i64 (sT:Int)] 77)) #[.int .i64 pF,.int .i64 y,.int .i64 pT] 77 (by simp)).drew
     rw [add_lit,Nat.zero_add]
     exact hv.cell (by simpa [flat,dY] using hu)
    have XN:Hid (ae (((wr.alloc (.cells #[.int .i64 (sF:Int),.int .i64 y,.int .i64 (sT:Int)] 77)).alloc (.cells #[.int .i64 pF,.int .i64 y,.int .i64 pT] 77)).drew) wr.heap.size #[.int .i64 (sF:Int),.int .i64 y,.int .i64 (sT:Int)] 77):=((ae.new wr #[.int .i64 (sF:Int),.int .i64 y,.int .i64 (sT:Int)] 77 rfl).alloc _).drew
    have PN:Hid (ae (((wr.alloc (.cells #[.int .i64 (sF:Int),.int .i64 y,.int .i64 (sT:Int)] 77)).alloc (.cells #[.int .i64 pF,.int .i64 y,.int .i64 pT] 77)).drew) (w.heap.size+1) P 146):=(((HVP.out.alloc _).alloc _).drew)
    have AN:Hid (ae (((wr.alloc (.cells #[.int .i64 (sF:Int),.int .i64 y,.int .i64 (sT:Int)] 77)).alloc (.cells #[.int .i64 pF,.int .i64 y,.int .i64 pT] 77)).drew) w.heap.size #[.int .i64 st,.int .i64 it,v2,v3,v4,.slice (some ⟨b,off,none⟩) n5 c5] 27):=(((HVA.out.alloc _).alloc _).drew)
    have rlt:∀ q,v0.ownBlock=some q→w.heap.size+2≤q∧q<wr.heap.size:=fun q hq=>HO.out.lt q hq
    have XK:Hid (∀ w',World.grownBy (((wr.alloc (.cells #[.int .i64 (sF:Int),.int .i64 y,.int .i64 (sT:Int)] 77)).alloc (.cells #[.int .i64 pF,.int .i64 y,.int .i64 pT] 77)).drew) w' v0.ownBlock→ae w' wr.heap.size #[.int .i64 (sF:Int),.int .i64 y,.int .i64 (sT:Int)] 77∧ae w' (w.heap.size+1) P 146∧w'.cell? ⟨wr.heap.size,0,none⟩=some (.int .i64 (sF:Int))∧w'.cell? ⟨wr.heap.size,1,none⟩=some (.int .i64 y)∧w'.cell? ⟨wr.heap.size,2,none⟩=some (.int .i64 (sT:Int))∧w'.cell? ⟨(w.heap.size+1),sF,none⟩=some (.int .i64 pF)∧w'.cell? ⟨(w.heap.size+1),sT,none⟩=some (.int .i64 pT)):=fun w' hg=>by
     have hx:=XN.out.grown hg (fun e=>by have:=(rlt _ e.symm).2;omega)
     have hp:=PN.out.grown hg (fun e=>by have:=(rlt _ e.symm).1;omega)
     exact ⟨hx,hp,hx.cell rfl,hx.cell rfl,hx.cell rfl,hp.cell CF.out,hp.cell CT.out⟩
    have AK:Hid (∀ w',World.grownBy (((wr.alloc (.cells #[.int .i64 (sF:Int),.int .i64 y,.int .i64 (sT:Int)] 77)).alloc (.cells #[.int .i64 pF,.int .i64 y,.int .i64 pT] 77)).drew) w' v0.ownBlock→ae w' w.heap.size #[.int .i64 st,.int .i64 it,v2,v3,v4,.slice (some ⟨b,off,none⟩) n5 c5] 27):=fun w' hg=>AN.out.grown hg (fun e=>by have:=(rlt _ e.symm).1;omega)
    have BELOW:Hid (∀ w',World.grownBy (((wr.alloc (.cells #[.int .i64 (sF:Int),.int .i64 y,.int .i64 (sT:Int)] 77)).alloc (.cells #[.int .i64 pF,.int .i64 y,.int .i64 pT] 77)).drew) w' v0.ownBlock→Below w.heap.size w w'):=fun w' hg=>Below.grown (((HB.out.alloc HB.out.size _).alloc (by simp;omega) _).drew) hg (by rw [HH2.out];omega) (fun q hq=>by have:=(rlt q hq).1;omega)
    have X0:=(ae.new wr #[.int .i64 (sF:Int),.int .i64 y,.int .i64 (sT:Int)] 77 rfl).drew
    have P0:=VP1.out.drew
    have S0:ae (wr.alloc (.cells #[.int .i64 (sF:Int),.int .i64 y,.int .i64 (sT:Int)] 77)).drew wr.heap.size #[.int .i64 (sF:Int),.int .i64 y,.int .i64 (sT:Int)] 77∧ae (wr.alloc (.cells #[.int .i64 (sF:Int),.int .i64 y,.int .i64 (sT:Int)] 77)).drew (w.heap.size+1) P 146∧(wr.alloc (.cells #[.int .i64 (sF:Int),.int .i64 y,.int .i64 (sT:Int)] 77)).drew.cell? ⟨wr.heap.size,0,none⟩=some (.int .i64 (sF:Int))∧(wr.alloc (.cells #[.int .i64 (sF:Int),.int .i64 y,.int .i64 (sT:Int)] 77)).drew.cell? ⟨wr.heap.size,1,none⟩=some (.int .i64 y)∧(wr.alloc (.cells #[.int .i64 (sF:Int),.int .i64 y,.int .i64 (sT:Int)] 77)).drew.cell? ⟨wr.heap.size,2,none⟩=some (.int .i64 (sT:Int))∧(wr.alloc (.cells #[.int .i64 (sF:Int),.int .i64 y,.int .i64 (sT:Int)] 77)).drew.cell? ⟨(w.heap.size+1),sF,none⟩=some (.int .i64 pF)∧(wr.alloc (.cells #[.int .i64 (sF:Int),.int .i64 y,.int .i64 (sT:Int)] 77)).drew.cell? ⟨(w.heap.size+1),sT,none⟩=some (.int .i64 pT):=⟨X0,P0,X0.cell rfl,X0.cell rfl,X0.cell rfl,P0.cell CF.out,P0.cell CT.out⟩
    have SW:Hid (ae ((wr.alloc (.cells #[.int .i64 (sF:Int),.int .i64 y,.int .i64 (sT:Int)] 77)).alloc (.cells #[.int .i64 pF,.int .i64 y,.int .i64 pT] 77)).drew wr.heap.size #[.int .i64 (sF:Int),.int .i64 y,.int .i64 (sT:Int)] 77∧ae ((wr.alloc (.cells #[.int .i64 (sF:Int),.int .i64 y,.int .i64 (sT:Int)] 77)).alloc (.cells #[.int .i64 pF,.int .i64 y,.int .i64 pT] 77)).drew (w.heap.size+1) P 146∧((wr.alloc (.cells #[.int .i64 (sF:Int),.int .i64 y,.int .i64 (sT:Int)] 77)).alloc (.cells #[.int .i64 pF,.int .i64 y,.int .i64 pT] 77)).drew.cell? ⟨wr.heap.size,0,none⟩=some (.int .i64 (sF:Int))∧((wr.alloc (.cells #[.int .i64 (sF:Int),.int .i64 y,.int .i64 (sT:Int)] 77)).alloc (.cells #[.int .i64 pF,.int .i64 y,.int .i64 pT] 77)).drew.cell? ⟨wr.heap.size,1,none⟩=some (.int .i64 y)∧((wr.alloc (.cells #[.int .i64 (sF:Int),.int .i64 y,.int .i64 (sT:Int)] 77)).alloc (.cells #[.int .i64 pF,.int .i64 y,.int .i64 pT] 77)).drew.cell? ⟨wr.heap.size,2,none⟩=some (.int .i64 (sT:Int))∧((wr.alloc (.cells #[.int .i64 (sF:Int),.int .i64 y,.int .i64 (sT:Int)] 77)).alloc (.cells #[.int .i64 pF,.int .i64 y,.int .i64 pT] 77)).drew.cell? ⟨(w.heap.size+1),sF,none⟩=some (.int .i64 pF)∧((wr.alloc (.cells #[.int .i64 (sF:Int),.int .i64 y,.int .i64 (sT:Int)] 77)).alloc (.cells #[.int .i64 pF,.int .i64 y,.int .i64 pT] 77)).drew.cell? ⟨(w.heap.size+1),sT,none⟩=some (.int .i64 pT)):=⟨XN.out,PN.out,XN.out.cell rfl,XN.out.cell rfl,XN.out.cell rfl,PN.out.cell CF.out,PN.out.cell CT.out⟩
    clear X0 P0
    go_wp2_with fail
    refine (HH.out _ BX.out).mono ?_
    rintro e w3 ⟨rfl,rfl⟩
    go_wp2_with fail
    clear g0 g1 g2 kb kx
    refine wp_region_held_drew (S:=fun w'=>ae w' wr.heap.size #[.int .i64 (sF:Int),.int .i64 y,.int .i64 (sT:Int)] 77∧ae w' (w.heap.size+1) P 146∧w'.cell? ⟨wr.heap.size,0,none⟩=some (.int .i64 (sF:Int))∧w'.cell? ⟨wr.heap.size,1,none⟩=some (.int .i64 y)∧w'.cell? ⟨wr.heap.size,2,none⟩=some (.int .i64 (sT:Int))∧w'.cell? ⟨(w.heap.size+1),sF,none⟩=some (.int .i64 pF)∧w'.cell? ⟨(w.heap.size+1),sT,none⟩=some (.int .i64 pT)) (by kernel_rfl) S0 (fun hHeld=>?_)
    change wpAnyH _ _ _ _ _ 15 (Array.replicate 15 false) _ _
    refine ag 0 21 (v0) (fuel:=14) rfl rfl (by kernel_rfl) (fun _ _ _ h=>h) (by rfl) (fun w hSw=>by go_simp) hHeld ?_
    simp only [Act.put,sI0,sI1,sI2]
    refine ag 1 22 (.pointer (some ⟨wr.heap.size,0,none⟩)) (fuel:=13) rfl rfl (by kernel_rfl) (fun _ _ _ h=>h) (by rfl) (fun w hSw=>by go_simp) hHeld ?_
    simp only [Act.put,sI0,sI1,sI2]
    refine ag 2 23 (.int .i64 (sF:Int)) (fuel:=12) rfl rfl (by kernel_rfl) (fun _ _ _ h=>h) (by rfl) (fun w hSw=>by go_simp) hHeld ?_
    simp only [Act.put,sI0,sI1,sI2]
    refine ag 3 24 (.pointer (some ⟨(w.heap.size+1),sF,none⟩)) (fuel:=11) rfl rfl (by kernel_rfl) (fun _ _ _ h=>h) (by rfl) (fun w hSw=>by go_simp) hHeld ?_
    simp only [Act.put,sI0,sI1,sI2]
    refine ag 4 25 (.int .i64 pF) (fuel:=10) rfl rfl (by kernel_rfl) (fun _ _ _ h=>h) (by rfl) (fun w hSw=>by go_simp) hHeld ?_
    simp only [Act.put,sI0,sI1,sI2]
    refine ag 5 26 (.pointer (some ⟨wr.heap.size,1,none⟩)) (fuel:=9) rfl rfl (by kernel_rfl) (fun _ _ _ h=>h) (by rfl) (fun w hSw=>by go_simp) hHeld ?_
    simp only [Act.put,sI0,sI1,sI2]
    refine ag 6 27 (.int .i64 y) (fuel:=8) rfl rfl (by kernel_rfl) (fun _ _ _ h=>h) (by rfl) (fun w hSw=>by go_simp) hHeld ?_
    simp only [Act.put,sI0,sI1,sI2]
    refine ag 7 28 (.pointer (some ⟨wr.heap.size,2,none⟩)) (fuel:=7) rfl rfl (by kernel_rfl) (fun _ _ _ h=>h) (by rfl) (fun w hSw=>by go_simp) hHeld ?_
    simp only [Act.put,sI0,sI1,sI2]
    refine ag 8 29 (.int .i64 (sT:Int)) (fuel:=6) rfl rfl (by kernel_rfl) (fun _ _ _ h=>h) (by rfl) (fun w hSw=>by go_simp) hHeld ?_
    simp only [Act.put,sI0,sI1,sI2]
    refine ag 9 30 (.pointer (some ⟨(w.heap.size+1),sT,none⟩)) (fuel:=5) rfl rfl (by kernel_rfl) (fun _ _ _ h=>h) (by rfl) (fun w hSw=>by go_simp) hHeld ?_
    simp only [Act.put,sI0,sI1,sI2]
    refine ag 10 31 (.int .i64 pT) (fuel:=4) rfl rfl (by kernel_rfl) (fun _ _ _ h=>h) (by rfl) (fun w hSw=>by go_simp) hHeld ?_
    simp only [Act.put,sI0,sI1,sI2]
    refine ag 11 32 (.agg #[.int .i64 pF,.int .i64 y,.int .i64 pT]) (fuel:=3) rfl rfl (by kernel_rfl) (fun _ _ _ h=>h) (by rfl) (fun w hSw=>by go_simp) hHeld ?_
    simp only [Act.put,sI0,sI1,sI2]
    refine wpAnyH_ready (rs:=[12]) (fuel:=2) (by kernel_rfl) (by simp) ?_
    refine AllReadyH.cons rfl (fun K hK=>?_) AllReadyH.nil
    go_simp
    refine hK.out _ _ SW.out (fun hHeld=>?_)
    clear hK K S0
    refine wpAnyH_ready (rs:=[13]) (fuel:=1) (by kernel_rfl) (by simp) ?_
    refine AllReadyH.cons rfl (fun K hK=>?_) AllReadyH.nil
    refine step_append_lies _ rfl (.tmp 21) (.tmp 33) 25 rfl (w.heap.size+2) 77 i0 (.agg #[.int .i64 0,.int .i64 0,.int .i64 0]) 3 24 Tryz.underlying25 hi0 hz0 hz1 hz2 rfl (by decide) v0 len (flat T) rfl OR.out ⟨wr.heap.size+1,0,none⟩ 1 1 (flat [(pF,y,pT)]) rfl rfl SN.out (qU _) (by decide) (by unfold maxLen;omega) (by omega) hbs.out (wr.heap.size+1+1) HH2.out ?_
    intro g cap w4 hown' hgrow hlies hlt'
    have HS1:=XK.out w4 hgrow
    have HO1:Hid (OwnsS 77 w4 (w.heap.size+2) (.slice (some ⟨g,0,none⟩) (len+1) cap) (len+1) (T++[(pF,y,pT)])):=by
     unfold Hid OwnsS
     rw [rH]
     exact hown'
    have VA4:=Lib.hid (AK.out w4 hgrow)
    have VP4:=Lib.hid HS1.2.1
    have B4:=Lib.hid (BELOW.out w4 hgrow)
    clear hown' hgrow hlies hlt'
    refine hK.out _ _ HS1 (fun hHeld=>?_)
    clear hK K
    simp only [Act.put,sI0]
    refine wpAnyH_ready (rs:=[14]) (fuel:=0) (by kernel_rfl) (by simp) ?_
    refine AllReadyH.cons rfl (fun K hK=>?_) AllReadyH.nil
    go_simp
    refine hK.out _ _ HS1 (fun xM=>?_)
    clear hK K HS1 hHeld xM
    refine wpAnyH_done (by kernel_rfl) ?_ _
    go_wp2_with fail
    go_roundw
    case rel=>exact ⟨k+1,len+1,_,T++[(pF,y,pT)],by omega,by go_num,rfl,HO1.out,HT2.out,by omega,B4.out,VA4.out,VP4.out⟩
    case measure=>simp [intOf];omega
  ·have HE:Hid (T=dU kept pl steps):=by
    have:=HT.out
    rw [List.take_of_length_le (by rw [HL5.out];omega)] at this
    exact this
   go_wp2_with fail
   go_ret
   have e:=HO.out.length
   rw [← HE.out]
   subst e
   exact ⟨_,rfl,HO.out.mono (by omega),HB.out⟩
open Go.RowKit
theorem Az (a:IaD) (v:Value) (w:World) (h:aB w a v) (f2:a.ins.length≤1048576) (f3:a.outs.length≤1048576) (f4:a.ah.length≤1048576) (f5:a.steps.length≤1048576) :
  Calls Tryz.prog 128 #[v] w (bY w w.heap.size (if aJ a then aP a else [])):=by
 have CO:Hid (∀ W,Below w.heap.size w W→Calls Tryz.prog 110 #[v] W fun e w'=>e=.returned (.bool (aJ a))∧Below W.heap.size W w'):=fun W hW=>mV a v W (h.below hW) f2 f3 f4 f5
 obtain ⟨i0,hi,hz0,hz1,hz2⟩:=info_parts gz
 obtain ⟨a2,n2,c2,a3,n3,c3,a4,n4,c4,a5,n5,c5,rfl,r2,r3,r4,r5⟩:=h
 obtain ⟨st,it,ins,outs,ah,steps⟩:=a
 simp only at r2 r3 r4 r5 f2 f3 f4 f5
 have R5:=Lib.hid r5
 clear r2 r3 r4 r5 f2 f3 f4 f5
 obtain ⟨q,hq⟩:∃ q,q=aJ ⟨st,it,ins,outs,ah,steps⟩:=⟨_,rfl⟩
 rw [← hq] at CO ⊢
 obtain ⟨L,hL⟩:∃ L,L=if q then aP ⟨st,it,ins,outs,ah,steps⟩ else []:=⟨_,rfl⟩
 rw [← hL]
 have HL:=Lib.hid hL
 have HQ:=Lib.hid hq.symm
 clear hq hL
 have B0:Hid (∀ o,Below w.heap.size w (w.alloc o)):=fun o=>(Below.refl _ _).alloc (Nat.le_refl _) _
 have V0:=Lib.hid (ae.new w #[.int .i64 st,.int .i64 it,.slice a2 n2 c2,.slice a3 n3 c3,.slice a4 n4 c4,.slice a5 n5 c5] 27 rfl)
 go_enter Tryz.func128,Tryz.ntmps128
 go_wp2_with fail
 refine (CO.out _ (B0.out _)).mono ?_
 rintro e w1 ⟨rfl,hb⟩
 have B1:Hid (Below w.heap.size w w1):=(B0.out _).trans (hb.mono (B0.out _).size)
 have V1:=Lib.hid (V0.out.below hb)
 clear hb V0 CO B0
 cases q with
 | false =>
  go_wp2_with fail
  go_ret
  obtain rfl:L=[]:=HL.out
  exact ⟨_,rfl,World.ownsRow_nil _ _ _ _,B1.out⟩
 | true =>
  have HLEN:=Lib.hid (dD HQ.out)
  have wV:=Lib.hid (zC HQ.out)
  obtain ⟨m0,m1,m2,m3,m4,m5⟩:=V1.out.aO
  go_wp2_with fail
  clear m0 m1 m2 m3 m4 m5
  refine (wJ st it _ _ _ a5 n5 c5 steps _ (R5.out.below B1.out) (by have h1:=HLEN.out;have h2:=R5.out.1;rw [← h2];exact h1) wV.out).mono ?_
  rintro e w2 ⟨C,rfl,hC,hb⟩
  have B2:Hid (Below w.heap.size w w2):=B1.out.trans (hb.mono B1.out.size)
  have V2:=Lib.hid (V1.out.below hb)
  have hCl:C.toList.length=40:=by simpa using hC.1
  have HCL:=Lib.hid hCl
  have HGS:=aA w2.heap.size C.toList 0 (w2.alloc (.cells #[.slice none 0 0,.slice none 0 0,.slice none 0 0,.slice none 0 0,.slice none 0 0,.slice none 0 0,.slice none 0 0,.slice none 0 0,.slice none 0 0,.slice none 0 0,.slice none 0 0,.slice none 0 0,.slice none 0 0,.slice none 0 0,.slice none 0 0,.slice none 0 0,.slice none 0 0,.slice none 0 0,.slice none 0 0,.slice none 0 0,.slice none 0 0,.slice none 0 0,.slice none 0 0,.slice none 0 0,.slice none 0 0,.slice none 0 0,.slice none 0 0,.slice none 0 0,.slice none 0 0,.slice none 0 0,.slice none 0 0,.slice none 0 0,.slice none 0 0,.slice none 0 0,.slice none 0 0,.slice none 0 0,.slice none 0 0,.slice none 0 0,.slice none 0 0,.slice none 0 0] 170))
  have BW:Hid (Below w2.heap.size w2 ((w2.alloc (.cells #[.slice none 0 0,.slice none 0 0,.slice none 0 0,.slice none 0 0,.slice none 0 0,.slice none 0 0,.slice none 0 0,.slice none 0 0,.slice none 0 0,.slice none 0 0,.slice none 0 0,.slice none 0 0,.slice none 0 0,.slice none 0 0,.slice none 0 0,.slice none 0 0,.slice none 0 0,.slice none 0 0,.slice none 0 0,.slice none 0 0,.slice none 0 0,.slice none 0 0,.slice none 0 0,.slice none 0 0,.slice none 0 0,.slice none 0 0,.slice none 0 0,.slice none 0 0,.slice none 0 0,.slice none 0 0,.slice none 0 0,.slice none 0 0,.slice none 0 0,.slice none 0 0,.slice none 0 0,.slice none 0 0,.slice none 0 0,.slice none 0 0,.slice none 0 0,.slice none 0 0] 170)).setCells w2.heap.size 0 C.toList)):=((Below.refl w2.heap.size w2).alloc (Nat.le_refl _) _).grown HGS (by simp) (fun q hq=>by cases hq;exact Nat.le_refl _)
  have TH0:(w2.alloc (.cells #[.slice none 0 0,.slice none 0 0,.slice none 0 0,.slice none 0 0,.slice none 0 0,.slice none 0 0,.slice none 0 0,.slice none 0 0,.slice none 0 0,.slice none 0 0,.slice none 0 0,.slice none 0 0,.slice none 0 0,.slice none 0 0,.slice none 0 0,.slice none 0 0,.slice none 0 0,.slice none 0 0,.slice none 0 0,.slice none 0 0,.slice none 0 0,.slice none 0 0,.slice none 0 0,.slice none 0 0,.slice none 0 0,.slice none 0 0,.slice none 0 0,.slice none 0 0,.slice none 0 0,.slice none 0 0,.slice none 0 0,.slice none 0 0,.slice none 0 0,.slice none 0 0,.slice none 0 0,.slice none 0 0,.slice none 0 0,.slice none 0 0,.slice none 0 0,.slice none 0 0] 170)).there w2.heap.size 0 40:=(ae.new w2 #[.slice none 0 0,.slice none 0 0,.slice none 0 0,.slice none 0 0,.slice none 0 0,.slice none 0 0,.slice none 0 0,.slice none 0 0,.slice none 0 0,.slice none 0 0,.slice none 0 0,.slice none 0 0,.slice none 0 0,.slice none 0 0,.slice none 0 0,.slice none 0 0,.slice none 0 0,.slice none 0 0,.slice none 0 0,.slice none 0 0,.slice none 0 0,.slice none 0 0,.slice none 0 0,.slice none 0 0,.slice none 0 0,.slice none 0 0,.slice none 0 0,.slice none 0 0,.slice none 0 0,.slice none 0 0,.slice none 0 0,.slice none 0 0,.slice none 0 0,.slice none 0 0,.slice none 0 0,.slice none 0 0,.slice none 0 0,.slice none 0 0,.slice none 0 0,.slice none 0 0] 170 rfl).there rfl
  have TH:Hid ((w2.alloc (.cells #[.slice none 0 0,.slice none 0 0,.slice none 0 0,.slice none 0 0,.slice none 0 0,.slice none 0 0,.slice none 0 0,.slice none 0 0,.slice none 0 0,.slice none 0 0,.slice none 0 0,.slice none 0 0,.slice none 0 0,.slice none 0 0,.slice none 0 0,.slice none 0 0,.slice none 0 0,.slice none 0 0,.slice none 0 0,.slice none 0 0,.slice none 0 0,.slice none 0 0,.slice none 0 0,.slice none 0 0,.slice none 0 0,.slice none 0 0,.slice none 0 0,.slice none 0 0,.slice none 0 0,.slice none 0 0,.slice none 0 0,.slice none 0 0,.slice none 0 0,.slice none 0 0,.slice none 0 0,.slice none 0 0,.slice none 0 0,.slice none 0 0,.slice none 0 0,.slice none 0 0] 170)).there w2.heap.size 0 C.toList.toArray.size):=by
   rw [show C.toList.toArray.size=40 by simpa using hC.1]
   exact TH0
  have ON:Hid (C.toList.toArray.all (·.oneCell')=true):=all_oneCell_toArray (fun u hu=>hC.one u (by simpa using hu))
  have RG:Hid ((((w2.alloc (.cells #[.slice none 0 0,.slice none 0 0,.slice none 0 0,.slice none 0 0,.slice none 0 0,.slice none 0 0,.slice none 0 0,.slice none 0 0,.slice none 0 0,.slice none 0 0,.slice none 0 0,.slice none 0 0,.slice none 0 0,.slice none 0 0,.slice none 0 0,.slice none 0 0,.slice none 0 0,.slice none 0 0,.slice none 0 0,.slice none 0 0,.slice none 0 0,.slice none 0 0,.slice none 0 0,.slice none 0 0,.slice none 0 0,.slice none 0 0,.slice none 0 0,.slice none 0 0,.slice none 0 0,.slice none 0 0,.slice none 0 0,.slice none 0 0,.slice none 0 0,.slice none 0 0,.slice none 0 0,.slice none 0 0,.slice none 0 0,.slice none 0 0,.slice none 0 0,.slice none 0 0] 170)).setCells w2.heap.size 0 C.toList)).rangeAt w2.heap.size 0 C.toList):=World.rangeAt_setCells_same _ w2.heap.size 0 C.toList (by rw [hCl];exact TH0)
  have hsz:w2.heap.size<(((w2.alloc (.cells #[.slice none 0 0,.slice none 0 0,.slice none 0 0,.slice none 0 0,.slice none 0 0,.slice none 0 0,.slice none 0 0,.slice none 0 0,.slice none 0 0,.slice none 0 0,.slice none 0 0,.slice none 0 0,.slice none 0 0,.slice none 0 0,.slice none 0 0,.slice none 0 0,.slice none 0 0,.slice none 0 0,.slice none 0 0,.slice none 0 0,.slice none 0 0,.slice none 0 0,.slice none 0 0,.slice none 0 0,.slice none 0 0,.slice none 0 0,.slice none 0 0,.slice none 0 0,.slice none 0 0,.slice none 0 0,.slice none 0 0,.slice none 0 0,.slice none 0 0,.slice none 0 0,.slice none 0 0,.slice none 0 0,.slice none 0 0,.slice none 0 0,.slice none 0 0,.slice none 0 0] 170)).setCells w2.heap.size 0 C.toList)).heap.size:=by
   have h1:=HGS.size
   have h2:(w2.alloc (.cells #[.slice none 0 0,.slice none 0 0,.slice none 0 0,.slice none 0 0,.slice none 0 0,.slice none 0 0,.slice none 0 0,.slice none 0 0,.slice none 0 0,.slice none 0 0,.slice none 0 0,.slice none 0 0,.slice none 0 0,.slice none 0 0,.slice none 0 0,.slice none 0 0,.slice none 0 0,.slice none 0 0,.slice none 0 0,.slice none 0 0,.slice none 0 0,.slice none 0 0,.slice none 0 0,.slice none 0 0,.slice none 0 0,.slice none 0 0,.slice none 0 0,.slice none 0 0,.slice none 0 0,.slice none 0 0,.slice none 0 0,.slice none 0 0,.slice none 0 0,.slice none 0 0,.slice none 0 0,.slice none 0 0,.slice none 0 0,.slice none 0 0,.slice none 0 0,.slice none 0 0] 170)).heap.size=w2.heap.size+1:=by simp
   rw [h2] at h1
   omega
  have HC2:=Lib.hid hC
  have mi:=((V2.out.below BW.out).cell (j:=1) rfl)
  have B3:Hid (Below w.heap.size w ((w2.alloc (.cells #[.slice none 0 0,.slice none 0 0,.slice none 0 0,.slice none 0 0,.slice none 0 0,.slice none 0 0,.slice none 0 0,.slice none 0 0,.slice none 0 0,.slice none 0 0,.slice none 0 0,.slice none 0 0,.slice none 0 0,.slice none 0 0,.slice none 0 0,.slice none 0 0,.slice none 0 0,.slice none 0 0,.slice none 0 0,.slice none 0 0,.slice none 0 0,.slice none 0 0,.slice none 0 0,.slice none 0 0,.slice none 0 0,.slice none 0 0,.slice none 0 0,.slice none 0 0,.slice none 0 0,.slice none 0 0,.slice none 0 0,.slice none 0 0,.slice none 0 0,.slice none 0 0,.slice none 0 0,.slice none 0 0,.slice none 0 0,.slice none 0 0,.slice none 0 0,.slice none 0 0] 170)).setCells w2.heap.size 0 C.toList)):=B2.out.trans (BW.out.mono B2.out.size)
  clear hb hC hCl HGS TH0 V1 B1 V2
  obtain ⟨w3,hw3⟩:∃ w3,w3=((w2.alloc (.cells #[.slice none 0 0,.slice none 0 0,.slice none 0 0,.slice none 0 0,.slice none 0 0,.slice none 0 0,.slice none 0 0,.slice none 0 0,.slice none 0 0,.slice none 0 0,.slice none 0 0,.slice none 0 0,.slice none 0 0,.slice none 0 0,.slice none 0 0,.slice none 0 0,.slice none 0 0,.slice none 0 0,.slice none 0 0,.slice none 0 0,.slice none 0 0,.slice none 0 0,.slice none 0 0,.slice none 0 0,.slice none 0 0,.slice none 0 0,.slice none 0 0,.slice none 0 0,.slice none 0 0,.slice none 0 0,.slice none 0 0,.slice none 0 0,.slice none 0 0,.slice none 0 0,.slice none 0 0,.slice none 0 0,.slice none 0 0,.slice none 0 0,.slice none 0 0,.slice none 0 0] 170)).setCells w2.heap.size 0 C.toList):=⟨_,rfl⟩
  rw [← hw3] at BW RG mi B3 hsz
  have HW3:=Lib.hid hw3
  go_wp2_with (refine wpList_store_mid rfl _ _ _ rfl w2.heap.size 0 C.toList.toArray rfl rfl TH.out (by rw [List.size_toArray,HCL.out];kernel_rfl) ON.out ?_;simp only;rw [← hw3];clear hw3)
  clear mi TH ON HCL HW3
  have hw23:=BW.out.size
  have G0:Hid (aj (w3.alloc (.cells #[.int .i64 it] 3)) w3.heap.size (.slice (some ⟨w3.heap.size,0,none⟩) 1 1) 1 [it]):=ed w3 [it] 1 rfl (by unfold maxLen;omega)
  go_loopw [4,5] (fun fd i wr=>∃ (k g c0 len:Nat) (F:List Int),i=.int .i64 k∧fd=.slice (some ⟨g,0,none⟩) len c0∧k≤len∧Hid (aj wr w3.heap.size (.slice (some ⟨g,0,none⟩) len c0) len F)∧Hid (Found ⟨st,it,ins,outs,ah,steps⟩ F k)∧Below w3.heap.size w3 wr) (fun _ i _=>40 - (intOf i).toNat)
  case atStart=>exact ⟨0,_,1,1,[it],rfl,rfl,by omega,G0.out,Found.start ⟨st,it,ins,outs,ah,steps⟩,(Below.refl _ _).alloc (Nat.le_refl _) _⟩
  case round =>
   obtain ⟨k,g,c0,len,F,rfl,rfl,hk,HO,HF,hnx⟩:=hrel
   clear G0
   have hl40:len≤40:=by
    have:=HF.out.len HQ.out
    rw [HO.out.length] at this
    exact this
   by_cases hlt:k<len
   ·have hkF:k<F.length:=by rw [HO.out.length];exact hlt
    obtain ⟨s,hs⟩:∃ s,s=F[k]:=⟨_,rfl⟩
    have hsl:=HF.out.low HQ.out s (by rw [hs];exact List.getElem_mem hkF)
    obtain ⟨j,rfl⟩:∃ j:Nat,s=(j:Int):=⟨s.toNat,by omega⟩
    have hj:j<40:=by omega
    have hj':(j:Int)<40:=by omega
    have gF:wr.cell? ⟨g,k,none⟩=some (.int .i64 (j:Int)):=by
     rw [HO.out.cells.2 k hlt,getD_eq F k hkF,hs]
    obtain ⟨ar,cr,hCs,hor⟩:=HC2.out.2.1 j hj
    obtain ⟨row,hrow⟩:∃ r,r=rowL steps (j:Int):=⟨_,rfl⟩
    obtain ⟨m,hm⟩:∃ m,m=row.length:=⟨_,rfl⟩
    rw [← hrow,← hm] at hCs hor
    have hm4:m≤400:=by
     have h1:=rowL_len steps (j:Int)
     have h2:=HLEN.out
     rw [hm,hrow]
     omega
    have gR:wr.cell? ⟨w2.heap.size,j,none⟩=some (.slice ar m cr):=by
     have:=RG.out j (.slice ar m cr) (by simpa using hCs)
     rw [Nat.zero_add] at this
     exact (hnx.cell (p:=⟨w2.heap.size,j,none⟩) hsz).trans this
    have HRW:=Lib.hid ((hor.row.2.2.2).below BW.out)
    have HFK:Hid (F[k]?=some (j:Int)):=by rw [List.getElem?_eq_getElem hkF,← hs];rfl
    have HROW:=Lib.hid hrow
    have HM:=Lib.hid hm
    clear hs hsl hCs hor hrow hm
    go_wp2_with fail
    go_step3
    go_wp2_with fail
    go_step3
    go_wp2_with fail
    clear gF gR
    go_loopw [4,31] (fun fd i wr2=>∃ (j2 g2 d2 bu:Nat) (F2:List Int),i=.int .i64 j2∧fd=.slice (some ⟨g2,0,none⟩) bu d2∧j2≤m∧Hid (aj wr2 w3.heap.size (.slice (some ⟨g2,0,none⟩) bu d2) bu F2)∧Hid (iE ⟨st,it,ins,outs,ah,steps⟩ F k row j2 F2)∧Below w3.heap.size w3 wr2) (fun _ i _=>m - (intOf i).toNat)
    case atStart=>exact ⟨0,g,c0,len,F,rfl,rfl,by omega,HO.out,iE.start HF.out row,hnx⟩
    case round =>
     obtain ⟨j2,g2,d2,bu,F2,rfl,rfl,hj2,HO2,HF2,hnx2⟩:=hrel
     have hl2:bu≤40:=by
      have:=HF2.out.2.1.len HQ.out
      rw [HO2.out.length] at this
      exact this
     by_cases hlt2:j2<m
     ·obtain ⟨b,off,rfl,hb,hcell⟩:=HRW.out.2 (by omega)
      have hjx:j2<row.length:=by rw [← HM.out];exact hlt2
      obtain ⟨⟨x,y,z⟩,hx⟩:∃ t,t=row[j2]:=⟨_,rfl⟩
      obtain ⟨d0,d1,dd⟩:=hcell j2 row[j2] (List.getElem?_eq_getElem hjx)
      rw [← hx] at d0 d1 dd
      have e0:=(hnx2.cell (p:=⟨b,off+j2*3,none⟩) hb).trans d0
      have e1:=(hnx2.cell (p:=⟨b,off+j2*3+1,none⟩) hb).trans d1
      have e2:=(hnx2.cell (p:=⟨b,off+j2*3+2,none⟩) hb).trans dd
      simp only at e0 e1 e2
      have XV:=Lib.hid (ae.new wr #[.int .i64 x,.int .i64 y,.int .i64 z] 77 rfl)
      have BX:=Lib.hid (hnx2.alloc hnx2.size (.cells #[.int .i64 x,.int .i64 y,.int .i64 z] 77))
      have HO3:=Lib.hid (HO2.out.alloc (.cells #[.int .i64 x,.int .i64 y,.int .i64 z] 77))
      have HZ:Hid (row[j2].2.2=z):=by rw [← hx];rfl
      have HSF:Hid ((j:Int)∈F2):=by
       obtain ⟨E,hE⟩:=HF2.out.1
       rw [hE]
       exact List.mem_append_left _ (List.mem_of_getElem? HFK.out)
      clear d0 d1 dd hx hcell
      go_wp2_with fail
      clear e0 e1 e2
      go_loop [37] (fun i=>∃ j3:Nat,j3≤bu∧i=.int .i64 j3∧Hid (z∉F2.take j3)) (fun i=>bu - (intOf i).toNat)
      case atStart=>exact ⟨0,Nat.zero_le _,rfl,by simp [Hid]⟩
      case round =>
       obtain ⟨j3,hj3,rfl,HN⟩:=hrel
       have kz:=XV.out.cell (j:=2) rfl
       by_cases hlt3:j3<bu
       ·have h3F:j3<F2.length:=by rw [HO2.out.length];exact hlt3
        obtain ⟨kn,hkn⟩:∃ s,s=F2[j3]:=⟨_,rfl⟩
        have gk:(wr.alloc (.cells #[.int .i64 x,.int .i64 y,.int .i64 z] 77)).cell? ⟨g2,j3,none⟩=some (.int .i64 kn):=by
         rw [HO3.out.cells.2 j3 hlt3,getD_eq F2 j3 h3F,hkn]
        have HKN:=Lib.hid hkn
        clear hkn
        by_cases heq:kn=z
        ·have hd:(kn == z)=true:=by simp [heq]
         have HK2:Hid (iE ⟨st,it,ins,outs,ah,steps⟩ F k row (j2+1) F2):=HF2.out.known hjx (by rw [HZ.out,← heq,HKN.out];exact List.getElem_mem h3F)
         clear heq
         go_wp2_with fail
         go_roundw
         case rel=>exact ⟨j2+1,g2,d2,bu,F2,by go_num,rfl,by omega,HO3.out,HK2.out,BX.out⟩
         case measure=>simp [intOf];omega
        ·have hd:(kn == z)=false:=by simp [heq]
         have HN2:Hid (z∉F2.take (j3+1)):=by
          unfold Hid
          rw [List.take_succ_eq_append_getElem h3F,List.mem_append]
          rintro (h|h)
          ·exact HN.out h
          ·obtain rfl:=List.mem_singleton.1 h
           exact heq HKN.out
         have HEQ:=Lib.hid heq
         clear heq
         go_wp2_with fail
         go_round
         case rel=>exact ⟨j3+1,by omega,by go_num,HN2.out⟩
         case measure=>simp [intOf];omega
       ·have HNF:Hid (z∉F2):=by
         have:=HN.out
         rw [List.take_of_length_le (by rw [HO2.out.length];omega)] at this
         exact this
        have HK2:Hid (iE ⟨st,it,ins,outs,ah,steps⟩ F k row (j2+1) (F2++[z])):=by
         have:=HF2.out.fresh HQ.out (by rw [HO.out.length];exact hk) HSF.out HROW.out hjx (by rw [HZ.out];exact HNF.out)
         rwa [HZ.out] at this
        have T1:=HO3.out.alloc (.cells #[.int .i64 z] 3)
        have S1:Src ((wr.alloc (.cells #[.int .i64 x,.int .i64 y,.int .i64 z] 77)).alloc (.cells #[.int .i64 z] 3)) (some ⟨wr.heap.size+1,0,none⟩) 1 1 [z]:=jb (by simp)
        have b1:=hnx2.size
        go_wp2_with (at_builtin;refine bV rfl (.tmp 46) (.tmp 49) rfl w3.heap.size i0 Tryz.underlying24 hi hz0 hz1 hz2 _ _ _ rfl T1 _ 1 _ [z] rfl S1 (by omega) (by simp;omega) ?_)
        rintro v4 w4 ⟨hown4,hgrow4,uP⟩
        have hb4:Below w3.heap.size w3 w4:=T1.grown (BX.out.alloc BX.out.size _) hgrow4 (Nat.le_refl _) (by simp;omega)
        obtain ⟨g4,d4,rfl⟩:=hown4.head (fun e=>by have:=(uP.1 e).1;cases this)
        have HO4:=Lib.hid hown4
        clear T1 S1 hgrow4 hown4 uP kz
        go_wp2_with fail
        go_roundw
        case rel=>exact ⟨j2+1,g4,d4,bu+1,F2++[z],by go_num,rfl,by omega,HO4.out,HK2.out,hb4⟩
        case measure=>simp [intOf];omega
     ·have HD:Hid (Found ⟨st,it,ins,outs,ah,steps⟩ F2 (k+1)):=by
       have h1:j2=row.length:=by rw [← HM.out];omega
       have h2:=HF2.out
       rw [h1] at h2
       exact h2.done HFK.out HROW.out
      have hkl:k+1≤bu:=by
       obtain ⟨E,hE⟩:=HF2.out.1
       have:=HO2.out.length
       rw [hE,List.length_append] at this
       omega
      go_wp2_with fail
      apply_assumption
      go_wp2_with fail
      go_roundw
      case rel=>exact ⟨k+1,g2,d2,bu,F2,by go_num,rfl,hkl,HO2.out,HD.out,hnx2⟩
      case measure=>simp [intOf];omega
   ·have HD:Hid ((F.mergeSort fun x y=>decide (x≤y))=aP ⟨st,it,ins,outs,ah,steps⟩):=by
     have h1:k=F.length:=by rw [HO.out.length];omega
     have h2:=HF.out
     rw [h1] at h2
     exact h2.done
    go_wp2_with fail
    refine (Gh g len c0 w3.heap.size F _ HO.out (by omega)).mono ?_
    rintro e w4 ⟨rfl,ho4,hg4⟩
    have HO4:=Lib.hid ho4
    have B4:Hid (Below w3.heap.size w3 w4):=hnx.grown hg4 hnx.size (fun q hq=>by cases hq;exact (HO.out.lt g rfl).1)
    clear ho4 hg4
    go_wp2_with fail
    go_ret
    obtain rfl:L=aP ⟨st,it,ins,outs,ah,steps⟩:=HL.out
    rw [← HD.out]
    have e:=HO4.out.length
    have h5:aj w4 w3.heap.size (.slice (some ⟨g,0,none⟩) len c0) (F.mergeSort fun x y=>decide (x≤y)).length (F.mergeSort fun x y=>decide (x≤y)):=by
     rw [e]
     exact HO4.out
    exact ⟨_,rfl,h5.mono B3.out.size,B3.out.trans (B4.out.mono B3.out.size)⟩
open Go.RowKit
theorem Ef (W0:World) (x:Int) (g:Nat) (hg:g=W0.heap.size):Row (W0.alloc (.cells #[.int .i64 x] 3)) (some ⟨g,0,none⟩) 1 [x]:=by
 subst hg
 exact (ed W0 [x] 1 rfl (by unfold maxLen;omega)).row.2.2.2
theorem FM (a:IaD) (f5:a.steps.length≤1048576):(if aJ a then aP a else []).length≤4194304:=by
 have h:=iM (aV a) a.steps [a.init]
 have:=qf h.1 (fun y hy=>(h.2 y).1 hy)
 split
 ·unfold aP
  simp only [List.length_singleton] at this
  omega
 ·simp
theorem A7 (a:IaD) (v:Value) (w:World) (h:aB w a v) (f2:a.ins.length≤1048576) (f3:a.outs.length≤1048576) (f4:a.ah.length≤1048576) (f5:a.steps.length≤1048576) :
  Calls Tryz.prog 127 #[v] w (dE w w.heap.size (if aJ a then aP a else [])):=by
 have CO:Hid (∀ W,Below w.heap.size w W→Calls Tryz.prog 126 #[v] W fun e w'=>e=.returned (.bool (aJ a))∧Below W.heap.size W w'):=fun W hW=>mQ a v W (h.below hW) f2 f3 f4 f5
 have CA0:Hid (aJ a=true→∀ W,Below w.heap.size w W→Calls Tryz.prog 150 #[v] W (dE W W.heap.size (aV a))):=fun hok W hW=>by
  have:=qZ a v W (h.below hW) f2 f3 f4 f5
  rwa [if_pos hok] at this
 have hal:(aV a).length≤4194304:=by
  have h1:=iT a.ins a.outs
  have h2:=iT (aT a.ins a.outs) a.ah
  unfold aV
  omega
 obtain ⟨a2,n2,c2,a3,n3,c3,a4,n4,c4,a5,n5,c5,rfl,r2,r3,r4,r5⟩:=h
 obtain ⟨st,it,ins,outs,ah,steps⟩:=a
 simp only at r2 r3 r4 r5 f2 f3 f4 f5
 rw [r5.1] at f5
 have R5:=Lib.hid r5
 clear r2 r3 r4 r5 f2 f3 f4
 obtain ⟨acts,Dh⟩:∃ l,l=aV ⟨st,it,ins,outs,ah,steps⟩:=⟨_,rfl⟩
 obtain ⟨ns,hns⟩:∃ n,n=acts.length:=⟨_,rfl⟩
 rw [← Dh,← hns] at hal
 have HRE:Hid (aP ⟨st,it,ins,outs,ah,steps⟩=kK acts steps [it]):=by rw [Dh];rfl
 rw [← Dh] at CA0
 obtain ⟨q,hq⟩:∃ q,q=aJ ⟨st,it,ins,outs,ah,steps⟩:=⟨_,rfl⟩
 rw [← hq] at CO CA0 ⊢
 obtain ⟨L,hL⟩:∃ L,L=if q then aP ⟨st,it,ins,outs,ah,steps⟩ else []:=⟨_,rfl⟩
 rw [← hL]
 have HL:=Lib.hid hL
 have HNS:=Lib.hid hns
 clear hq hL Dh hns
 have B0:Hid (∀ o,Below w.heap.size w (w.alloc o)):=fun o=>(Below.refl _ _).alloc (Nat.le_refl _) _
 have V0:=Lib.hid (ae.new w #[.int .i64 st,.int .i64 it,.slice a2 n2 c2,.slice a3 n3 c3,.slice a4 n4 c4,.slice a5 n5 c5] 27 rfl)
 go_enter Tryz.func127,Tryz.ntmps127
 go_wp2_with fail
 refine (CO.out _ (B0.out _)).mono ?_
 rintro e w1 ⟨rfl,hb⟩
 have B1:Hid (Below w.heap.size w w1):=(B0.out _).trans (hb.mono (B0.out _).size)
 have V1:=Lib.hid (V0.out.below hb)
 clear hb V0
 cases q with
 | false =>
  go_wp2_with fail
  go_ret
  obtain rfl:L=[]:=HL.out
  exact ⟨_,_,rfl,(ed _ [] 0 rfl (by unfold maxLen;omega)).mono B1.out.size,B1.out.alloc B1.out.size _⟩
 | true =>
  have V1d:=V1.out.drew
  have S0:Below w.heap.size w w1.drew∧ae w1.drew w.heap.size #[.int .i64 st,.int .i64 it,.slice a2 n2 c2,.slice a3 n3 c3,.slice a4 n4 c4,.slice a5 n5 c5] 27∧w1.drew.cell? ⟨w.heap.size,0,none⟩=some (.int .i64 st)∧w1.drew.cell? ⟨w.heap.size,1,none⟩=some (.int .i64 it)∧w1.drew.cell? ⟨w.heap.size,2,none⟩=some (.slice a2 n2 c2)∧w1.drew.cell? ⟨w.heap.size,3,none⟩=some (.slice a3 n3 c3)∧w1.drew.cell? ⟨w.heap.size,4,none⟩=some (.slice a4 n4 c4)∧w1.drew.cell? ⟨w.heap.size,5,none⟩=some (.slice a5 n5 c5):=⟨B1.out.drew,V1d,V1d.cell rfl,V1d.cell rfl,V1d.cell rfl,V1d.cell rfl,V1d.cell rfl,V1d.cell rfl⟩
  have V1e:=(V1.out.alloc (.cells #[.int .i64 it] 3)).drew
  have SA:Hid (Below w.heap.size w (w1.alloc (.cells #[.int .i64 it] 3)).drew∧ae (w1.alloc (.cells #[.int .i64 it] 3)).drew w.heap.size #[.int .i64 st,.int .i64 it,.slice a2 n2 c2,.slice a3 n3 c3,.slice a4 n4 c4,.slice a5 n5 c5] 27∧(w1.alloc (.cells #[.int .i64 it] 3)).drew.cell? ⟨w.heap.size,0,none⟩=some (.int .i64 st)∧(w1.alloc (.cells #[.int .i64 it] 3)).drew.cell? ⟨w.heap.size,1,none⟩=some (.int .i64 it)∧(w1.alloc (.cells #[.int .i64 it] 3)).drew.cell? ⟨w.heap.size,2,none⟩=some (.slice a2 n2 c2)∧(w1.alloc (.cells #[.int .i64 it] 3)).drew.cell? ⟨w.heap.size,3,none⟩=some (.slice a3 n3 c3)∧(w1.alloc (.cells #[.int .i64 it] 3)).drew.cell? ⟨w.heap.size,4,none⟩=some (.slice a4 n4 c4)∧(w1.alloc (.cells #[.int .i64 it] 3)).drew.cell? ⟨w.heap.size,5,none⟩=some (.slice a5 n5 c5)):=⟨(B1.out.alloc B1.out.size _).drew,V1e,V1e.cell rfl,V1e.cell rfl,V1e.cell rfl,V1e.cell rfl,V1e.cell rfl,V1e.cell rfl⟩
  have RFA:Hid (Row (w1.alloc (.cells #[.int .i64 it] 3)).drew (some ⟨w1.heap.size,0,none⟩) 1 [it]):=Ef w1 it _ rfl
  clear V1d V1e
  have CA:Hid (∀ W,Below w.heap.size w W∧ae W w.heap.size #[.int .i64 st,.int .i64 it,.slice a2 n2 c2,.slice a3 n3 c3,.slice a4 n4 c4,.slice a5 n5 c5] 27∧W.cell? ⟨w.heap.size,0,none⟩=some (.int .i64 st)∧W.cell? ⟨w.heap.size,1,none⟩=some (.int .i64 it)∧W.cell? ⟨w.heap.size,2,none⟩=some (.slice a2 n2 c2)∧W.cell? ⟨w.heap.size,3,none⟩=some (.slice a3 n3 c3)∧W.cell? ⟨w.heap.size,4,none⟩=some (.slice a4 n4 c4)∧W.cell? ⟨w.heap.size,5,none⟩=some (.slice a5 n5 c5)→Calls Tryz.prog 150 #[.agg #[.int .i64 st,.int .i64 it,.slice a2 n2 c2,.slice a3 n3 c3,.slice a4 n4 c4,.slice a5 n5 c5]] W fun e w'=>∃ g c,e=.returned (.slice (some ⟨g,0,none⟩) ns c)∧Row w' (some ⟨g,0,none⟩) ns acts∧Below W.heap.size W w'∧(Below w.heap.size w w'∧ae w' w.heap.size #[.int .i64 st,.int .i64 it,.slice a2 n2 c2,.slice a3 n3 c3,.slice a4 n4 c4,.slice a5 n5 c5] 27∧w'.cell? ⟨w.heap.size,0,none⟩=some (.int .i64 st)∧w'.cell? ⟨w.heap.size,1,none⟩=some (.int .i64 it)∧w'.cell? ⟨w.heap.size,2,none⟩=some (.slice a2 n2 c2)∧w'.cell? ⟨w.heap.size,3,none⟩=some (.slice a3 n3 c3)∧w'.cell? ⟨w.heap.size,4,none⟩=some (.slice a4 n4 c4)∧w'.cell? ⟨w.heap.size,5,none⟩=some (.slice a5 n5 c5))):=fun W hW=>(CA0.out rfl W hW.1).mono fun e w' ⟨g,c,he,ho,hb⟩=>⟨g,c,by rw [he,HNS.out],by rw [HNS.out];exact ho.row.2.2.2,hb,⟨hW.1.trans (hb.mono hW.1.size),hW.2.1.below hb,(hW.2.1.below hb).cell rfl,(hW.2.1.below hb).cell rfl,(hW.2.1.below hb).cell rfl,(hW.2.1.below hb).cell rfl,(hW.2.1.below hb).cell rfl,(hW.2.1.below hb).cell rfl⟩⟩
  have CL:Hid (∀ W g (g' c':Nat),Below w.heap.size w W∧ae W w.heap.size #[.int .i64 st,.int .i64 it,.slice a2 n2 c2,.slice a3 n3 c3,.slice a4 n4 c4,.slice a5 n5 c5] 27∧W.cell? ⟨w.heap.size,0,none⟩=some (.int .i64 st)∧W.cell? ⟨w.heap.size,1,none⟩=some (.int .i64 it)∧W.cell? ⟨w.heap.size,2,none⟩=some (.slice a2 n2 c2)∧W.cell? ⟨w.heap.size,3,none⟩=some (.slice a3 n3 c3)∧W.cell? ⟨w.heap.size,4,none⟩=some (.slice a4 n4 c4)∧W.cell? ⟨w.heap.size,5,none⟩=some (.slice a5 n5 c5)→Row W (some ⟨g,0,none⟩) 1 [it]→Row W (some ⟨g',0,none⟩) ns acts→Calls Tryz.prog 172 #[.agg #[.int .i64 st,.int .i64 it,.slice a2 n2 c2,.slice a3 n3 c3,.slice a4 n4 c4,.slice a5 n5 c5],.slice (some ⟨g,0,none⟩) 1 1,.slice (some ⟨g',0,none⟩) ns c'] W fun e w'=>dE w w.heap.size (aP ⟨st,it,ins,outs,ah,steps⟩) e w'∧(Below w.heap.size w w'∧ae w' w.heap.size #[.int .i64 st,.int .i64 it,.slice a2 n2 c2,.slice a3 n3 c3,.slice a4 n4 c4,.slice a5 n5 c5] 27∧w'.cell? ⟨w.heap.size,0,none⟩=some (.int .i64 st)∧w'.cell? ⟨w.heap.size,1,none⟩=some (.int .i64 it)∧w'.cell? ⟨w.heap.size,2,none⟩=some (.slice a2 n2 c2)∧w'.cell? ⟨w.heap.size,3,none⟩=some (.slice a3 n3 c3)∧w'.cell? ⟨w.heap.size,4,none⟩=some (.slice a4 n4 c4)∧w'.cell? ⟨w.heap.size,5,none⟩=some (.slice a5 n5 c5))):=fun W g g' c' hW hr1 hr2=>by
   rw [HRE.out]
   exact (IY st it _ _ _ a5 n5 c5 steps _ 1 1 [it] _ ns c' acts W (R5.out.below hW.1) (by omega) hr1 (by omega) hr2 (by omega)).mono fun e w' ⟨g2,c2,he,ho,hb⟩=>⟨⟨g2,c2,he,ho.mono hW.1.size,hW.1.trans (hb.mono hW.1.size)⟩,⟨hW.1.trans (hb.mono hW.1.size),hW.2.1.below hb,(hW.2.1.below hb).cell rfl,(hW.2.1.below hb).cell rfl,(hW.2.1.below hb).cell rfl,(hW.2.1.below hb).cell rfl,(hW.2.1.below hb).cell rfl,(hW.2.1.below hb).cell rfl⟩⟩
  go_wp2_with fail
  refine wp_region_held_drew (S:=fun w'=>Below w.heap.size w w'∧ae w' w.heap.size #[.int .i64 st,.int .i64 it,.slice a2 n2 c2,.slice a3 n3 c3,.slice a4 n4 c4,.slice a5 n5 c5] 27∧w'.cell? ⟨w.heap.size,0,none⟩=some (.int .i64 st)∧w'.cell? ⟨w.heap.size,1,none⟩=some (.int .i64 it)∧w'.cell? ⟨w.heap.size,2,none⟩=some (.slice a2 n2 c2)∧w'.cell? ⟨w.heap.size,3,none⟩=some (.slice a3 n3 c3)∧w'.cell? ⟨w.heap.size,4,none⟩=some (.slice a4 n4 c4)∧w'.cell? ⟨w.heap.size,5,none⟩=some (.slice a5 n5 c5)) (by kernel_rfl) S0 (fun hHeld=>?_)
  change wpAnyH _ _ _ _ _ 8 (Array.replicate 8 false) _ _
  refine ag 0 7 (.agg #[.int .i64 st,.int .i64 it,.slice a2 n2 c2,.slice a3 n3 c3,.slice a4 n4 c4,.slice a5 n5 c5]) (fuel:=7) rfl rfl (by kernel_rfl) (fun _ _ _ h=>h) (by rfl) (fun w hSw=>by go_simp) hHeld ?_
  simp only [Act.put,sI0,sI1,sI2]
  refine ag 1 8 (.pointer (some ⟨w.heap.size,1,none⟩)) (fuel:=6) rfl rfl (by kernel_rfl) (fun _ _ _ h=>h) (by rfl) (fun w hSw=>by go_simp) hHeld ?_
  simp only [Act.put,sI0,sI1,sI2]
  refine ag 2 9 (.int .i64 it) (fuel:=5) rfl rfl (by kernel_rfl) (fun _ _ _ h=>h) (by rfl) (fun w hSw=>by go_simp) hHeld ?_
  simp only [Act.put,sI0,sI1,sI2]
  refine ag 4 11 (.agg #[.int .i64 st,.int .i64 it,.slice a2 n2 c2,.slice a3 n3 c3,.slice a4 n4 c4,.slice a5 n5 c5]) (fuel:=4) rfl rfl (by kernel_rfl) (fun _ _ _ h=>h) (by rfl) (fun w hSw=>by go_simp) hHeld ?_
  simp only [Act.put,sI0,sI1,sI2]
  refine wpAnyH_ready (rs:=[3,5]) (fuel:=3) (by kernel_rfl) (by simp) ?_
  refine AllReadyH.cons rfl (fun K hK=>?_) ?_
  ·go_simp
   refine hK.out _ _ SA.out (fun hHeld=>?_)
   clear hK K
   refine wpAnyH_ready (rs:=[5]) (fuel:=2) (by kernel_rfl) (by simp) ?_
   refine AllReadyH.cons rfl (fun K hK=>?_) AllReadyH.nil
   go_simp
   refine (CA.out _ SA.out).mono ?_
   rintro e w4 ⟨g4,d4,rfl,hra,hbe,hS4⟩
   have RA:=Lib.hid hra
   have RF:=Lib.hid (RFA.out.below hbe)
   clear hra hbe
   go_wp2_with fail
   refine hK.out _ _ hS4 (fun hHeld=>?_)
   clear hK K hS4
   refine wpAnyH_ready (rs:=[6]) (fuel:=1) (by kernel_rfl) (by simp) ?_
   refine AllReadyH.cons rfl (fun K hK=>?_) AllReadyH.nil
   go_simp
   refine (CL.out _ _ _ _ hHeld RF.out RA.out).mono ?_
   rintro e w5 ⟨hO,hS5⟩
   obtain ⟨g5,d5,rfl,ho5,hb5⟩:=hO
   have HO5:=Lib.hid ho5
   have HB5:=Lib.hid hb5
   clear ho5 hb5
   go_wp2_with fail
   refine hK.out _ _ hS5 (fun hHeld=>?_)
   clear hK K
   refine wpAnyH_ready (rs:=[7]) (fuel:=0) (by kernel_rfl) (by simp) ?_
   refine AllReadyH.cons rfl (fun K hK=>?_) AllReadyH.nil
   go_simp
   refine hK.out _ _ hHeld (fun hHeld=>?_)
   clear hK K
   refine wpAnyH_done (by kernel_rfl) ?_ _
   clear hHeld hS5
   go_wp2_with fail
   go_ret
   obtain rfl:L=aP ⟨st,it,ins,outs,ah,steps⟩:=HL.out
   exact ⟨_,_,rfl,HO5.out,HB5.out⟩
  ·refine AllReadyH.cons rfl (fun K hK=>?_) AllReadyH.nil
   go_simp
   refine (CA.out _ S0).mono ?_
   rintro e w4 ⟨g4,d4,rfl,hra,hbe,hS4⟩
   go_wp2_with fail
   refine hK.out _ _ hS4 (fun hHeld=>?_)
   clear hK K
   have hbx:Below w4.heap.size w4 (w4.alloc (.cells #[.int .i64 it] 3)):=(Below.refl _ _).alloc (Nat.le_refl _) _
   have V4e:=hS4.2.1.below hbx
   have SB:Below w.heap.size w (w4.alloc (.cells #[.int .i64 it] 3))∧ae (w4.alloc (.cells #[.int .i64 it] 3)) w.heap.size #[.int .i64 st,.int .i64 it,.slice a2 n2 c2,.slice a3 n3 c3,.slice a4 n4 c4,.slice a5 n5 c5] 27∧(w4.alloc (.cells #[.int .i64 it] 3)).cell? ⟨w.heap.size,0,none⟩=some (.int .i64 st)∧(w4.alloc (.cells #[.int .i64 it] 3)).cell? ⟨w.heap.size,1,none⟩=some (.int .i64 it)∧(w4.alloc (.cells #[.int .i64 it] 3)).cell? ⟨w.heap.size,2,none⟩=some (.slice a2 n2 c2)∧(w4.alloc (.cells #[.int .i64 it] 3)).cell? ⟨w.heap.size,3,none⟩=some (.slice a3 n3 c3)∧(w4.alloc (.cells #[.int .i64 it] 3)).cell? ⟨w.heap.size,4,none⟩=some (.slice a4 n4 c4)∧(w4.alloc (.cells #[.int .i64 it] 3)).cell? ⟨w.heap.size,5,none⟩=some (.slice a5 n5 c5):=⟨hS4.1.trans (hbx.mono hS4.1.size),V4e,V4e.cell rfl,V4e.cell rfl,V4e.cell rfl,V4e.cell rfl,V4e.cell rfl,V4e.cell rfl⟩
   have RA:=Lib.hid (hra.below hbx)
   have RF:=Lib.hid (Ef w4 it _ rfl)
   clear hra hbe hbx V4e hS4
   refine wpAnyH_ready (rs:=[3]) (fuel:=2) (by kernel_rfl) (by simp) ?_
   refine AllReadyH.cons rfl (fun K hK=>?_) AllReadyH.nil
   go_simp
   refine hK.out _ _ SB (fun hHeld=>?_)
   clear hK K SB
   refine wpAnyH_ready (rs:=[6]) (fuel:=1) (by kernel_rfl) (by simp) ?_
   refine AllReadyH.cons rfl (fun K hK=>?_) AllReadyH.nil
   go_simp
   refine (CL.out _ _ _ _ hHeld RF.out RA.out).mono ?_
   rintro e w5 ⟨hO,hS5⟩
   obtain ⟨g5,d5,rfl,ho5,hb5⟩:=hO
   have HO5:=Lib.hid ho5
   have HB5:=Lib.hid hb5
   clear ho5 hb5
   go_wp2_with fail
   refine hK.out _ _ hS5 (fun hHeld=>?_)
   clear hK K
   refine wpAnyH_ready (rs:=[7]) (fuel:=0) (by kernel_rfl) (by simp) ?_
   refine AllReadyH.cons rfl (fun K hK=>?_) AllReadyH.nil
   go_simp
   refine hK.out _ _ hHeld (fun hHeld=>?_)
   clear hK K
   refine wpAnyH_done (by kernel_rfl) ?_ _
   clear hHeld hS5
   go_wp2_with fail
   go_ret
   obtain rfl:L=aP ⟨st,it,ins,outs,ah,steps⟩:=HL.out
   exact ⟨_,_,rfl,HO5.out,HB5.out⟩
open Go.RowKit
def rY (w:World) (a:IaD) (v:Value):Prop :=
 ∃ (a2:Option Addr) (n2 c2:Nat) (a3:Option Addr) (n3 c3:Nat) (a4:Option Addr) (n4 c4:Nat) (a5:Option Addr) (n5 c5:Nat),
  v=.agg #[.int .i64 a.states,.int .i64 a.init,.slice a2 n2 c2,.slice a3 n3 c3,.slice a4 n4 c4,.slice a5 n5 c5]∧Row w a2 n2 a.ins∧Row w a3 n3 a.outs∧Row w a4 n4 a.ah∧eP w a5 n5 a.steps∧(a2=none→c2=0)∧(a3=none→c3=0)∧(a4=none→c4=0)
theorem rY.row {w:World} {a:IaD} {v:Value} (h:rY w a v):aB w a v:=by
 obtain ⟨a2,n2,c2,a3,n3,c3,a4,n4,c4,a5,n5,c5,e,r2,r3,r4,r5,_⟩:=h
 exact ⟨a2,n2,c2,a3,n3,c3,a4,n4,c4,a5,n5,c5,e,r2,r3,r4,r5⟩
theorem A8 {a:IaD} (h:aJ a=false):dG a=ja:=by
 unfold dG
 rw [h]
 rfl
theorem AB (a:IaD) (v:Value) (w:World) (h:rY w a v) (f2:a.ins.length≤1048576) (f3:a.outs.length≤1048576) (f4:a.ah.length≤1048576) (f5:a.steps.length≤1048576) :
  Calls Tryz.prog 81 #[v] w fun e w'=>∃ v',e=.returned v'∧dS w' w.heap.size (dG a) v'∧Below w.heap.size w w':=by
 have CO:Hid (∀ W,Below w.heap.size w W→Calls Tryz.prog 110 #[v] W fun e w'=>e=.returned (.bool (aJ a))∧Below W.heap.size W w'):=fun W hW=>mV a v W (h.row.below hW) f2 f3 f4 f5
 have CR:Hid (aJ a=true→∀ W,Below w.heap.size w W→Calls Tryz.prog 128 #[v] W (bY W W.heap.size (aP a))):=fun hok W hW=>by
  have:=Az a v W (h.row.below hW) f2 f3 f4 f5
  rwa [if_pos hok] at this
 obtain ⟨a2,n2,c2,a3,n3,c3,a4,n4,c4,a5,n5,c5,rfl,r2,r3,r4,r5,e2,e3,e4⟩:=h
 obtain ⟨st,it,ins,outs,ah,steps⟩:=a
 simp only at r2 r3 r4 r5 f2 f3 f4 f5
 rw [r2.1] at f2
 rw [r3.1] at f3
 rw [r4.1] at f4
 have R5:=Lib.hid r5
 have K2:Hid (∀ W,Below w.heap.size w W→Calls Tryz.prog 129 #[.slice a2 n2 c2] W (bY W W.heap.size ins)):=fun W hW=>wP a2 n2 c2 ins W (r2.below hW) e2 f2
 have K3:Hid (∀ W,Below w.heap.size w W→Calls Tryz.prog 129 #[.slice a3 n3 c3] W (bY W W.heap.size outs)):=fun W hW=>wP a3 n3 c3 outs W (r3.below hW) e3 f3
 have K4:Hid (∀ W,Below w.heap.size w W→Calls Tryz.prog 129 #[.slice a4 n4 c4] W (bY W W.heap.size ah)):=fun W hW=>wP a4 n4 c4 ah W (r4.below hW) e4 f4
 clear r2 r3 r4 r5 e2 e3 e4 f2 f3 f4 f5
 obtain ⟨q,hq⟩:∃ q,q=aJ ⟨st,it,ins,outs,ah,steps⟩:=⟨_,rfl⟩
 rw [← hq] at CO CR
 have HQ:=Lib.hid hq.symm
 obtain ⟨res,hres⟩:∃ r,r=dG ⟨st,it,ins,outs,ah,steps⟩:=⟨_,rfl⟩
 rw [← hres]
 have Eg:=Lib.hid hres
 clear hq hres
 have B0:Hid (∀ o o',Below w.heap.size w ((w.alloc o).alloc o')):=fun o o'=>((Below.refl _ _).alloc (Nat.le_refl _) _).alloc (by simp) _
 have V0:Hid (ae ((w.alloc (.cells #[.int .i64 st,.int .i64 it,.slice a2 n2 c2,.slice a3 n3 c3,.slice a4 n4 c4,.slice a5 n5 c5] 27)).alloc (.cells #[.int .i64 0,.int .i64 0,.slice none 0 0,.slice none 0 0,.slice none 0 0,.slice none 0 0] 27)) w.heap.size #[.int .i64 st,.int .i64 it,.slice a2 n2 c2,.slice a3 n3 c3,.slice a4 n4 c4,.slice a5 n5 c5] 27):=(ae.new w _ _ rfl).alloc _
 have VR0:Hid (ae ((w.alloc (.cells #[.int .i64 st,.int .i64 it,.slice a2 n2 c2,.slice a3 n3 c3,.slice a4 n4 c4,.slice a5 n5 c5] 27)).alloc (.cells #[.int .i64 0,.int .i64 0,.slice none 0 0,.slice none 0 0,.slice none 0 0,.slice none 0 0] 27)) (w.heap.size+1) #[.int .i64 0,.int .i64 0,.slice none 0 0,.slice none 0 0,.slice none 0 0,.slice none 0 0] 27):=ae.new _ _ _ (by simp)
 go_enter Tryz.func81,Tryz.ntmps81
 go_wp2_with fail
 refine (CO.out _ (B0.out _ _)).mono ?_
 rintro e w1 ⟨rfl,hb⟩
 have B1:Hid (Below w.heap.size w w1):=(B0.out _ _).trans (hb.mono (B0.out _ _).size)
 have V1:=Lib.hid (V0.out.below hb)
 have VR1:=Lib.hid (VR0.out.below hb)
 clear hb V0 VR0 CO B0
 cases q with
 | false =>
  have TH:Hid (w1.there (w.heap.size+1) 0 6):=VR1.out.there rfl
  have RG2:Hid ((w1.setCells (w.heap.size+1) 0 [.int .i64 0,.int .i64 0,.slice none 0 0,.slice none 0 0,.slice none 0 0,.slice none 0 0]).rangeAt (w.heap.size+1) 0 [.int .i64 0,.int .i64 0,.slice none 0 0,.slice none 0 0,.slice none 0 0,.slice none 0 0]):=World.rangeAt_setCells_same w1 (w.heap.size+1) 0 _ TH.out
  have HGS:=Lib.hid (aA (w.heap.size+1) [.int .i64 0,.int .i64 0,.slice none 0 0,.slice none 0 0,.slice none 0 0,.slice none 0 0] 0 w1)
  go_wp2_with (refine wpList_store_mid rfl _ _ _ rfl (w.heap.size+1) 0 #[.int .i64 0,.int .i64 0,.slice none 0 0,.slice none 0 0,.slice none 0 0,.slice none 0 0] rfl rfl TH.out (by kernel_rfl) (di _ _ _ _ _ _ _ _ _ _ _ _ _ _) ?_)
  have hres:res=ja:=Eg.out.trans (A8 HQ.out)
  refine bodyPost_ret (v:=.agg #[.int .i64 0,.int .i64 0,.slice none 0 0,.slice none 0 0,.slice none 0 0,.slice none 0 0]) ?_ rfl ⟨_,rfl,⟨.slice none 0 0,.slice none 0 0,.slice none 0 0,.slice none 0 0,by rw [hres];rfl,by rw [hres];exact World.ownsRow_nil _ _ _ _,by rw [hres];exact World.ownsRow_nil _ _ _ _,by rw [hres];exact World.ownsRow_nil _ _ _ _,by rw [hres];exact World.ownsRow_nil _ _ _ _,(fun b h=>by cases h),(fun b h=>by cases h),(fun b h=>by cases h)⟩,B1.out.grown HGS.out B1.out.size (fun q hq=>by cases hq;omega)⟩
  have HC0:=RG2.out 0 _ rfl
  have HC1:=RG2.out 1 _ rfl
  have HC2:=RG2.out 2 _ rfl
  have HC3:=RG2.out 3 _ rfl
  have HC4:=RG2.out 4 _ rfl
  have HC5:=RG2.out 5 _ rfl
  simp only [Nat.zero_add] at HC0 HC1 HC2 HC3 HC4 HC5
  simp [results,Tryz.results81,go_sem,HC0,HC1,HC2,HC3,HC4,HC5]
 | true =>
  have hit:=gV HQ.out
  have hst:=(aN HQ.out).2
  simp only at hit hst
  obtain ⟨sI,rfl⟩:∃ s:Nat,it=(s:Int):=⟨it.toNat,by omega⟩
  have hsI:sI<40:=by omega
  have hsI':(sI:Int)<40:=by omega
  have HLEN:=Lib.hid (dD HQ.out)
  have HGOOD:Hid (∀ x∈steps,(0≤x.1∧x.1<40)∧0≤x.2.2∧x.2.2<40):=fun x hx=>by
   have h1:=dH HQ.out x hx
   simp only at h1
   omega
  clear hit
  obtain ⟨m0,m1,m2,m3,m4,m5⟩:=V1.out.aO
  go_wp2_with fail
  clear m0 m1 m2 m3 m4 m5
  refine (CR.out (by simp) _ B1.out).mono ?_
  rintro e w2 ⟨vk,rfl,hok,hb⟩
  obtain ⟨ka,kc,rfl⟩:=hok.form
  obtain ⟨kept,hkept⟩:∃ l,l=aP ⟨st,(sI:Int),ins,outs,ah,steps⟩:=⟨_,rfl⟩
  rw [← hkept] at hok ⊢
  obtain ⟨kn,hkn⟩:∃ n,n=kept.length:=⟨_,rfl⟩
  rw [← hkn] at hok ⊢
  have hk40:kn≤40:=by
   rw [hkn,hkept]
   exact CQ HQ.out
  have wV:Hid (∀ y∈kept,0≤y∧y<40):=by
   rw [hkept]
   exact rP HQ.out
  have HND:Hid kept.Nodup:=by
   rw [hkept]
   exact xB _
  have RK:=Lib.hid hok.row.2.2.2
  have B2:Hid (Below w.heap.size w w2):=B1.out.trans (hb.mono B1.out.size)
  have V2:=Lib.hid (V1.out.below hb)
  have VR2:=Lib.hid (VR1.out.below hb)
  have HKE:=Lib.hid hkept
  have HKN:=Lib.hid hkn
  clear hb hok hkept hkn V1 VR1 B1 CR
  have VP0:=Lib.hid (ae.new w2 #[.int .i64 0,.int .i64 0,.int .i64 0,.int .i64 0,.int .i64 0,.int .i64 0,.int .i64 0,.int .i64 0,.int .i64 0,.int .i64 0,.int .i64 0,.int .i64 0,.int .i64 0,.int .i64 0,.int .i64 0,.int .i64 0,.int .i64 0,.int .i64 0,.int .i64 0,.int .i64 0,.int .i64 0,.int .i64 0,.int .i64 0,.int .i64 0,.int .i64 0,.int .i64 0,.int .i64 0,.int .i64 0,.int .i64 0,.int .i64 0,.int .i64 0,.int .i64 0,.int .i64 0,.int .i64 0,.int .i64 0,.int .i64 0,.int .i64 0,.int .i64 0,.int .i64 0,.int .i64 0] 146 rfl)
  have HP0:Hid (∀ s,s<40→(#[.int .i64 0,.int .i64 0,.int .i64 0,.int .i64 0,.int .i64 0,.int .i64 0,.int .i64 0,.int .i64 0,.int .i64 0,.int .i64 0,.int .i64 0,.int .i64 0,.int .i64 0,.int .i64 0,.int .i64 0,.int .i64 0,.int .i64 0,.int .i64 0,.int .i64 0,.int .i64 0,.int .i64 0,.int .i64 0,.int .i64 0,.int .i64 0,.int .i64 0,.int .i64 0,.int .i64 0,.int .i64 0,.int .i64 0,.int .i64 0,.int .i64 0,.int .i64 0,.int .i64 0,.int .i64 0,.int .i64 0,.int .i64 0,.int .i64 0,.int .i64 0,.int .i64 0,.int .i64 0]:Array Value)[s]?=some (.int .i64 (kP kept 0 s))):=fun s hs=>by
   rw [IM,show (#[.int .i64 0,.int .i64 0,.int .i64 0,.int .i64 0,.int .i64 0,.int .i64 0,.int .i64 0,.int .i64 0,.int .i64 0,.int .i64 0,.int .i64 0,.int .i64 0,.int .i64 0,.int .i64 0,.int .i64 0,.int .i64 0,.int .i64 0,.int .i64 0,.int .i64 0,.int .i64 0,.int .i64 0,.int .i64 0,.int .i64 0,.int .i64 0,.int .i64 0,.int .i64 0,.int .i64 0,.int .i64 0,.int .i64 0,.int .i64 0,.int .i64 0,.int .i64 0,.int .i64 0,.int .i64 0,.int .i64 0,.int .i64 0,.int .i64 0,.int .i64 0,.int .i64 0,.int .i64 0]:Array Value)=Array.replicate 40 (.int .i64 0) by rfl,Array.getElem?_replicate,if_pos hs]
  go_wp2_with fail
  go_loopw [15] (fun i wr=>∃ (k:Nat) (P:Array Value),k≤kn∧i=.int .i64 k∧Hid (ae wr w2.heap.size P 146)∧Hid (∀ s,s<40→P[s]?=some (.int .i64 (kP kept k s)))∧Hid (P.size=40)∧Hid (Below w2.heap.size w2 wr)) (fun i _=>kn - (intOf i).toNat)
  case atStart=>exact ⟨0,_,Nat.zero_le _,rfl,VP0.out,HP0.out,rfl,(Below.refl _ _).alloc (Nat.le_refl _) _⟩
  case round =>
   obtain ⟨k,P,hk,rfl,HVP,HP,HPS,HNX⟩:=hrel
   clear VP0 HP0
   by_cases hlt:k<kn
   ·obtain ⟨b,off,rfl,hb,hcell⟩:=RK.out.2 (by omega)
    have hkx:k<kept.length:=by rw [← HKN.out];exact hlt
    obtain ⟨s,hs⟩:∃ s,s=kept[k]:=⟨_,rfl⟩
    have hsl:=wV.out s (by rw [hs];exact List.getElem_mem hkx)
    obtain ⟨j,rfl⟩:∃ j:Nat,s=(j:Int):=⟨s.toNat,by omega⟩
    have hj:j<40:=by omega
    have hj':(j:Int)<40:=by omega
    have gk:wr.cell? ⟨b,off+k,none⟩=some (.int .i64 (j:Int)):=by
     rw [hs,← getD_eq kept k hkx]
     exact (HNX.out.cell (p:=⟨b,off+k,none⟩) hb).trans (hcell k hlt)
    have gp:=HVP.out.cell (j:=j) (HP.out j hj)
    have gf:=HVP.out.frozen j
    have HVP2:=Lib.hid (HVP.out.set j (.int .i64 (k:Int)))
    have HP2:Hid (∀ s,s<40→(P.setIfInBounds j (.int .i64 (k:Int)))[s]?=some (.int .i64 (kP kept (k+1) s))):=fun s' hs'=>by
     rw [IP HND.out hkx hs.symm s',Array.getElem?_setIfInBounds]
     by_cases e:j=s'
     ·subst e
      rw [if_pos rfl,if_pos (by rw [HPS.out];exact hj),if_pos rfl]
     ·rw [if_neg e,if_neg (fun h=>e h.symm),HP.out s' hs']
    have BH:Hid ((P.setIfInBounds j (.int .i64 (k:Int))).size=40):=by
     unfold Hid
     rw [Array.size_setIfInBounds,HPS.out]
    have HNX2:=Lib.hid (sK (g:=w2.heap.size) (j:=j) HNX.out (Nat.le_refl _) (.int .i64 (k:Int)))
    clear hs hsl hcell
    go_wp2_with fail
    go_roundw
    case rel=>exact ⟨k+1,_,by omega,by go_num,HVP2.out,HP2.out,BH.out,HNX2.out⟩
    case measure=>simp [intOf];omega
   ·have HPK:Hid (∀ s,s<40→P[s]?=some (.int .i64 (kP kept kn s))):=by
     have:k=kn:=by omega
     rw [← this]
     exact HP.out
    obtain ⟨pI,hpI⟩:∃ p,p=kP kept kn sI:=⟨_,rfl⟩
    have CI:Hid (P[sI]?=some (.int .i64 pI)):=by rw [hpI];exact HPK.out sI hsI
    have HPL:Hid (P.toList.length=40):=by
     unfold Hid
     simpa using HPS.out
    obtain ⟨LB,hLB⟩:∃ l,l=dU kept (kP kept kn) steps:=⟨_,rfl⟩
    obtain ⟨nL,hnL⟩:∃ n,n=LB.length:=⟨_,rfl⟩
    have KB:Hid (∀ W,Below w.heap.size w W→Below w2.heap.size w2 W→Calls Tryz.prog 130 #[.agg #[.int .i64 st,.int .i64 (sI:Int),.slice a2 n2 c2,.slice a3 n3 c3,.slice a4 n4 c4,.slice a5 n5 c5],.slice ka kn kc,.agg P] W fun e w'=>∃ v,e=.returned v∧OwnsS 77 w' W.heap.size v nL LB∧Below W.heap.size W w'):=fun W hW hW2=>by
     rw [hnL,hLB]
     exact zL st _ _ _ _ a5 n5 c5 steps ka kn kc kept P (kP kept kn) W (R5.out.below hW) (by have h1:=HLEN.out;have h2:=R5.out.1;rw [← h2];exact h1) (RK.out.below hW2) (by omega) HPK.out HGOOD.out
    have HRS:Hid (res=⟨(kn:Int),pI,ins,outs,ah,LB⟩):=by
     unfold Hid
     rw [Eg.out,← GK HQ.out,← HKE.out,← HKN.out,hLB,hpI]
     rfl
    have HNL:=Lib.hid hnL
    have BW_0:Hid (Below w2.heap.size w2 wr.drew):=HNX.out.drew
    have VA0:=(V2.out.below HNX.out).drew
    have VP0:=HVP.out.drew
    have SS0:Below w.heap.size w wr.drew∧ae wr.drew w.heap.size #[.int .i64 st,.int .i64 (sI:Int),.slice a2 n2 c2,.slice a3 n3 c3,.slice a4 n4 c4,.slice a5 n5 c5] 27∧ae wr.drew w2.heap.size P 146∧wr.drew.cell? ⟨w.heap.size,0,none⟩=some (.int .i64 st)∧wr.drew.cell? ⟨w.heap.size,1,none⟩=some (.int .i64 (sI:Int))∧wr.drew.cell? ⟨w.heap.size,2,none⟩=some (.slice a2 n2 c2)∧wr.drew.cell? ⟨w.heap.size,3,none⟩=some (.slice a3 n3 c3)∧wr.drew.cell? ⟨w.heap.size,4,none⟩=some (.slice a4 n4 c4)∧wr.drew.cell? ⟨w.heap.size,5,none⟩=some (.slice a5 n5 c5)∧wr.drew.cell? ⟨w2.heap.size,sI,none⟩=some (.int .i64 pI):=⟨(B2.out.trans (HNX.out.mono B2.out.size)).drew,VA0,VP0,VA0.cell rfl,VA0.cell rfl,VA0.cell rfl,VA0.cell rfl,VA0.cell rfl,VA0.cell rfl,VP0.cell CI.out⟩
    have VR_0:Hid (ae wr.drew (w.heap.size+1) #[.int .i64 0,.int .i64 0,.slice none 0 0,.slice none 0 0,.slice none 0 0,.slice none 0 0] 27):=(VR2.out.below HNX.out).drew
    have S0:=SS0
    have sz0:=BW_0.out.size
    have hrb:(w.heap.size+1)<w2.heap.size:=VR2.out.lt
    clear hpI hLB hnL VA0 VP0 HP HPS HVP HNX V2 VR2 B2
    go_wp2_with fail
    refine wp_region_held_drew (S:=fun w'=>Below w.heap.size w w'∧ae w' w.heap.size #[.int .i64 st,.int .i64 (sI:Int),.slice a2 n2 c2,.slice a3 n3 c3,.slice a4 n4 c4,.slice a5 n5 c5] 27∧ae w' w2.heap.size P 146∧w'.cell? ⟨w.heap.size,0,none⟩=some (.int .i64 st)∧w'.cell? ⟨w.heap.size,1,none⟩=some (.int .i64 (sI:Int))∧w'.cell? ⟨w.heap.size,2,none⟩=some (.slice a2 n2 c2)∧w'.cell? ⟨w.heap.size,3,none⟩=some (.slice a3 n3 c3)∧w'.cell? ⟨w.heap.size,4,none⟩=some (.slice a4 n4 c4)∧w'.cell? ⟨w.heap.size,5,none⟩=some (.slice a5 n5 c5)∧w'.cell? ⟨w2.heap.size,sI,none⟩=some (.int .i64 pI)) (by kernel_rfl) S0 (fun hHeld=>?_)
    change wpAnyH _ _ _ _ _ 21 (Array.replicate 21 false) _ _
    refine ag 0 24 (.slice ka kn kc) (fuel:=20) rfl rfl (by kernel_rfl) (fun _ _ _ h=>h) (by rfl) (fun w hSw=>by go_simp) hHeld ?_
    simp only [Act.put,sI0,sI1,sI2]
    refine ag 1 25 (.int .i64 (kn:Int)) (fuel:=19) rfl rfl (by kernel_rfl) (fun _ _ _ h=>h) (by rfl) (fun w hSw=>by go_simp) hHeld ?_
    simp only [Act.put,sI0,sI1,sI2]
    refine ag 2 26 (.pointer (some ⟨w.heap.size,1,none⟩)) (fuel:=18) rfl rfl (by kernel_rfl) (fun _ _ _ h=>h) (by rfl) (fun w hSw=>by go_simp) hHeld ?_
    simp only [Act.put,sI0,sI1,sI2]
    refine ag 3 27 (.int .i64 (sI:Int)) (fuel:=17) rfl rfl (by kernel_rfl) (fun _ _ _ h=>h) (by rfl) (fun w hSw=>by go_simp) hHeld ?_
    simp only [Act.put,sI0,sI1,sI2]
    refine ag 4 28 (.pointer (some ⟨w2.heap.size,sI,none⟩)) (fuel:=16) rfl rfl (by kernel_rfl) (fun _ _ _ h=>h) (by rfl) (fun w hSw=>by go_simp) hHeld ?_
    simp only [Act.put,sI0,sI1,sI2]
    refine ag 5 29 (.int .i64 pI) (fuel:=15) rfl rfl (by kernel_rfl) (fun _ _ _ h=>h) (by rfl) (fun w hSw=>by go_simp) hHeld ?_
    simp only [Act.put,sI0,sI1,sI2]
    refine ag 6 30 (.pointer (some ⟨w.heap.size,2,none⟩)) (fuel:=14) rfl rfl (by kernel_rfl) (fun _ _ _ h=>h) (by rfl) (fun w hSw=>by go_simp) hHeld ?_
    simp only [Act.put,sI0,sI1,sI2]
    refine ag 7 31 (.slice a2 n2 c2) (fuel:=13) rfl rfl (by kernel_rfl) (fun _ _ _ h=>h) (by rfl) (fun w hSw=>by go_simp) hHeld ?_
    simp only [Act.put,sI0,sI1,sI2]
    refine ag 9 33 (.pointer (some ⟨w.heap.size,3,none⟩)) (fuel:=12) rfl rfl (by kernel_rfl) (fun _ _ _ h=>h) (by rfl) (fun w hSw=>by go_simp) hHeld ?_
    simp only [Act.put,sI0,sI1,sI2]
    refine ag 10 34 (.slice a3 n3 c3) (fuel:=11) rfl rfl (by kernel_rfl) (fun _ _ _ h=>h) (by rfl) (fun w hSw=>by go_simp) hHeld ?_
    simp only [Act.put,sI0,sI1,sI2]
    refine ag 12 36 (.pointer (some ⟨w.heap.size,4,none⟩)) (fuel:=10) rfl rfl (by kernel_rfl) (fun _ _ _ h=>h) (by rfl) (fun w hSw=>by go_simp) hHeld ?_
    simp only [Act.put,sI0,sI1,sI2]
    refine ag 13 37 (.slice a4 n4 c4) (fuel:=9) rfl rfl (by kernel_rfl) (fun _ _ _ h=>h) (by rfl) (fun w hSw=>by go_simp) hHeld ?_
    simp only [Act.put,sI0,sI1,sI2]
    refine ag 15 39 (.agg #[.int .i64 st,.int .i64 (sI:Int),.slice a2 n2 c2,.slice a3 n3 c3,.slice a4 n4 c4,.slice a5 n5 c5]) (fuel:=8) rfl rfl (by kernel_rfl) (fun _ _ _ h=>h) (by rfl) (fun w hSw=>by go_simp) hHeld ?_
    simp only [Act.put,sI0,sI1,sI2]
    refine ag 16 40 (.slice ka kn kc) (fuel:=7) rfl rfl (by kernel_rfl) (fun _ _ _ h=>h) (by rfl) (fun w hSw=>by go_simp) hHeld ?_
    simp only [Act.put,sI0,sI1,sI2]
    refine aX 17 41 (.agg P) (fuel:=6) rfl rfl (by kernel_rfl) (fun _ _ _ h=>h) (by rw [show (.agg P:Value)=.agg P.toList.toArray by simp];exact yieldsIf_load_mid (by rfl) 146 (.tmp 4) rfl w2.heap.size 0 rfl P.toList _ (fun w' hSw=>hSw.2.2.1.range) Tryz.underlying146 rfl (by rw [HPL.out];kernel_rfl)) hHeld ?_
    simp only [Act.put,sI0,sI1,sI2]
    refine wpAnyH_ready (rs:=[8]) (fuel:=5) (by kernel_rfl) (by simp) ?_
    refine AllReadyH.cons rfl (fun K hK=>?_) AllReadyH.nil
    go_simp
    refine (K2.out _ SS0.1).mono ?_
    rintro e w5 ⟨x,rfl,ho,hb⟩
    obtain ⟨b2,d2,rfl⟩:=ho.form
    have SS1:Below w.heap.size w w5∧ae w5 w.heap.size #[.int .i64 st,.int .i64 (sI:Int),.slice a2 n2 c2,.slice a3 n3 c3,.slice a4 n4 c4,.slice a5 n5 c5] 27∧ae w5 w2.heap.size P 146∧w5.cell? ⟨w.heap.size,0,none⟩=some (.int .i64 st)∧w5.cell? ⟨w.heap.size,1,none⟩=some (.int .i64 (sI:Int))∧w5.cell? ⟨w.heap.size,2,none⟩=some (.slice a2 n2 c2)∧w5.cell? ⟨w.heap.size,3,none⟩=some (.slice a3 n3 c3)∧w5.cell? ⟨w.heap.size,4,none⟩=some (.slice a4 n4 c4)∧w5.cell? ⟨w.heap.size,5,none⟩=some (.slice a5 n5 c5)∧w5.cell? ⟨w2.heap.size,sI,none⟩=some (.int .i64 pI):=by
     have ha:=SS0.2.1.below hb
     have hp:=SS0.2.2.1.below hb
     exact ⟨SS0.1.trans (hb.mono SS0.1.size),ha,hp,ha.cell rfl,ha.cell rfl,ha.cell rfl,ha.cell rfl,ha.cell rfl,ha.cell rfl,hp.cell CI.out⟩
    have O2_1:=Lib.hid ho
    have VR_1:=Lib.hid (VR_0.out.below hb)
    have BW_1:Hid (Below w2.heap.size w2 w5):=BW_0.out.trans (hb.mono BW_0.out.size)
    have sz1:=hb.size
    clear ho hb
    go_wp2_with fail
    refine hK.out _ _ SS1 (fun hHeld=>?_)
    clear hK K
    refine wpAnyH_ready (rs:=[11]) (fuel:=4) (by kernel_rfl) (by simp) ?_
    refine AllReadyH.cons rfl (fun K hK=>?_) AllReadyH.nil
    go_simp
    refine (K3.out _ SS1.1).mono ?_
    rintro e w6 ⟨x,rfl,ho,hb⟩
    obtain ⟨b3,d3,rfl⟩:=ho.form
    have SS2:Below w.heap.size w w6∧ae w6 w.heap.size #[.int .i64 st,.int .i64 (sI:Int),.slice a2 n2 c2,.slice a3 n3 c3,.slice a4 n4 c4,.slice a5 n5 c5] 27∧ae w6 w2.heap.size P 146∧w6.cell? ⟨w.heap.size,0,none⟩=some (.int .i64 st)∧w6.cell? ⟨w.heap.size,1,none⟩=some (.int .i64 (sI:Int))∧w6.cell? ⟨w.heap.size,2,none⟩=some (.slice a2 n2 c2)∧w6.cell? ⟨w.heap.size,3,none⟩=some (.slice a3 n3 c3)∧w6.cell? ⟨w.heap.size,4,none⟩=some (.slice a4 n4 c4)∧w6.cell? ⟨w.heap.size,5,none⟩=some (.slice a5 n5 c5)∧w6.cell? ⟨w2.heap.size,sI,none⟩=some (.int .i64 pI):=by
     have ha:=SS1.2.1.below hb
     have hp:=SS1.2.2.1.below hb
     exact ⟨SS1.1.trans (hb.mono SS1.1.size),ha,hp,ha.cell rfl,ha.cell rfl,ha.cell rfl,ha.cell rfl,ha.cell rfl,ha.cell rfl,hp.cell CI.out⟩
    have O2_2:=Lib.hid (O2_1.out.below hb)
    have O3_2:=Lib.hid ho
    have VR_2:=Lib.hid (VR_1.out.below hb)
    have BW_2:Hid (Below w2.heap.size w2 w6):=BW_1.out.trans (hb.mono BW_1.out.size)
    have sz2:=hb.size
    clear ho hb
    go_wp2_with fail
    refine hK.out _ _ SS2 (fun hHeld=>?_)
    clear hK K
    refine wpAnyH_ready (rs:=[14]) (fuel:=3) (by kernel_rfl) (by simp) ?_
    refine AllReadyH.cons rfl (fun K hK=>?_) AllReadyH.nil
    go_simp
    refine (K4.out _ SS2.1).mono ?_
    rintro e w7 ⟨x,rfl,ho,hb⟩
    obtain ⟨b4,d4,rfl⟩:=ho.form
    have SS3:Below w.heap.size w w7∧ae w7 w.heap.size #[.int .i64 st,.int .i64 (sI:Int),.slice a2 n2 c2,.slice a3 n3 c3,.slice a4 n4 c4,.slice a5 n5 c5] 27∧ae w7 w2.heap.size P 146∧w7.cell? ⟨w.heap.size,0,none⟩=some (.int .i64 st)∧w7.cell? ⟨w.heap.size,1,none⟩=some (.int .i64 (sI:Int))∧w7.cell? ⟨w.heap.size,2,none⟩=some (.slice a2 n2 c2)∧w7.cell? ⟨w.heap.size,3,none⟩=some (.slice a3 n3 c3)∧w7.cell? ⟨w.heap.size,4,none⟩=some (.slice a4 n4 c4)∧w7.cell? ⟨w.heap.size,5,none⟩=some (.slice a5 n5 c5)∧w7.cell? ⟨w2.heap.size,sI,none⟩=some (.int .i64 pI):=by
     have ha:=SS2.2.1.below hb
     have hp:=SS2.2.2.1.below hb
     exact ⟨SS2.1.trans (hb.mono SS2.1.size),ha,hp,ha.cell rfl,ha.cell rfl,ha.cell rfl,ha.cell rfl,ha.cell rfl,ha.cell rfl,hp.cell CI.out⟩
    have O2_3:=Lib.hid (O2_2.out.below hb)
    have O3_3:=Lib.hid (O3_2.out.below hb)
    have O4_3:=Lib.hid ho
    have VR_3:=Lib.hid (VR_2.out.below hb)
    have BW_3:Hid (Below w2.heap.size w2 w7):=BW_2.out.trans (hb.mono BW_2.out.size)
    have sz3:=hb.size
    clear ho hb
    go_wp2_with fail
    refine hK.out _ _ SS3 (fun hHeld=>?_)
    clear hK K
    refine wpAnyH_ready (rs:=[18]) (fuel:=2) (by kernel_rfl) (by simp) ?_
    refine AllReadyH.cons rfl (fun K hK=>?_) AllReadyH.nil
    go_simp
    refine (KB.out _ SS3.1 BW_3.out).mono ?_
    rintro e w8 ⟨x,rfl,ho,hb⟩
    obtain ⟨b5,d5,rfl⟩:=ho.form
    have SS4:Below w.heap.size w w8∧ae w8 w.heap.size #[.int .i64 st,.int .i64 (sI:Int),.slice a2 n2 c2,.slice a3 n3 c3,.slice a4 n4 c4,.slice a5 n5 c5] 27∧ae w8 w2.heap.size P 146∧w8.cell? ⟨w.heap.size,0,none⟩=some (.int .i64 st)∧w8.cell? ⟨w.heap.size,1,none⟩=some (.int .i64 (sI:Int))∧w8.cell? ⟨w.heap.size,2,none⟩=some (.slice a2 n2 c2)∧w8.cell? ⟨w.heap.size,3,none⟩=some (.slice a3 n3 c3)∧w8.cell? ⟨w.heap.size,4,none⟩=some (.slice a4 n4 c4)∧w8.cell? ⟨w.heap.size,5,none⟩=some (.slice a5 n5 c5)∧w8.cell? ⟨w2.heap.size,sI,none⟩=some (.int .i64 pI):=by
     have ha:=SS3.2.1.below hb
     have hp:=SS3.2.2.1.below hb
     exact ⟨SS3.1.trans (hb.mono SS3.1.size),ha,hp,ha.cell rfl,ha.cell rfl,ha.cell rfl,ha.cell rfl,ha.cell rfl,ha.cell rfl,hp.cell CI.out⟩
    have O2_4:=Lib.hid (O2_3.out.below hb)
    have O3_4:=Lib.hid (O3_3.out.below hb)
    have O4_4:=Lib.hid (O4_3.out.below hb)
    have O5_4:=Lib.hid ho
    have VR_4:=Lib.hid (VR_3.out.below hb)
    have BW_4:Hid (Below w2.heap.size w2 w8):=BW_3.out.trans (hb.mono BW_3.out.size)
    have sz4:=hb.size
    clear ho hb
    go_wp2_with fail
    refine hK.out _ _ SS4 (fun hHeld=>?_)
    clear hK K
    refine ag 19 43 (.agg #[.int .i64 (kn:Int),.int .i64 pI,.slice b2 ins.length d2,.slice b3 outs.length d3,.slice b4 ah.length d4,.slice b5 nL d5]) (fuel:=1) rfl rfl (by kernel_rfl) (fun _ _ _ h=>h) (by rfl) (fun w hSw=>by go_simp) hHeld ?_
    simp only [Act.put,sI0,sI1,sI2]
    have hnl5:=O5_4.out.length
    have TH:Hid (w8.there (w.heap.size+1) 0 6):=VR_4.out.there rfl
    have HGS:=Lib.hid (aA (w.heap.size+1) [.int .i64 (kn:Int),.int .i64 pI,.slice b2 ins.length d2,.slice b3 outs.length d3,.slice b4 ah.length d4,.slice b5 nL d5] 0 w8)
    have SS5:Below w.heap.size w (w8.setCells (w.heap.size+1) 0 [.int .i64 (kn:Int),.int .i64 pI,.slice b2 ins.length d2,.slice b3 outs.length d3,.slice b4 ah.length d4,.slice b5 nL d5])∧ae (w8.setCells (w.heap.size+1) 0 [.int .i64 (kn:Int),.int .i64 pI,.slice b2 ins.length d2,.slice b3 outs.length d3,.slice b4 ah.length d4,.slice b5 nL d5]) w.heap.size #[.int .i64 st,.int .i64 (sI:Int),.slice a2 n2 c2,.slice a3 n3 c3,.slice a4 n4 c4,.slice a5 n5 c5] 27∧ae (w8.setCells (w.heap.size+1) 0 [.int .i64 (kn:Int),.int .i64 pI,.slice b2 ins.length d2,.slice b3 outs.length d3,.slice b4 ah.length d4,.slice b5 nL d5]) w2.heap.size P 146∧(w8.setCells (w.heap.size+1) 0 [.int .i64 (kn:Int),.int .i64 pI,.slice b2 ins.length d2,.slice b3 outs.length d3,.slice b4 ah.length d4,.slice b5 nL d5]).cell? ⟨w.heap.size,0,none⟩=some (.int .i64 st)∧(w8.setCells (w.heap.size+1) 0 [.int .i64 (kn:Int),.int .i64 pI,.slice b2 ins.length d2,.slice b3 outs.length d3,.slice b4 ah.length d4,.slice b5 nL d5]).cell? ⟨w.heap.size,1,none⟩=some (.int .i64 (sI:Int))∧(w8.setCells (w.heap.size+1) 0 [.int .i64 (kn:Int),.int .i64 pI,.slice b2 ins.length d2,.slice b3 outs.length d3,.slice b4 ah.length d4,.slice b5 nL d5]).cell? ⟨w.heap.size,2,none⟩=some (.slice a2 n2 c2)∧(w8.setCells (w.heap.size+1) 0 [.int .i64 (kn:Int),.int .i64 pI,.slice b2 ins.length d2,.slice b3 outs.length d3,.slice b4 ah.length d4,.slice b5 nL d5]).cell? ⟨w.heap.size,3,none⟩=some (.slice a3 n3 c3)∧(w8.setCells (w.heap.size+1) 0 [.int .i64 (kn:Int),.int .i64 pI,.slice b2 ins.length d2,.slice b3 outs.length d3,.slice b4 ah.length d4,.slice b5 nL d5]).cell? ⟨w.heap.size,4,none⟩=some (.slice a4 n4 c4)∧(w8.setCells (w.heap.size+1) 0 [.int .i64 (kn:Int),.int .i64 pI,.slice b2 ins.length d2,.slice b3 outs.length d3,.slice b4 ah.length d4,.slice b5 nL d5]).cell? ⟨w.heap.size,5,none⟩=some (.slice a5 n5 c5)∧(w8.setCells (w.heap.size+1) 0 [.int .i64 (kn:Int),.int .i64 pI,.slice b2 ins.length d2,.slice b3 outs.length d3,.slice b4 ah.length d4,.slice b5 nL d5]).cell? ⟨w2.heap.size,sI,none⟩=some (.int .i64 pI):=by
     have ha:=SS4.2.1.grown HGS.out (fun e=>by have:=Option.some.inj e;omega)
     have hp:=SS4.2.2.1.grown HGS.out (fun e=>by have:=Option.some.inj e;omega)
     exact ⟨SS4.1.grown HGS.out SS4.1.size (fun q hq=>by cases hq;omega),ha,hp,ha.cell rfl,ha.cell rfl,ha.cell rfl,ha.cell rfl,ha.cell rfl,ha.cell rfl,hp.cell CI.out⟩
    refine wpAnyH_ready (rs:=[20]) (fuel:=0) (by kernel_rfl) (by simp) ?_
    refine AllReadyH.cons rfl (fun K hK=>?_) AllReadyH.nil
    rw [if_pos (by rfl)]
    refine wp_store_mid _ _ _ rfl (w.heap.size+1) 0 #[.int .i64 (kn:Int),.int .i64 pI,.slice b2 ins.length d2,.slice b3 outs.length d3,.slice b4 ah.length d4,.slice b5 nL d5] rfl rfl TH.out (by kernel_rfl) (di _ _ _ _ _ _ _ _ _ _ _ _ _ _) ?_
    refine hK.out _ _ SS5 (fun hHeld=>?_)
    clear hK K
    refine wpAnyH_done (by kernel_rfl) ?_ _
    have BF:=Lib.hid SS5.1
    have RG2:Hid ((w8.setCells (w.heap.size+1) 0 [.int .i64 (kn:Int),.int .i64 pI,.slice b2 ins.length d2,.slice b3 outs.length d3,.slice b4 ah.length d4,.slice b5 nL d5]).rangeAt (w.heap.size+1) 0 [.int .i64 (kn:Int),.int .i64 pI,.slice b2 ins.length d2,.slice b3 outs.length d3,.slice b4 ah.length d4,.slice b5 nL d5]):=World.rangeAt_setCells_same w8 (w.heap.size+1) 0 _ TH.out
    clear SS0 SS1 SS2 SS3 SS4 SS5 S0 hHeld
    go_wp2_with fail
    have hres:=HRS.out
    refine bodyPost_ret (v:=.agg #[.int .i64 (kn:Int),.int .i64 pI,.slice b2 ins.length d2,.slice b3 outs.length d3,.slice b4 ah.length d4,.slice b5 nL d5]) ?_ rfl ⟨_,rfl,?_,BF.out⟩
    ·have HC0:=RG2.out 0 _ rfl
     have HC1:=RG2.out 1 _ rfl
     have HC2:=RG2.out 2 _ rfl
     have HC3:=RG2.out 3 _ rfl
     have HC4:=RG2.out 4 _ rfl
     have HC5:=RG2.out 5 _ rfl
     simp only [Nat.zero_add] at HC0 HC1 HC2 HC3 HC4 HC5
     simp [results,Tryz.results81,go_sem,HC0,HC1,HC2,HC3,HC4,HC5]
    ·rw [hres]
     have hw0:w.heap.size≤wr.drew.heap.size:=by omega
     have t2:=O2_4.out.lt
     have t3:=O3_4.out.lt
     have t4:=O4_4.out.lt
     have t5:=O5_4.out.lt
     have u2:=O2_1.out.lt
     have u3:=O3_2.out.lt
     have u4:=O4_3.out.lt
     refine ⟨.slice b2 ins.length d2,.slice b3 outs.length d3,.slice b4 ah.length d4,.slice b5 nL d5,rfl,?_,?_,?_,?_,?_,?_,?_⟩
     ·exact (O2_4.out.keep HGS.out (fun q hq e=>by have:=(t2 q hq).1;have:=Option.some.inj e;omega)).mono (by omega)
     ·exact (O3_4.out.keep HGS.out (fun q hq e=>by have:=(t3 q hq).1;have:=Option.some.inj e;omega)).mono (by omega)
     ·exact (O4_4.out.keep HGS.out (fun q hq e=>by have:=(t4 q hq).1;have:=Option.some.inj e;omega)).mono (by omega)
     ·have:=(O5_4.out.keep HGS.out (fun q hq e=>by have:=(t5 q hq).1;have:=Option.some.inj e;omega)).mono (base:=w.heap.size) (by omega)
      show OwnsS 77 _ _ _ LB.length LB
      rw [← HNL.out]
      exact this
     ·intro b hb
      have h2:=(u2 b hb).2
      exact ⟨fun h=>by have:=(t3 b h).1;omega,fun h=>by have:=(t4 b h).1;omega,fun h=>by have:=(t5 b h).1;omega⟩
     ·intro b hb
      have h2:=(u3 b hb).2
      exact ⟨fun h=>by have:=(t4 b h).1;omega,fun h=>by have:=(t5 b h).1;omega⟩
     ·intro b hb
      have h2:=(u4 b hb).2
      exact fun h=>by have:=(t5 b h).1;omega
open Go.RowKit
abbrev GN:Type:=Nat × Bool × Bool × Bool × Bool
def onlyL (s:GN):Array Bool:=#[true,true,true,true,true,decide (1≤s.1),s.2.1,true,true,decide (2≤s.1),s.2.2.1,true,true,decide (3≤s.1),s.2.2.2.1,true,true,decide (4≤s.1),decide (5≤s.1),s.2.2.2.2,decide (6≤s.1)]
def oW (s:GN):Nat:=(6 - s.1)+(if s.2.1 then 0 else 1)+(if s.2.2.1 then 0 else 1)+(if s.2.2.2.1 then 0 else 1)+(if s.2.2.2.2 then 0 else 1)
def JH (s:GN) (i:Nat):Bool :=
 (i == 5&&s.1 == 0) || (i == 6&&!s.2.1) || (i == 10&&!s.2.2.1) || (i == 14&&!s.2.2.2.1) || (i == 19&&!s.2.2.2.2) || (i == 9&&(s.1 == 1&&s.2.1)) || (i == 13&&(s.1 == 2&&s.2.2.1)) || (i == 17&&(s.1 == 3&&s.2.2.2.1)) || (i == 18&&s.1 == 4) || (i == 20&&(s.1 == 5&&s.2.2.2.2))
def fZ (w:World) (base:Nat) (a:IaD) (v:Value):Prop :=
 ∃ (a2:Option Addr) (n2 c2:Nat) (a3:Option Addr) (n3 c3:Nat) (a4:Option Addr) (n4 c4:Nat) (a5:Option Addr) (n5 c5:Nat),
  v=.agg #[.int .i64 a.states,.int .i64 a.init,.slice a2 n2 c2,.slice a3 n3 c3,.slice a4 n4 c4,.slice a5 n5 c5]∧Row w a2 n2 a.ins∧Row w a3 n3 a.outs∧Row w a4 n4 a.ah∧eP w a5 n5 a.steps ∧
  (∀ q,a2=some q→0<n2→base≤q.block)∧(∀ q,a3=some q→0<n3→base≤q.block)∧(∀ q,a4=some q→0<n4→base≤q.block)∧∀ q,a5=some q→0<n5→base≤q.block
def IZ (v:Value):Prop:=∃ (b2 o2 n2 c2 b3 o3 n3 c3 b4 o4 n4 c4:Nat) (x0 x1 x5:Value),v=.agg #[x0,x1,.slice (some ⟨b2,o2,none⟩) n2 c2,.slice (some ⟨b3,o3,none⟩) n3 c3,.slice (some ⟨b4,o4,none⟩) n4 c4,x5]
def jZ (keep:List Int) (ss:List St):List St:=(ss.map fun x=>(placeOf keep x.1,x.2.1,placeOf keep x.2.2)).filter fun x=>decide (0≤x.1)&&decide (0≤x.2.2)
theorem GR (keep:List Int) (ss:List St) (k:Nat) (hk:k<ss.length):jZ keep (ss.take (k+1))=jZ keep (ss.take k)++if decide (0≤placeOf keep ss[k].1)&&decide (0≤placeOf keep ss[k].2.2) then [(placeOf keep ss[k].1,ss[k].2.1,placeOf keep ss[k].2.2)] else []:=by
 unfold jZ
 rw [List.take_succ_eq_append_getElem hk,List.map_append,List.filter_append]
 congr 1
 rw [List.map_cons,List.map_nil,List.filter_cons,List.filter_nil]
theorem Eh (st it:Int) (b2 o2 n2 c2 b3 o3 n3 c3 b4 o4 n4 c4:Nat) (a5:Option Addr) (n5 c5:Nat) (ins outs ah:List Int) (steps:List St) (ka:Option Addr) (kn kc:Nat) (keep:List Int) (w:World)
  (r2:Row w (some ⟨b2,o2,none⟩) n2 ins) (r3:Row w (some ⟨b3,o3,none⟩) n3 outs) (r4:Row w (some ⟨b4,o4,none⟩) n4 ah) (r5:eP w a5 n5 steps) (rk:Row w ka kn keep) (f2:n2≤1048576) (f3:n3≤1048576) (f4:n4≤1048576) (f5:n5≤1048576) (fk:kn≤4194304) :
  Calls Tryz.prog 79 #[.agg #[.int .i64 st,.int .i64 it,.slice (some ⟨b2,o2,none⟩) n2 c2,.slice (some ⟨b3,o3,none⟩) n3 c3,.slice (some ⟨b4,o4,none⟩) n4 c4,.slice a5 n5 c5],.slice ka kn kc] w fun e w'=>∃ v,e=.returned v∧fZ w' w.heap.size (bK ⟨st,it,ins,outs,ah,steps⟩ keep) v∧IZ v∧Below w.heap.size w w':=by
 obtain ⟨i0,hi,hz0,hz1,hz2⟩:=info_parts gz
 obtain ⟨j0,hj,hj0,hj1,hj2⟩:=info_parts (show (Tryz.prog.info? 77).map (fun i=>(i.zero,i.size,i.bytes))=some (some (.agg #[.int .i64 0,.int .i64 0,.int .i64 0]),3,24) by kernel_rfl)
 have R2:=Lib.hid r2
 have R3:=Lib.hid r3
 have R4:=Lib.hid r4
 have R5:=Lib.hid r5
 have RK:=Lib.hid rk
 clear r2 r3 r4 r5 rk
 obtain ⟨pl,hpl⟩:∃ p,p=placeOf keep it:=⟨_,rfl⟩
 have CAT:Hid (∀ W x,Below w.heap.size w W→Calls Tryz.prog 58 #[.slice ka kn kc,.int .i64 x] W fun e w'=>e=.returned (.int .i64 (placeOf keep x))∧w'=W):=fun W x hW=>KJ ka kn kc x keep W (RK.out.below hW) (by omega)
 have HPL:=Lib.hid hpl
 clear hpl
 have B0:Hid (∀ o o',Below w.heap.size w ((w.alloc o).alloc o')):=fun o o'=>((Below.refl _ _).alloc (Nat.le_refl _) _).alloc (by simp) _
 have V0:Hid (ae ((w.alloc (.cells #[.int .i64 st,.int .i64 it,.slice (some ⟨b2,o2,none⟩) n2 c2,.slice (some ⟨b3,o3,none⟩) n3 c3,.slice (some ⟨b4,o4,none⟩) n4 c4,.slice a5 n5 c5] 27)).alloc (.cells #[.int .i64 0,.int .i64 0,.slice none 0 0,.slice none 0 0,.slice none 0 0,.slice none 0 0] 27)) w.heap.size #[.int .i64 st,.int .i64 it,.slice (some ⟨b2,o2,none⟩) n2 c2,.slice (some ⟨b3,o3,none⟩) n3 c3,.slice (some ⟨b4,o4,none⟩) n4 c4,.slice a5 n5 c5] 27):=(ae.new w _ _ rfl).alloc _
 have VR0:Hid (ae ((w.alloc (.cells #[.int .i64 st,.int .i64 it,.slice (some ⟨b2,o2,none⟩) n2 c2,.slice (some ⟨b3,o3,none⟩) n3 c3,.slice (some ⟨b4,o4,none⟩) n4 c4,.slice a5 n5 c5] 27)).alloc (.cells #[.int .i64 0,.int .i64 0,.slice none 0 0,.slice none 0 0,.slice none 0 0,.slice none 0 0] 27)) (w.heap.size+1) #[.int .i64 0,.int .i64 0,.slice none 0 0,.slice none 0 0,.slice none 0 0,.slice none 0 0] 27):=ae.new _ _ _ (by simp)
 have S0:Below w.heap.size w ((w.alloc (.cells #[.int .i64 st,.int .i64 it,.slice (some ⟨b2,o2,none⟩) n2 c2,.slice (some ⟨b3,o3,none⟩) n3 c3,.slice (some ⟨b4,o4,none⟩) n4 c4,.slice a5 n5 c5] 27)).alloc (.cells #[.int .i64 0,.int .i64 0,.slice none 0 0,.slice none 0 0,.slice none 0 0,.slice none 0 0] 27)).drew∧ae ((w.alloc (.cells #[.int .i64 st,.int .i64 it,.slice (some ⟨b2,o2,none⟩) n2 c2,.slice (some ⟨b3,o3,none⟩) n3 c3,.slice (some ⟨b4,o4,none⟩) n4 c4,.slice a5 n5 c5] 27)).alloc (.cells #[.int .i64 0,.int .i64 0,.slice none 0 0,.slice none 0 0,.slice none 0 0,.slice none 0 0] 27)).drew w.heap.size #[.int .i64 st,.int .i64 it,.slice (some ⟨b2,o2,none⟩) n2 c2,.slice (some ⟨b3,o3,none⟩) n3 c3,.slice (some ⟨b4,o4,none⟩) n4 c4,.slice a5 n5 c5] 27∧ae ((w.alloc (.cells #[.int .i64 st,.int .i64 it,.slice (some ⟨b2,o2,none⟩) n2 c2,.slice (some ⟨b3,o3,none⟩) n3 c3,.slice (some ⟨b4,o4,none⟩) n4 c4,.slice a5 n5 c5] 27)).alloc (.cells #[.int .i64 0,.int .i64 0,.slice none 0 0,.slice none 0 0,.slice none 0 0,.slice none 0 0] 27)).drew (w.heap.size+1) #[.int .i64 0,.int .i64 0,.slice none 0 0,.slice none 0 0,.slice none 0 0,.slice none 0 0] 27∧((w.alloc (.cells #[.int .i64 st,.int .i64 it,.slice (some ⟨b2,o2,none⟩) n2 c2,.slice (some ⟨b3,o3,none⟩) n3 c3,.slice (some ⟨b4,o4,none⟩) n4 c4,.slice a5 n5 c5] 27)).alloc (.cells #[.int .i64 0,.int .i64 0,.slice none 0 0,.slice none 0 0,.slice none 0 0,.slice none 0 0] 27)).drew.cell? ⟨w.heap.size,1,none⟩=some (.int .i64 it)∧((w.alloc (.cells #[.int .i64 st,.int .i64 it,.slice (some ⟨b2,o2,none⟩) n2 c2,.slice (some ⟨b3,o3,none⟩) n3 c3,.slice (some ⟨b4,o4,none⟩) n4 c4,.slice a5 n5 c5] 27)).alloc (.cells #[.int .i64 0,.int .i64 0,.slice none 0 0,.slice none 0 0,.slice none 0 0,.slice none 0 0] 27)).drew.cell? ⟨w.heap.size,2,none⟩=some (.slice (some ⟨b2,o2,none⟩) n2 c2)∧((w.alloc (.cells #[.int .i64 st,.int .i64 it,.slice (some ⟨b2,o2,none⟩) n2 c2,.slice (some ⟨b3,o3,none⟩) n3 c3,.slice (some ⟨b4,o4,none⟩) n4 c4,.slice a5 n5 c5] 27)).alloc (.cells #[.int .i64 0,.int .i64 0,.slice none 0 0,.slice none 0 0,.slice none 0 0,.slice none 0 0] 27)).drew.cell? ⟨w.heap.size,3,none⟩=some (.slice (some ⟨b3,o3,none⟩) n3 c3)∧((w.alloc (.cells #[.int .i64 st,.int .i64 it,.slice (some ⟨b2,o2,none⟩) n2 c2,.slice (some ⟨b3,o3,none⟩) n3 c3,.slice (some ⟨b4,o4,none⟩) n4 c4,.slice a5 n5 c5] 27)).alloc (.cells #[.int .i64 0,.int .i64 0,.slice none 0 0,.slice none 0 0,.slice none 0 0,.slice none 0 0] 27)).drew.cell? ⟨w.heap.size,4,none⟩=some (.slice (some ⟨b4,o4,none⟩) n4 c4):=by
  have ha:=V0.out.drew
  have hr:=VR0.out.drew
  exact ⟨(B0.out _ _).drew,ha,hr,ha.cell rfl,ha.cell rfl,ha.cell rfl,ha.cell rfl⟩
 go_enter Tryz.func79,Tryz.ntmps79
 go_wp2_with fail
 refine wp_region_held_drew (S:=fun w'=>Below w.heap.size w w'∧ae w' w.heap.size #[.int .i64 st,.int .i64 it,.slice (some ⟨b2,o2,none⟩) n2 c2,.slice (some ⟨b3,o3,none⟩) n3 c3,.slice (some ⟨b4,o4,none⟩) n4 c4,.slice a5 n5 c5] 27∧ae w' (w.heap.size+1) #[.int .i64 0,.int .i64 0,.slice none 0 0,.slice none 0 0,.slice none 0 0,.slice none 0 0] 27∧w'.cell? ⟨w.heap.size,1,none⟩=some (.int .i64 it)∧w'.cell? ⟨w.heap.size,2,none⟩=some (.slice (some ⟨b2,o2,none⟩) n2 c2)∧w'.cell? ⟨w.heap.size,3,none⟩=some (.slice (some ⟨b3,o3,none⟩) n3 c3)∧w'.cell? ⟨w.heap.size,4,none⟩=some (.slice (some ⟨b4,o4,none⟩) n4 c4)) (by kernel_rfl) S0 (fun hHeld=>?_)
 change wpAnyH _ _ _ _ _ 21 (Array.replicate 21 false) _ _
 refine ag 0 8 (.slice ka kn kc) (fuel:=20) rfl rfl (by kernel_rfl) (fun _ _ _ h=>h) (by rfl) (fun w hSw=>by go_simp) hHeld ?_
 simp only [Act.put,sI0,sI1,sI2]
 refine ag 1 9 (.int .i64 (kn:Int)) (fuel:=19) rfl rfl (by kernel_rfl) (fun _ _ _ h=>h) (by rfl) (fun w hSw=>by go_simp) hHeld ?_
 simp only [Act.put,sI0,sI1,sI2]
 refine ag 2 10 (.slice ka kn kc) (fuel:=18) rfl rfl (by kernel_rfl) (fun _ _ _ h=>h) (by rfl) (fun w hSw=>by go_simp) hHeld ?_
 simp only [Act.put,sI0,sI1,sI2]
 refine ag 3 11 (.pointer (some ⟨w.heap.size,1,none⟩)) (fuel:=17) rfl rfl (by kernel_rfl) (fun _ _ _ h=>h) (by rfl) (fun w hSw=>by go_simp) hHeld ?_
 simp only [Act.put,sI0,sI1,sI2]
 refine ag 4 12 (.int .i64 it) (fuel:=16) rfl rfl (by kernel_rfl) (fun _ _ _ h=>h) (by rfl) (fun w hSw=>by go_simp) hHeld ?_
 simp only [Act.put,sI0,sI1,sI2]
 refine ag 7 15 (.pointer (some ⟨w.heap.size,2,none⟩)) (fuel:=15) rfl rfl (by kernel_rfl) (fun _ _ _ h=>h) (by rfl) (fun w hSw=>by go_simp) hHeld ?_
 simp only [Act.put,sI0,sI1,sI2]
 refine ag 8 16 (.slice (some ⟨b2,o2,none⟩) n2 c2) (fuel:=14) rfl rfl (by kernel_rfl) (fun _ _ _ h=>h) (by rfl) (fun w hSw=>by go_simp) hHeld ?_
 simp only [Act.put,sI0,sI1,sI2]
 refine ag 11 19 (.pointer (some ⟨w.heap.size,3,none⟩)) (fuel:=13) rfl rfl (by kernel_rfl) (fun _ _ _ h=>h) (by rfl) (fun w hSw=>by go_simp) hHeld ?_
 simp only [Act.put,sI0,sI1,sI2]
 refine ag 12 20 (.slice (some ⟨b3,o3,none⟩) n3 c3) (fuel:=12) rfl rfl (by kernel_rfl) (fun _ _ _ h=>h) (by rfl) (fun w hSw=>by go_simp) hHeld ?_
 simp only [Act.put,sI0,sI1,sI2]
 refine ag 15 23 (.pointer (some ⟨w.heap.size,4,none⟩)) (fuel:=11) rfl rfl (by kernel_rfl) (fun _ _ _ h=>h) (by rfl) (fun w hSw=>by go_simp) hHeld ?_
 simp only [Act.put,sI0,sI1,sI2]
 refine ag 16 24 (.slice (some ⟨b4,o4,none⟩) n4 c4) (fuel:=10) rfl rfl (by kernel_rfl) (fun _ _ _ h=>h) (by rfl) (fun w hSw=>by go_simp) hHeld ?_
 simp only [Act.put,sI0,sI1,sI2]
 refine IL onlyL oW (fun s a' w'=>s.1≤6∧(2≤s.1→s.2.1=true)∧(3≤s.1→s.2.2.1=true)∧(4≤s.1→s.2.2.2.1=true)∧(6≤s.1→s.2.2.2.2=true)∧(Below w.heap.size w w'∧ae w' w.heap.size #[.int .i64 st,.int .i64 it,.slice (some ⟨b2,o2,none⟩) n2 c2,.slice (some ⟨b3,o3,none⟩) n3 c3,.slice (some ⟨b4,o4,none⟩) n4 c4,.slice a5 n5 c5] 27∧ae w' (w.heap.size+1) #[.int .i64 0,.int .i64 0,.slice none 0 0,.slice none 0 0,.slice none 0 0,.slice none 0 0] 27∧w'.cell? ⟨w.heap.size,1,none⟩=some (.int .i64 it)∧w'.cell? ⟨w.heap.size,2,none⟩=some (.slice (some ⟨b2,o2,none⟩) n2 c2)∧w'.cell? ⟨w.heap.size,3,none⟩=some (.slice (some ⟨b3,o3,none⟩) n3 c3)∧w'.cell? ⟨w.heap.size,4,none⟩=some (.slice (some ⟨b4,o4,none⟩) n4 c4))∧∃ u5 u13 u14 u17 u18 u21 u22 u25 u26:Value,a'=⟨#[.agg #[.int .i64 st,.int .i64 it,.slice (some ⟨b2,o2,none⟩) n2 c2,.slice (some ⟨b3,o3,none⟩) n3 c3,.slice (some ⟨b4,o4,none⟩) n4 c4,.slice a5 n5 c5],.slice ka kn kc,.pointer (some ⟨w.heap.size,0,none⟩),undef,.pointer (some ⟨(w.heap.size+1),0,none⟩),u5,undef,undef,.slice ka kn kc,.int .i64 (kn:Int),.slice ka kn kc,.pointer (some ⟨w.heap.size,1,none⟩),.int .i64 it,u13,u14,.pointer (some ⟨w.heap.size,2,none⟩),.slice (some ⟨b2,o2,none⟩) n2 c2,u17,u18,.pointer (some ⟨w.heap.size,3,none⟩),.slice (some ⟨b3,o3,none⟩) n3 c3,u21,u22,.pointer (some ⟨w.heap.size,4,none⟩),.slice (some ⟨b4,o4,none⟩) n4 c4,u25,u26,undef,undef,undef,undef,undef,undef,undef,undef,undef,undef,undef,undef,undef,undef,undef,undef,undef,undef,undef,undef,undef,undef,undef,undef,undef,undef,undef,undef,undef,undef,undef,undef,undef,undef,undef,undef,undef,undef,undef,undef,undef,undef,undef,undef,undef],[]⟩∧Hid (1≤s.1→u13=.int .i64 pl)∧Hid (s.2.1=true→∃ g:Nat,u14=.slice (some ⟨g,0,none⟩) 0 0)∧Hid (s.2.2.1=true→∃ g:Nat,u18=.slice (some ⟨g,0,none⟩) 0 0)∧Hid (s.2.2.2.1=true→∃ g:Nat,u22=.slice (some ⟨g,0,none⟩) 0 0)∧Hid (2≤s.1→∃ ad c,u17=.slice ad n2 c∧uo w' ad n2 ins u5∧∀ q,ad=some q→0<n2→w.heap.size+2≤q.block)∧Hid (3≤s.1→∃ ad c,u21=.slice ad n3 c∧uo w' ad n3 outs u5∧∀ q,ad=some q→0<n3→w.heap.size+2≤q.block)∧Hid (4≤s.1→∃ ad c,u25=.slice ad n4 c∧uo w' ad n4 ah u5∧∀ q,ad=some q→0<n4→w.heap.size+2≤q.block)∧Hid (5≤s.1→u26=.agg #[.int .i64 (kn:Int),.int .i64 pl,u17,u21,u25,.slice none 0 0])∧Hid (s.2.2.2.2=false→u5=undef)∧Hid (s.2.2.2.2=true→∃ b:Nat,u5=.pointer (some ⟨b,0,none⟩)∧w.heap.size+2≤b∧ae w' b (if 6≤s.1 then #[.int .i64 (kn:Int),.int .i64 pl,u17,u21,u25,.slice none 0 0] else #[.int .i64 0,.int .i64 0,.slice none 0 0,.slice none 0 0,.slice none 0 0,.slice none 0 0]) 27)) ?hS ?hend ?hne ?hgo (0,false,false,false,false) (by kernel_rfl) rfl ?hJ0
 case hS=>exact fun s a' w' h=>h.2.2.2.2.2.1
 case hJ0=>exact ⟨by simp,fun h=>absurd h (by simp),fun h=>absurd h (by simp),fun h=>absurd h (by simp),fun h=>absurd h (by simp),S0,undef,undef,undef,undef,undef,undef,undef,undef,undef,rfl,fun h=>absurd h (by simp),(fun h=>by cases h),(fun h=>by cases h),(fun h=>by cases h),fun h=>absurd h (by simp),fun h=>absurd h (by simp),fun h=>absurd h (by simp),fun h=>absurd h (by simp),(fun _=>rfl),(fun h=>by cases h)⟩
 case hne =>
  rintro ⟨p,m2,m3,m4,sv⟩ a' w2 hJ hF
  have hp6:=hJ.1
  simp only at hp6
  clear hJ
  have hpc:p=0∨p=1∨p=2∨p=3∨p=4∨p=5∨p=6:=by omega
  rcases hpc with rfl|rfl|rfl|rfl|rfl|rfl|rfl
  ·cases m2 <;> cases m3 <;> cases m4 <;> cases sv <;> exact iP (by kernel_rfl)
  ·cases m2 <;> cases m3 <;> cases m4 <;> cases sv <;> exact iP (by kernel_rfl)
  ·cases m2 <;> cases m3 <;> cases m4 <;> cases sv <;> exact iP (by kernel_rfl)
  ·cases m2 <;> cases m3 <;> cases m4 <;> cases sv <;> exact iP (by kernel_rfl)
  ·cases m2 <;> cases m3 <;> cases m4 <;> cases sv <;> exact iP (by kernel_rfl)
  ·cases m2 <;> cases m3 <;> cases m4 <;> cases sv <;> exact iP (by kernel_rfl)
  ·cases m2 with
   | false=>cases m3 <;> cases m4 <;> cases sv <;> exact iP (by kernel_rfl)
   | true =>
    cases m3 with
    | false=>cases m4 <;> cases sv <;> exact iP (by kernel_rfl)
    | true =>
     cases m4 with
     | false=>cases sv <;> exact iP (by kernel_rfl)
     | true =>
      cases sv with
      | false=>exact iP (by kernel_rfl)
      | true=>exact absurd hF (by decide)
 case hgo =>
  rintro ⟨p,m2,m3,m4,sv⟩ a' w2 hJ hF i hi1
  have hp6:=hJ.1
  simp only at hp6
  have hT:JH (p,m2,m3,m4,sv) i=true:=by
   clear hJ
   have hpc:p=0∨p=1∨p=2∨p=3∨p=4∨p=5∨p=6:=by omega
   rcases hpc with rfl|rfl|rfl|rfl|rfl|rfl|rfl <;> cases m2 <;> cases m3 <;> cases m4 <;> cases sv <;> exact IK hi1 (by kernel_rfl)
  clear hp6 hi1
  simp only [JH,Bool.or_eq_true,Bool.and_eq_true,beq_iff_eq,Bool.not_eq_true'] at hT
  rcases hT with ((((((((⟨rfl,hp⟩|⟨rfl,hp⟩)|⟨rfl,hp⟩)|⟨rfl,hp⟩)|⟨rfl,hp⟩)|⟨rfl,hp⟩)|⟨rfl,hp⟩)|⟨rfl,hp⟩)|⟨rfl,hp⟩)|⟨rfl,hp⟩
  ·obtain ⟨hp6,hv2,hv3,hv4,hv6,hSS,u5,u13,u14,u17,u18,u21,u22,u25,u26,rfl,F13,F14,F18,F22,F17,F21,F25,F26,F5n,F5⟩:=hJ
   obtain rfl:p=0:=hp
   refine ⟨_,rfl,fun K hK=>?_⟩
   go_simp
   refine (CAT.out _ it hSS.1).mono ?_
   rintro e w3 ⟨rfl,hw3⟩
   obtain rfl:=hw3.symm
   go_wp2_with fail
   refine hK.out (1,m2,m3,m4,sv) _ _ (by simp only [oW];first|omega|(simp;omega)|(simp;done)) rfl ⟨by simp,fun h=>absurd h (by simp),fun h=>absurd h (by simp),fun h=>absurd h (by simp),fun h=>absurd h (by simp),hSS,u5,_,u14,u17,u18,u21,u22,u25,u26,rfl,(fun _=>by rw [HPL.out]),F14.out,F18.out,F22.out,fun h=>absurd h (by simp),fun h=>absurd h (by simp),fun h=>absurd h (by simp),fun h=>absurd h (by simp),F5n.out,F5.out⟩
  ·obtain ⟨hp6,hv2,hv3,hv4,hv6,hSS,u5,u13,u14,u17,u18,u21,u22,u25,u26,rfl,F13,F14,F18,F22,F17,F21,F25,F26,F5n,F5⟩:=hJ
   obtain rfl:m2=false:=hp
   have hb:Below w2.heap.size w2 (w2.alloc (.cells #[] 3)):=(Below.refl _ _).alloc (Nat.le_refl _) _
   have pM:Below w.heap.size w (w2.alloc (.cells #[] 3))∧ae (w2.alloc (.cells #[] 3)) w.heap.size #[.int .i64 st,.int .i64 it,.slice (some ⟨b2,o2,none⟩) n2 c2,.slice (some ⟨b3,o3,none⟩) n3 c3,.slice (some ⟨b4,o4,none⟩) n4 c4,.slice a5 n5 c5] 27∧ae (w2.alloc (.cells #[] 3)) (w.heap.size+1) #[.int .i64 0,.int .i64 0,.slice none 0 0,.slice none 0 0,.slice none 0 0,.slice none 0 0] 27∧(w2.alloc (.cells #[] 3)).cell? ⟨w.heap.size,1,none⟩=some (.int .i64 it)∧(w2.alloc (.cells #[] 3)).cell? ⟨w.heap.size,2,none⟩=some (.slice (some ⟨b2,o2,none⟩) n2 c2)∧(w2.alloc (.cells #[] 3)).cell? ⟨w.heap.size,3,none⟩=some (.slice (some ⟨b3,o3,none⟩) n3 c3)∧(w2.alloc (.cells #[] 3)).cell? ⟨w.heap.size,4,none⟩=some (.slice (some ⟨b4,o4,none⟩) n4 c4):=by
    have ha:=hSS.2.1.below hb
    have hr:=hSS.2.2.1.below hb
    exact ⟨hSS.1.trans (hb.mono hSS.1.size),ha,hr,ha.cell rfl,ha.cell rfl,ha.cell rfl,ha.cell rfl⟩
   refine ⟨_,rfl,fun K hK=>?_⟩
   go_simp
   refine hK.out (p,true,m3,m4,sv) _ _ (by simp only [oW];first|omega|(simp;omega)|(simp;done)) rfl ⟨hp6,(fun _=>rfl),hv3,hv4,hv6,pM,u5,u13,_,u17,u18,u21,u22,u25,u26,rfl,F13.out,(fun _=>⟨_,rfl⟩),F18.out,F22.out,fun h=>by obtain ⟨ad,c,e,r,rz⟩:=F17.out h;exact ⟨ad,c,e,r.below hb,rz⟩,fun h=>by obtain ⟨ad,c,e,r,rz⟩:=F21.out h;exact ⟨ad,c,e,r.below hb,rz⟩,fun h=>by obtain ⟨ad,c,e,r,rz⟩:=F25.out h;exact ⟨ad,c,e,r.below hb,rz⟩,F26.out,F5n.out,fun h=>by obtain ⟨b,e,hle,hv⟩:=F5.out h;exact ⟨b,e,hle,hv.below hb⟩⟩
  ·obtain ⟨hp6,hv2,hv3,hv4,hv6,hSS,u5,u13,u14,u17,u18,u21,u22,u25,u26,rfl,F13,F14,F18,F22,F17,F21,F25,F26,F5n,F5⟩:=hJ
   obtain rfl:m3=false:=hp
   have hb:Below w2.heap.size w2 (w2.alloc (.cells #[] 3)):=(Below.refl _ _).alloc (Nat.le_refl _) _
   have pM:Below w.heap.size w (w2.alloc (.cells #[] 3))∧ae (w2.alloc (.cells #[] 3)) w.heap.size #[.int .i64 st,.int .i64 it,.slice (some ⟨b2,o2,none⟩) n2 c2,.slice (some ⟨b3,o3,none⟩) n3 c3,.slice (some ⟨b4,o4,none⟩) n4 c4,.slice a5 n5 c5] 27∧ae (w2.alloc (.cells #[] 3)) (w.heap.size+1) #[.int .i64 0,.int .i64 0,.slice none 0 0,.slice none 0 0,.slice none 0 0,.slice none 0 0] 27∧(w2.alloc (.cells #[] 3)).cell? ⟨w.heap.size,1,none⟩=some (.int .i64 it)∧(w2.alloc (.cells #[] 3)).cell? ⟨w.heap.size,2,none⟩=some (.slice (some ⟨b2,o2,none⟩) n2 c2)∧(w2.alloc (.cells #[] 3)).cell? ⟨w.heap.size,3,none⟩=some (.slice (some ⟨b3,o3,none⟩) n3 c3)∧(w2.alloc (.cells #[] 3)).cell? ⟨w.heap.size,4,none⟩=some (.slice (some ⟨b4,o4,none⟩) n4 c4):=by
    have ha:=hSS.2.1.below hb
    have hr:=hSS.2.2.1.below hb
    exact ⟨hSS.1.trans (hb.mono hSS.1.size),ha,hr,ha.cell rfl,ha.cell rfl,ha.cell rfl,ha.cell rfl⟩
   refine ⟨_,rfl,fun K hK=>?_⟩
   go_simp
   refine hK.out (p,m2,true,m4,sv) _ _ (by simp only [oW];first|omega|(simp;omega)|(simp;done)) rfl ⟨hp6,hv2,(fun _=>rfl),hv4,hv6,pM,u5,u13,u14,u17,_,u21,u22,u25,u26,rfl,F13.out,F14.out,(fun _=>⟨_,rfl⟩),F22.out,fun h=>by obtain ⟨ad,c,e,r,rz⟩:=F17.out h;exact ⟨ad,c,e,r.below hb,rz⟩,fun h=>by obtain ⟨ad,c,e,r,rz⟩:=F21.out h;exact ⟨ad,c,e,r.below hb,rz⟩,fun h=>by obtain ⟨ad,c,e,r,rz⟩:=F25.out h;exact ⟨ad,c,e,r.below hb,rz⟩,F26.out,F5n.out,fun h=>by obtain ⟨b,e,hle,hv⟩:=F5.out h;exact ⟨b,e,hle,hv.below hb⟩⟩
  ·obtain ⟨hp6,hv2,hv3,hv4,hv6,hSS,u5,u13,u14,u17,u18,u21,u22,u25,u26,rfl,F13,F14,F18,F22,F17,F21,F25,F26,F5n,F5⟩:=hJ
   obtain rfl:m4=false:=hp
   have hb:Below w2.heap.size w2 (w2.alloc (.cells #[] 3)):=(Below.refl _ _).alloc (Nat.le_refl _) _
   have pM:Below w.heap.size w (w2.alloc (.cells #[] 3))∧ae (w2.alloc (.cells #[] 3)) w.heap.size #[.int .i64 st,.int .i64 it,.slice (some ⟨b2,o2,none⟩) n2 c2,.slice (some ⟨b3,o3,none⟩) n3 c3,.slice (some ⟨b4,o4,none⟩) n4 c4,.slice a5 n5 c5] 27∧ae (w2.alloc (.cells #[] 3)) (w.heap.size+1) #[.int .i64 0,.int .i64 0,.slice none 0 0,.slice none 0 0,.slice none 0 0,.slice none 0 0] 27∧(w2.alloc (.cells #[] 3)).cell? ⟨w.heap.size,1,none⟩=some (.int .i64 it)∧(w2.alloc (.cells #[] 3)).cell? ⟨w.heap.size,2,none⟩=some (.slice (some ⟨b2,o2,none⟩) n2 c2)∧(w2.alloc (.cells #[] 3)).cell? ⟨w.heap.size,3,none⟩=some (.slice (some ⟨b3,o3,none⟩) n3 c3)∧(w2.alloc (.cells #[] 3)).cell? ⟨w.heap.size,4,none⟩=some (.slice (some ⟨b4,o4,none⟩) n4 c4):=by
    have ha:=hSS.2.1.below hb
    have hr:=hSS.2.2.1.below hb
    exact ⟨hSS.1.trans (hb.mono hSS.1.size),ha,hr,ha.cell rfl,ha.cell rfl,ha.cell rfl,ha.cell rfl⟩
   refine ⟨_,rfl,fun K hK=>?_⟩
   go_simp
   refine hK.out (p,m2,m3,true,sv) _ _ (by simp only [oW];first|omega|(simp;omega)|(simp;done)) rfl ⟨hp6,hv2,hv3,(fun _=>rfl),hv6,pM,u5,u13,u14,u17,u18,u21,_,u25,u26,rfl,F13.out,F14.out,F18.out,(fun _=>⟨_,rfl⟩),fun h=>by obtain ⟨ad,c,e,r,rz⟩:=F17.out h;exact ⟨ad,c,e,r.below hb,rz⟩,fun h=>by obtain ⟨ad,c,e,r,rz⟩:=F21.out h;exact ⟨ad,c,e,r.below hb,rz⟩,fun h=>by obtain ⟨ad,c,e,r,rz⟩:=F25.out h;exact ⟨ad,c,e,r.below hb,rz⟩,F26.out,F5n.out,fun h=>by obtain ⟨b,e,hle,hv⟩:=F5.out h;exact ⟨b,e,hle,hv.below hb⟩⟩
  ·obtain ⟨hp6,hv2,hv3,hv4,hv6,hSS,u5,u13,u14,u17,u18,u21,u22,u25,u26,rfl,F13,F14,F18,F22,F17,F21,F25,F26,F5n,F5⟩:=hJ
   obtain rfl:sv=false:=hp
   have hp5:¬ 6≤p:=fun h=>by have:=hv6 h;cases this
   have hb:Below w2.heap.size w2 (w2.alloc (.cells #[.int .i64 0,.int .i64 0,.slice none 0 0,.slice none 0 0,.slice none 0 0,.slice none 0 0] 27)):=(Below.refl _ _).alloc (Nat.le_refl _) _
   have hrl:=hSS.2.2.1.lt
   have pM:Below w.heap.size w (w2.alloc (.cells #[.int .i64 0,.int .i64 0,.slice none 0 0,.slice none 0 0,.slice none 0 0,.slice none 0 0] 27))∧ae (w2.alloc (.cells #[.int .i64 0,.int .i64 0,.slice none 0 0,.slice none 0 0,.slice none 0 0,.slice none 0 0] 27)) w.heap.size #[.int .i64 st,.int .i64 it,.slice (some ⟨b2,o2,none⟩) n2 c2,.slice (some ⟨b3,o3,none⟩) n3 c3,.slice (some ⟨b4,o4,none⟩) n4 c4,.slice a5 n5 c5] 27∧ae (w2.alloc (.cells #[.int .i64 0,.int .i64 0,.slice none 0 0,.slice none 0 0,.slice none 0 0,.slice none 0 0] 27)) (w.heap.size+1) #[.int .i64 0,.int .i64 0,.slice none 0 0,.slice none 0 0,.slice none 0 0,.slice none 0 0] 27∧(w2.alloc (.cells #[.int .i64 0,.int .i64 0,.slice none 0 0,.slice none 0 0,.slice none 0 0,.slice none 0 0] 27)).cell? ⟨w.heap.size,1,none⟩=some (.int .i64 it)∧(w2.alloc (.cells #[.int .i64 0,.int .i64 0,.slice none 0 0,.slice none 0 0,.slice none 0 0,.slice none 0 0] 27)).cell? ⟨w.heap.size,2,none⟩=some (.slice (some ⟨b2,o2,none⟩) n2 c2)∧(w2.alloc (.cells #[.int .i64 0,.int .i64 0,.slice none 0 0,.slice none 0 0,.slice none 0 0,.slice none 0 0] 27)).cell? ⟨w.heap.size,3,none⟩=some (.slice (some ⟨b3,o3,none⟩) n3 c3)∧(w2.alloc (.cells #[.int .i64 0,.int .i64 0,.slice none 0 0,.slice none 0 0,.slice none 0 0,.slice none 0 0] 27)).cell? ⟨w.heap.size,4,none⟩=some (.slice (some ⟨b4,o4,none⟩) n4 c4):=by
    have ha:=hSS.2.1.below hb
    have hr:=hSS.2.2.1.below hb
    exact ⟨hSS.1.trans (hb.mono hSS.1.size),ha,hr,ha.cell rfl,ha.cell rfl,ha.cell rfl,ha.cell rfl⟩
   refine ⟨_,rfl,fun K hK=>?_⟩
   go_simp
   refine hK.out (p,m2,m3,m4,true) _ _ (by simp only [oW];first|omega|(simp;omega)|(simp;done)) rfl ⟨hp6,hv2,hv3,hv4,(fun _=>rfl),pM,_,u13,u14,u17,u18,u21,u22,u25,u26,rfl,F13.out,F14.out,F18.out,F22.out,fun h=>by obtain ⟨ad,c,e,r,rz⟩:=F17.out h;exact ⟨ad,c,e,⟨r.1.below hb,fun b hb2 q hq h0=>by cases hb2;have:=r.1.1.lt q hq h0;omega⟩,rz⟩,fun h=>by obtain ⟨ad,c,e,r,rz⟩:=F21.out h;exact ⟨ad,c,e,⟨r.1.below hb,fun b hb2 q hq h0=>by cases hb2;have:=r.1.1.lt q hq h0;omega⟩,rz⟩,fun h=>by obtain ⟨ad,c,e,r,rz⟩:=F25.out h;exact ⟨ad,c,e,⟨r.1.below hb,fun b hb2 q hq h0=>by cases hb2;have:=r.1.1.lt q hq h0;omega⟩,rz⟩,F26.out,(fun h=>by cases h),(fun _=>⟨w2.heap.size,rfl,by omega,by rw [if_neg hp5];exact ae.new w2 #[.int .i64 0,.int .i64 0,.slice none 0 0,.slice none 0 0,.slice none 0 0,.slice none 0 0] 27 rfl⟩)⟩
  ·obtain ⟨hp6,hv2,hv3,hv4,hv6,hSS,u5,u13,u14,u17,u18,u21,u22,u25,u26,rfl,F13,F14,F18,F22,F17,F21,F25,F26,F5n,F5⟩:=hJ
   obtain ⟨rfl,rfl⟩:p=1∧m2=true:=hp
   obtain ⟨g,hgu⟩:=F14.out rfl
   subst hgu
   refine ⟨_,rfl,fun K hK=>?_⟩
   refine yj rfl (.tmp 14) (.tmp 16) rfl i0 Tryz.underlying24 hi hz0 hz1 hz2 g rfl b2 o2 n2 c2 ins rfl (R2.out.below hSS.1) f2 ?_
   intro a9 c9 w9 hr hb hloc
   have pM:Below w.heap.size w w9∧ae w9 w.heap.size #[.int .i64 st,.int .i64 it,.slice (some ⟨b2,o2,none⟩) n2 c2,.slice (some ⟨b3,o3,none⟩) n3 c3,.slice (some ⟨b4,o4,none⟩) n4 c4,.slice a5 n5 c5] 27∧ae w9 (w.heap.size+1) #[.int .i64 0,.int .i64 0,.slice none 0 0,.slice none 0 0,.slice none 0 0,.slice none 0 0] 27∧w9.cell? ⟨w.heap.size,1,none⟩=some (.int .i64 it)∧w9.cell? ⟨w.heap.size,2,none⟩=some (.slice (some ⟨b2,o2,none⟩) n2 c2)∧w9.cell? ⟨w.heap.size,3,none⟩=some (.slice (some ⟨b3,o3,none⟩) n3 c3)∧w9.cell? ⟨w.heap.size,4,none⟩=some (.slice (some ⟨b4,o4,none⟩) n4 c4):=by
    have ha:=hSS.2.1.below hb
    have hr:=hSS.2.2.1.below hb
    exact ⟨hSS.1.trans (hb.mono hSS.1.size),ha,hr,ha.cell rfl,ha.cell rfl,ha.cell rfl,ha.cell rfl⟩
   refine hK.out (2,true,m3,m4,sv) _ _ (by simp only [oW];first|omega|(simp;omega)|(simp;done)) rfl ⟨by simp,(fun _=>rfl),fun h=>absurd h (by simp),fun h=>absurd h (by simp),fun h=>absurd h (by simp),pM,u5,u13,_,_,_,u21,_,u25,u26,rfl,(fun _=>F13.out (by simp)),(fun _=>⟨_,rfl⟩),F18.out,F22.out,(fun _=>⟨_,_,rfl,⟨hr,fun b hb2 q hq h0=>by cases sv with|false=>(have:=F5n.out rfl;rw [this] at hb2;cases hb2)|true=>(obtain ⟨b5,e5,_,hv5⟩:=F5.out rfl;rw [e5] at hb2;cases hb2;have:=hloc q hq h0;have:=hv5.lt;omega)⟩,fun q hq h0=>by have:=hloc q hq h0;have:=hSS.2.2.1.lt;omega⟩),fun h=>absurd h (by simp),fun h=>absurd h (by simp),fun h=>absurd h (by simp),F5n.out,fun h=>by obtain ⟨b,e,hle,hv⟩:=F5.out h;exact ⟨b,e,hle,hv.below hb⟩⟩
  ·obtain ⟨hp6,hv2,hv3,hv4,hv6,hSS,u5,u13,u14,u17,u18,u21,u22,u25,u26,rfl,F13,F14,F18,F22,F17,F21,F25,F26,F5n,F5⟩:=hJ
   obtain ⟨rfl,rfl⟩:p=2∧m3=true:=hp
   obtain ⟨g,hgu⟩:=F18.out rfl
   subst hgu
   refine ⟨_,rfl,fun K hK=>?_⟩
   refine yj rfl (.tmp 18) (.tmp 20) rfl i0 Tryz.underlying24 hi hz0 hz1 hz2 g rfl b3 o3 n3 c3 outs rfl (R3.out.below hSS.1) f3 ?_
   intro a9 c9 w9 hr hb hloc
   have pM:Below w.heap.size w w9∧ae w9 w.heap.size #[.int .i64 st,.int .i64 it,.slice (some ⟨b2,o2,none⟩) n2 c2,.slice (some ⟨b3,o3,none⟩) n3 c3,.slice (some ⟨b4,o4,none⟩) n4 c4,.slice a5 n5 c5] 27∧ae w9 (w.heap.size+1) #[.int .i64 0,.int .i64 0,.slice none 0 0,.slice none 0 0,.slice none 0 0,.slice none 0 0] 27∧w9.cell? ⟨w.heap.size,1,none⟩=some (.int .i64 it)∧w9.cell? ⟨w.heap.size,2,none⟩=some (.slice (some ⟨b2,o2,none⟩) n2 c2)∧w9.cell? ⟨w.heap.size,3,none⟩=some (.slice (some ⟨b3,o3,none⟩) n3 c3)∧w9.cell? ⟨w.heap.size,4,none⟩=some (.slice (some ⟨b4,o4,none⟩) n4 c4):=by
    have ha:=hSS.2.1.below hb
    have hr:=hSS.2.2.1.below hb
    exact ⟨hSS.1.trans (hb.mono hSS.1.size),ha,hr,ha.cell rfl,ha.cell rfl,ha.cell rfl,ha.cell rfl⟩
   refine hK.out (3,m2,true,m4,sv) _ _ (by simp only [oW];first|omega|(simp;omega)|(simp;done)) rfl ⟨by simp,(fun _=>hv2 (by simp)),(fun _=>rfl),fun h=>absurd h (by simp),fun h=>absurd h (by simp),pM,u5,u13,_,u17,_,_,_,u25,u26,rfl,(fun _=>F13.out (by simp)),F14.out,(fun _=>⟨_,rfl⟩),F22.out,fun _=>by obtain ⟨ad,c,e,r,rz⟩:=F17.out (by simp);exact ⟨ad,c,e,r.below hb,rz⟩,(fun _=>⟨_,_,rfl,⟨hr,fun b hb2 q hq h0=>by cases sv with|false=>(have:=F5n.out rfl;rw [this] at hb2;cases hb2)|true=>(obtain ⟨b5,e5,_,hv5⟩:=F5.out rfl;rw [e5] at hb2;cases hb2;have:=hloc q hq h0;have:=hv5.lt;omega)⟩,fun q hq h0=>by have:=hloc q hq h0;have:=hSS.2.2.1.lt;omega⟩),fun h=>absurd h (by simp),fun h=>absurd h (by simp),F5n.out,fun h=>by obtain ⟨b,e,hle,hv⟩:=F5.out h;exact ⟨b,e,hle,hv.below hb⟩⟩
  ·obtain ⟨hp6,hv2,hv3,hv4,hv6,hSS,u5,u13,u14,u17,u18,u21,u22,u25,u26,rfl,F13,F14,F18,F22,F17,F21,F25,F26,F5n,F5⟩:=hJ
   obtain ⟨rfl,rfl⟩:p=3∧m4=true:=hp
   obtain ⟨g,hgu⟩:=F22.out rfl
   subst hgu
   refine ⟨_,rfl,fun K hK=>?_⟩
   refine yj rfl (.tmp 22) (.tmp 24) rfl i0 Tryz.underlying24 hi hz0 hz1 hz2 g rfl b4 o4 n4 c4 ah rfl (R4.out.below hSS.1) f4 ?_
   intro a9 c9 w9 hr hb hloc
   have pM:Below w.heap.size w w9∧ae w9 w.heap.size #[.int .i64 st,.int .i64 it,.slice (some ⟨b2,o2,none⟩) n2 c2,.slice (some ⟨b3,o3,none⟩) n3 c3,.slice (some ⟨b4,o4,none⟩) n4 c4,.slice a5 n5 c5] 27∧ae w9 (w.heap.size+1) #[.int .i64 0,.int .i64 0,.slice none 0 0,.slice none 0 0,.slice none 0 0,.slice none 0 0] 27∧w9.cell? ⟨w.heap.size,1,none⟩=some (.int .i64 it)∧w9.cell? ⟨w.heap.size,2,none⟩=some (.slice (some ⟨b2,o2,none⟩) n2 c2)∧w9.cell? ⟨w.heap.size,3,none⟩=some (.slice (some ⟨b3,o3,none⟩) n3 c3)∧w9.cell? ⟨w.heap.size,4,none⟩=some (.slice (some ⟨b4,o4,none⟩) n4 c4):=by
    have ha:=hSS.2.1.below hb
    have hr:=hSS.2.2.1.below hb
    exact ⟨hSS.1.trans (hb.mono hSS.1.size),ha,hr,ha.cell rfl,ha.cell rfl,ha.cell rfl,ha.cell rfl⟩
   refine hK.out (4,m2,m3,true,sv) _ _ (by simp only [oW];first|omega|(simp;omega)|(simp;done)) rfl ⟨by simp,(fun _=>hv2 (by simp)),(fun _=>hv3 (by simp)),(fun _=>rfl),fun h=>absurd h (by simp),pM,u5,u13,_,u17,_,u21,_,_,u26,rfl,(fun _=>F13.out (by simp)),F14.out,F18.out,(fun _=>⟨_,rfl⟩),fun _=>by obtain ⟨ad,c,e,r,rz⟩:=F17.out (by simp);exact ⟨ad,c,e,r.below hb,rz⟩,fun _=>by obtain ⟨ad,c,e,r,rz⟩:=F21.out (by simp);exact ⟨ad,c,e,r.below hb,rz⟩,(fun _=>⟨_,_,rfl,⟨hr,fun b hb2 q hq h0=>by cases sv with|false=>(have:=F5n.out rfl;rw [this] at hb2;cases hb2)|true=>(obtain ⟨b5,e5,_,hv5⟩:=F5.out rfl;rw [e5] at hb2;cases hb2;have:=hloc q hq h0;have:=hv5.lt;omega)⟩,fun q hq h0=>by have:=hloc q hq h0;have:=hSS.2.2.1.lt;omega⟩),fun h=>absurd h (by simp),F5n.out,fun h=>by obtain ⟨b,e,hle,hv⟩:=F5.out h;exact ⟨b,e,hle,hv.below hb⟩⟩
  ·obtain ⟨hp6,hv2,hv3,hv4,hv6,hSS,u5,u13,u14,u17,u18,u21,u22,u25,u26,rfl,F13,F14,F18,F22,F17,F21,F25,F26,F5n,F5⟩:=hJ
   obtain rfl:p=4:=hp
   have e13:=F13.out (by simp)
   subst e13
   obtain ⟨ad2,cc2,e17,r17⟩:=F17.out (by simp)
   obtain ⟨ad3,cc3,e21,r21⟩:=F21.out (by simp)
   obtain ⟨ad4,cc4,e25,r25⟩:=F25.out (by simp)
   subst e17 e21 e25
   refine ⟨_,rfl,fun K hK=>?_⟩
   go_simp
   refine hK.out (5,m2,m3,m4,sv) _ _ (by simp only [oW];first|omega|(simp;omega)|(simp;done)) rfl ⟨by simp,(fun _=>hv2 (by simp)),(fun _=>hv3 (by simp)),(fun _=>hv4 (by simp)),fun h=>absurd h (by simp),hSS,u5,_,u14,_,u18,_,u22,_,_,rfl,(fun _=>rfl),F14.out,F18.out,F22.out,(fun _=>⟨_,_,rfl,r17⟩),(fun _=>⟨_,_,rfl,r21⟩),(fun _=>⟨_,_,rfl,r25⟩),(fun _=>rfl),F5n.out,F5.out⟩
  ·obtain ⟨hp6,hv2,hv3,hv4,hv6,hSS,u5,u13,u14,u17,u18,u21,u22,u25,u26,rfl,F13,F14,F18,F22,F17,F21,F25,F26,F5n,F5⟩:=hJ
   obtain ⟨rfl,rfl⟩:p=5∧sv=true:=hp
   obtain ⟨b,hbu,hle,hv0⟩:=F5.out rfl
   subst hbu
   have hv:ae w2 b #[.int .i64 0,.int .i64 0,.slice none 0 0,.slice none 0 0,.slice none 0 0,.slice none 0 0] 27:=by simpa using hv0
   have e26:=F26.out (by simp)
   subst e26
   obtain ⟨ad2,cc2,e17,r17⟩:=F17.out (by simp)
   obtain ⟨ad3,cc3,e21,r21⟩:=F21.out (by simp)
   obtain ⟨ad4,cc4,e25,r25⟩:=F25.out (by simp)
   subst e17 e21 e25
   have HGS:=aA b [.int .i64 (kn:Int),.int .i64 pl,.slice ad2 n2 cc2,.slice ad3 n3 cc3,.slice ad4 n4 cc4,.slice none 0 0] 0 w2
   have pM:Below w.heap.size w (w2.setCells b 0 [.int .i64 (kn:Int),.int .i64 pl,.slice ad2 n2 cc2,.slice ad3 n3 cc3,.slice ad4 n4 cc4,.slice none 0 0])∧ae (w2.setCells b 0 [.int .i64 (kn:Int),.int .i64 pl,.slice ad2 n2 cc2,.slice ad3 n3 cc3,.slice ad4 n4 cc4,.slice none 0 0]) w.heap.size #[.int .i64 st,.int .i64 it,.slice (some ⟨b2,o2,none⟩) n2 c2,.slice (some ⟨b3,o3,none⟩) n3 c3,.slice (some ⟨b4,o4,none⟩) n4 c4,.slice a5 n5 c5] 27∧ae (w2.setCells b 0 [.int .i64 (kn:Int),.int .i64 pl,.slice ad2 n2 cc2,.slice ad3 n3 cc3,.slice ad4 n4 cc4,.slice none 0 0]) (w.heap.size+1) #[.int .i64 0,.int .i64 0,.slice none 0 0,.slice none 0 0,.slice none 0 0,.slice none 0 0] 27∧(w2.setCells b 0 [.int .i64 (kn:Int),.int .i64 pl,.slice ad2 n2 cc2,.slice ad3 n3 cc3,.slice ad4 n4 cc4,.slice none 0 0]).cell? ⟨w.heap.size,1,none⟩=some (.int .i64 it)∧(w2.setCells b 0 [.int .i64 (kn:Int),.int .i64 pl,.slice ad2 n2 cc2,.slice ad3 n3 cc3,.slice ad4 n4 cc4,.slice none 0 0]).cell? ⟨w.heap.size,2,none⟩=some (.slice (some ⟨b2,o2,none⟩) n2 c2)∧(w2.setCells b 0 [.int .i64 (kn:Int),.int .i64 pl,.slice ad2 n2 cc2,.slice ad3 n3 cc3,.slice ad4 n4 cc4,.slice none 0 0]).cell? ⟨w.heap.size,3,none⟩=some (.slice (some ⟨b3,o3,none⟩) n3 c3)∧(w2.setCells b 0 [.int .i64 (kn:Int),.int .i64 pl,.slice ad2 n2 cc2,.slice ad3 n3 cc3,.slice ad4 n4 cc4,.slice none 0 0]).cell? ⟨w.heap.size,4,none⟩=some (.slice (some ⟨b4,o4,none⟩) n4 c4):=by
    have ha:=hSS.2.1.grown HGS (fun e=>by have:=Option.some.inj e;omega)
    have hr:=hSS.2.2.1.grown HGS (fun e=>by have:=Option.some.inj e;omega)
    exact ⟨hSS.1.grown HGS hSS.1.size (fun q hq=>by have:=Option.some.inj hq;omega),ha,hr,ha.cell rfl,ha.cell rfl,ha.cell rfl,ha.cell rfl⟩
   refine ⟨_,rfl,fun K hK=>?_⟩
   rw [if_pos (by rfl)]
   refine wp_store_mid _ _ _ rfl b 0 #[.int .i64 (kn:Int),.int .i64 pl,.slice ad2 n2 cc2,.slice ad3 n3 cc3,.slice ad4 n4 cc4,.slice none 0 0] rfl rfl (hv.there rfl) (by kernel_rfl) (di _ _ _ _ _ _ _ _ _ _ _ _ _ _) ?_
   refine hK.out (6,m2,m3,m4,true) _ _ (by simp only [oW];first|omega|(simp;omega)|(simp;done)) rfl ⟨by simp,(fun _=>hv2 (by simp)),(fun _=>hv3 (by simp)),(fun _=>hv4 (by simp)),(fun _=>rfl),pM,_,u13,u14,_,u18,_,u22,_,_,rfl,(fun _=>F13.out (by simp)),F14.out,F18.out,F22.out,(fun _=>⟨_,_,rfl,⟨⟨r17.1.1.1.grown HGS (r17.1.2 b rfl),r17.1.1.2⟩,r17.1.2⟩,r17.2⟩),(fun _=>⟨_,_,rfl,⟨⟨r21.1.1.1.grown HGS (r21.1.2 b rfl),r21.1.1.2⟩,r21.1.2⟩,r21.2⟩),(fun _=>⟨_,_,rfl,⟨⟨r25.1.1.1.grown HGS (r25.1.2 b rfl),r25.1.1.2⟩,r25.1.2⟩,r25.2⟩),(fun _=>rfl),(fun h=>by cases h),(fun _=>⟨b,rfl,hle,by simpa using hv.sets _ _ _ _ _ _⟩)⟩
 case hend =>
  rintro ⟨p,m2,m3,m4,sv⟩ a' w2 hJ hF
  obtain ⟨hp6,hv2,hv3,hv4,hv6,hSS,u5,u13,u14,u17,u18,u21,u22,u25,u26,rfl,F13,F14,F18,F22,F17,F21,F25,F26,F5n,F5⟩:=hJ
  simp only [oW] at hF
  simp only at hp6 hv2 hv3 hv4 hv6
  obtain rfl:p=6:=by omega
  obtain rfl:=hv2 (by omega)
  obtain rfl:=hv3 (by omega)
  obtain rfl:=hv4 (by omega)
  obtain rfl:=hv6 (by omega)
  refine ⟨by kernel_rfl,?_⟩
  obtain ⟨b,hbu,hle,hvb⟩:=F5.out rfl
  obtain ⟨ad2,cc2,e17,r17⟩:=F17.out (by simp)
  obtain ⟨ad3,cc3,e21,r21⟩:=F21.out (by simp)
  obtain ⟨ad4,cc4,e25,r25⟩:=F25.out (by simp)
  subst hbu e17 e21 e25
  have HVO0:Hid (ae w2 b #[.int .i64 (kn:Int),.int .i64 pl,.slice ad2 n2 cc2,.slice ad3 n3 cc3,.slice ad4 n4 cc4,.slice none 0 0] 27):=by simpa [Hid] using hvb
  have HB2:=Lib.hid hSS.1
  have HVA2:=Lib.hid hSS.2.1
  have HVR2:=Lib.hid hSS.2.2.1
  have R17:=Lib.hid r17
  have R21:=Lib.hid r21
  have R25:=Lib.hid r25
  have hbl:=HVO0.out.lt
  have HW2:Hid (w.heap.size+2≤b∧b<w2.heap.size∧w.heap.size<w2.heap.size):=⟨hle,hbl,by omega⟩
  clear F13 F14 F18 F22 F17 F21 F25 F26 F5n F5 hF hp6 hv2 hv3 hv4 hv6 hSS hvb r17 r21 r25 S0 V0 VR0 B0
  go_wp2_with fail
  go_loopw [6] (fun i wr=>∃ (k len:Nat) (x5:Value) (T:List St),k≤n5∧i=.int .i64 k∧Hid (ae wr b #[.int .i64 (kn:Int),.int .i64 pl,.slice ad2 n2 cc2,.slice ad3 n3 cc3,.slice ad4 n4 cc4,x5] 27)∧Hid (OwnsS 77 wr w2.heap.size x5 len T)∧Hid (T=jZ keep (steps.take k))∧len≤k∧Hid (Below w.heap.size w wr)∧Hid (ae wr w.heap.size #[.int .i64 st,.int .i64 it,.slice (some ⟨b2,o2,none⟩) n2 c2,.slice (some ⟨b3,o3,none⟩) n3 c3,.slice (some ⟨b4,o4,none⟩) n4 c4,.slice a5 n5 c5] 27)∧Hid (ae wr (w.heap.size+1) #[.int .i64 0,.int .i64 0,.slice none 0 0,.slice none 0 0,.slice none 0 0,.slice none 0 0] 27)∧Hid (Row wr ad2 n2 ins∧Row wr ad3 n3 outs∧Row wr ad4 n4 ah)∧w2.heap.size≤wr.heap.size) (fun i _=>n5 - (intOf i).toNat)
  case atStart=>exact ⟨0,0,_,[],Nat.zero_le _,rfl,HVO0.out,World.ownsRow_nil _ _ _ _,rfl,Nat.le_refl _,HB2.out,HVA2.out,HVR2.out,⟨R17.out.1.1.1,R21.out.1.1.1,R25.out.1.1.1⟩,Nat.le_refl _⟩
  case round =>
   obtain ⟨k,len,x5,T,hk,rfl,HVO,HOS,HT,hlen,HB,HVA,HVR,HRW,hw2r⟩:=hrel
   clear HVO0 HB2 HVA2 HVR2
   have kb:=HVA.out.cell (j:=5) rfl
   by_cases hlt:k<n5
   ·obtain ⟨bs,off,rfl,hb,hcell⟩:=R5.out.2 (by omega)
    have hkx:k<steps.length:=by rw [R5.out.1];exact hlt
    obtain ⟨⟨x,y,z⟩,hs⟩:∃ t,t=steps[k]:=⟨_,rfl⟩
    obtain ⟨d0,d1,d2⟩:=hcell k steps[k] (List.getElem?_eq_getElem hkx)
    rw [← hs] at d0 d1 d2
    obtain ⟨px,hpx⟩:∃ p,p=placeOf keep x:=⟨_,rfl⟩
    obtain ⟨pz,hpz⟩:∃ p,p=placeOf keep z:=⟨_,rfl⟩
    have CX:Hid (∀ W,Below w.heap.size w W→Calls Tryz.prog 58 #[.slice ka kn kc,.int .i64 x] W fun e w'=>e=.returned (.int .i64 px)∧w'=W):=fun W hW=>by rw [hpx];exact CAT.out W x hW
    have CZ:Hid (∀ W,Below w.heap.size w W→Calls Tryz.prog 58 #[.slice ka kn kc,.int .i64 z] W fun e w'=>e=.returned (.int .i64 pz)∧w'=W):=fun W hW=>by rw [hpz];exact CAT.out W z hW
    have HST:Hid (jZ keep (steps.take (k+1))=T++if decide (0≤px)&&decide (0≤pz) then [(px,y,pz)] else []):=by
     unfold Hid
     rw [GR keep steps k hkx,← hs,HT.out,hpx,hpz]
    have mk:∀ W,Below wr.heap.size wr W→Below w.heap.size w W∧W.cell? ⟨w.heap.size,5,none⟩=some (.slice (some ⟨bs,off,none⟩) n5 c5)∧W.cell? ⟨bs,off+k*3,none⟩=some (.int .i64 x)∧W.cell? ⟨bs,off+k*3+1,none⟩=some (.int .i64 y)∧W.cell? ⟨bs,off+k*3+2,none⟩=some (.int .i64 z):=fun W hW=>by
     have hB2:=HB.out.trans (hW.mono HB.out.size)
     exact ⟨hB2,(HVA.out.below hW).cell rfl,(hB2.cell (p:=⟨bs,off+k*3,none⟩) hb).trans d0,(hB2.cell (p:=⟨bs,off+k*3+1,none⟩) hb).trans d1,(hB2.cell (p:=⟨bs,off+k*3+2,none⟩) hb).trans d2⟩
    have SA:=mk wr.drew (Below.refl _ _).drew
    have SZ:=mk (wr.alloc (.cells #[.int .i64 0,.int .i64 0,.int .i64 0] 77)).drew ((Below.refl _ _).alloc (Nat.le_refl _) _).drew
    have SY:=mk (wr.alloc (.cells #[.int .i64 px,.int .i64 y,.int .i64 pz] 77)).drew ((Below.refl _ _).alloc (Nat.le_refl _) _).drew
    clear d0 d1 d2 hs hcell hpx hpz mk
    go_wp2_with fail
    refine wp_region_held_drew (S:=fun w'=>Below w.heap.size w w'∧w'.cell? ⟨w.heap.size,5,none⟩=some (.slice (some ⟨bs,off,none⟩) n5 c5)∧w'.cell? ⟨bs,off+k*3,none⟩=some (.int .i64 x)∧w'.cell? ⟨bs,off+k*3+1,none⟩=some (.int .i64 y)∧w'.cell? ⟨bs,off+k*3+2,none⟩=some (.int .i64 z)) (by kernel_rfl) SA (fun hHeld=>?_)
    change wpAnyH _ _ _ _ _ 25 (Array.replicate 25 false) _ _
    refine ag 0 34 (.slice ka kn kc) (fuel:=24) rfl rfl (by kernel_rfl) (fun _ _ _ h=>h) (by rfl) (fun w hSw=>by go_simp) hHeld ?_
    simp only [Act.put,sI0,sI1,sI2]
    refine ag 1 35 (.pointer (some ⟨w.heap.size,5,none⟩)) (fuel:=23) rfl rfl (by kernel_rfl) (fun _ _ _ h=>h) (by rfl) (fun w hSw=>by go_simp) hHeld ?_
    simp only [Act.put,sI0,sI1,sI2]
    refine ag 2 36 (.slice (some ⟨bs,off,none⟩) n5 c5) (fuel:=22) rfl rfl (by kernel_rfl) (fun _ _ _ h=>h) (by rfl) (fun w hSw=>by go_simp) hHeld ?_
    simp only [Act.put,sI0,sI1,sI2]
    refine ag 3 37 (.int .i64 k) (fuel:=21) rfl rfl (by kernel_rfl) (fun _ _ _ h=>h) (by rfl) (fun w hSw=>by go_simp) hHeld ?_
    simp only [Act.put,sI0,sI1,sI2]
    refine ag 4 38 (.pointer (some ⟨bs,off+k*3,none⟩)) (fuel:=20) rfl rfl (by kernel_rfl) (fun _ _ _ h=>h) (by rfl) (fun w hSw=>by go_simp) hHeld ?_
    simp only [Act.put,sI0,sI1,sI2]
    refine ag 5 39 (.pointer (some ⟨bs,off+k*3,none⟩)) (fuel:=19) rfl rfl (by kernel_rfl) (fun _ _ _ h=>h) (by rfl) (fun w hSw=>by go_simp) hHeld ?_
    simp only [Act.put,sI0,sI1,sI2]
    refine ag 6 40 (.int .i64 x) (fuel:=18) rfl rfl (by kernel_rfl) (fun _ _ _ h=>h) (by rfl) (fun w hSw=>by go_simp) hHeld ?_
    simp only [Act.put,sI0,sI1,sI2]
    refine ag 8 42 (.pointer (some ⟨w.heap.size,5,none⟩)) (fuel:=17) rfl rfl (by kernel_rfl) (fun _ _ _ h=>h) (by rfl) (fun w hSw=>by go_simp) hHeld ?_
    simp only [Act.put,sI0,sI1,sI2]
    refine ag 9 43 (.slice (some ⟨bs,off,none⟩) n5 c5) (fuel:=16) rfl rfl (by kernel_rfl) (fun _ _ _ h=>h) (by rfl) (fun w hSw=>by go_simp) hHeld ?_
    simp only [Act.put,sI0,sI1,sI2]
    refine ag 10 44 (.int .i64 k) (fuel:=15) rfl rfl (by kernel_rfl) (fun _ _ _ h=>h) (by rfl) (fun w hSw=>by go_simp) hHeld ?_
    simp only [Act.put,sI0,sI1,sI2]
    refine ag 11 45 (.pointer (some ⟨bs,off+k*3,none⟩)) (fuel:=14) rfl rfl (by kernel_rfl) (fun _ _ _ h=>h) (by rfl) (fun w hSw=>by go_simp) hHeld ?_
    simp only [Act.put,sI0,sI1,sI2]
    refine ag 12 46 (.pointer (some ⟨bs,off+k*3+1,none⟩)) (fuel:=13) rfl rfl (by kernel_rfl) (fun _ _ _ h=>h) (by rfl) (fun w hSw=>by go_simp) hHeld ?_
    simp only [Act.put,sI0,sI1,sI2]
    refine ag 13 47 (.int .i64 y) (fuel:=12) rfl rfl (by kernel_rfl) (fun _ _ _ h=>h) (by rfl) (fun w hSw=>by go_simp) hHeld ?_
    simp only [Act.put,sI0,sI1,sI2]
    refine ag 14 48 (.slice ka kn kc) (fuel:=11) rfl rfl (by kernel_rfl) (fun _ _ _ h=>h) (by rfl) (fun w hSw=>by go_simp) hHeld ?_
    simp only [Act.put,sI0,sI1,sI2]
    refine ag 15 49 (.pointer (some ⟨w.heap.size,5,none⟩)) (fuel:=10) rfl rfl (by kernel_rfl) (fun _ _ _ h=>h) (by rfl) (fun w hSw=>by go_simp) hHeld ?_
    simp only [Act.put,sI0,sI1,sI2]
    refine ag 16 50 (.slice (some ⟨bs,off,none⟩) n5 c5) (fuel:=9) rfl rfl (by kernel_rfl) (fun _ _ _ h=>h) (by rfl) (fun w hSw=>by go_simp) hHeld ?_
    simp only [Act.put,sI0,sI1,sI2]
    refine ag 17 51 (.int .i64 k) (fuel:=8) rfl rfl (by kernel_rfl) (fun _ _ _ h=>h) (by rfl) (fun w hSw=>by go_simp) hHeld ?_
    simp only [Act.put,sI0,sI1,sI2]
    refine ag 18 52 (.pointer (some ⟨bs,off+k*3,none⟩)) (fuel:=7) rfl rfl (by kernel_rfl) (fun _ _ _ h=>h) (by rfl) (fun w hSw=>by go_simp) hHeld ?_
    simp only [Act.put,sI0,sI1,sI2]
    refine ag 19 53 (.pointer (some ⟨bs,off+k*3+2,none⟩)) (fuel:=6) rfl rfl (by kernel_rfl) (fun _ _ _ h=>h) (by rfl) (fun w hSw=>by go_simp) hHeld ?_
    simp only [Act.put,sI0,sI1,sI2]
    refine ag 20 54 (.int .i64 z) (fuel:=5) rfl rfl (by kernel_rfl) (fun _ _ _ h=>h) (by rfl) (fun w hSw=>by go_simp) hHeld ?_
    simp only [Act.put,sI0,sI1,sI2]
    refine wpAnyH_ready (rs:=[7,23]) (fuel:=4) (by kernel_rfl) (by simp) ?_
    refine AllReadyH.cons rfl (fun K hK=>?_) ?_
    ·go_simp
     refine (CX.out _ SA.1).mono ?_
     rintro e w3 ⟨rfl,hw3⟩
     obtain rfl:=hw3.symm
     go_wp2_with fail
     refine hK.out _ _ SA (fun hHeld=>?_)
     clear hK K
     refine wpAnyH_ready (rs:=[21,23]) (fuel:=3) (by kernel_rfl) (by simp) ?_
     refine AllReadyH.cons rfl (fun K hK=>?_) ?_
     ·go_simp
      refine (CZ.out _ SA.1).mono ?_
      rintro e w3 ⟨rfl,hw3⟩
      obtain rfl:=hw3.symm
      go_wp2_with fail
      refine hK.out _ _ SA (fun hHeld=>?_)
      clear hK K
      refine ag 22 56 (.agg #[.int .i64 px,.int .i64 y,.int .i64 pz]) (fuel:=2) rfl rfl (by kernel_rfl) (fun _ _ _ h=>h) (by rfl) (fun w hSw=>by go_simp) hHeld ?_
      simp only [Act.put,sI0,sI1,sI2]
      refine wpAnyH_ready (rs:=[23]) (fuel:=1) (by kernel_rfl) (by simp) ?_
      refine AllReadyH.cons rfl (fun K hK=>?_) AllReadyH.nil
      go_simp
      refine hK.out _ _ SZ (fun hHeld=>?_)
      clear hK K
      refine wpAnyH_ready (rs:=[24]) (fuel:=0) (by kernel_rfl) (by simp) ?_
      refine AllReadyH.cons rfl (fun K hK=>?_) AllReadyH.nil
      go_simp
      refine hK.out _ _ SY (fun hHeld=>?_)
      clear hK K
      refine wpAnyH_done (by kernel_rfl) ?_ _
      clear hHeld SA SZ SY
      have xv:=ae.new wr #[.int .i64 px,.int .i64 y,.int .i64 pz] 77 rfl
      have q0:=xv.drew.cell (j:=0) rfl
      have q1:=xv.drew.cell (j:=1) rfl
      have q2:=xv.drew.cell (j:=2) rfl
      clear xv
      have bwy:Below wr.heap.size wr (wr.alloc (.cells #[.int .i64 px,.int .i64 y,.int .i64 pz] 77)).drew:=((Below.refl _ _).alloc (Nat.le_refl _) _).drew
      have BY:=Lib.hid (HB.out.trans (bwy.mono HB.out.size))
      have VOY:=Lib.hid (HVO.out.below bwy)
      have OSY:=Lib.hid (HOS.out.below bwy)
      have VAY:=Lib.hid (HVA.out.below bwy)
      have VRY:=Lib.hid (HVR.out.below bwy)
      have RWY:Hid (Row (wr.alloc (.cells #[.int .i64 px,.int .i64 y,.int .i64 pz] 77)).drew ad2 n2 ins∧Row (wr.alloc (.cells #[.int .i64 px,.int .i64 y,.int .i64 pz] 77)).drew ad3 n3 outs∧Row (wr.alloc (.cells #[.int .i64 px,.int .i64 y,.int .i64 pz] 77)).drew ad4 n4 ah):=⟨HRW.out.1.below bwy,HRW.out.2.1.below bwy,HRW.out.2.2.below bwy⟩
      clear bwy
      by_cases hx0:0≤px
      ·have hdx:decide ((0:Int)≤px)=true:=by simp [hx0]
       by_cases hz0':0≤pz
       ·have hdz:decide ((0:Int)≤pz)=true:=by simp [hz0']
        have HT2:Hid (T++[(px,y,pz)]=jZ keep (steps.take (k+1))):=by
         have:=HST.out
         rw [hdx,hdz] at this
         unfold Hid
         simpa using this.symm
        clear hx0 hz0'
        have AL:=VOY.out.cell (j:=5) rfl
        have hwl:=VAY.out.lt
        have hw2:=HW2.out
        have bw2:Below wr.heap.size wr (((wr.alloc (.cells #[.int .i64 px,.int .i64 y,.int .i64 pz] 77)).alloc (.cells #[.int .i64 px,.int .i64 y,.int .i64 pz] 77)).drew):=(((Below.refl _ _).alloc (Nat.le_refl _) _).alloc (by simp) _).drew
        have B2:=Lib.hid (HB.out.trans (bw2.mono HB.out.size))
        have VO2:=Lib.hid (HVO.out.below bw2)
        have VA2:=Lib.hid (HVA.out.below bw2)
        have VR2:=Lib.hid (HVR.out.below bw2)
        have RW2:Hid (Row (((wr.alloc (.cells #[.int .i64 px,.int .i64 y,.int .i64 pz] 77)).alloc (.cells #[.int .i64 px,.int .i64 y,.int .i64 pz] 77)).drew) ad2 n2 ins∧Row (((wr.alloc (.cells #[.int .i64 px,.int .i64 y,.int .i64 pz] 77)).alloc (.cells #[.int .i64 px,.int .i64 y,.int .i64 pz] 77)).drew) ad3 n3 outs∧Row (((wr.alloc (.cells #[.int .i64 px,.int .i64 y,.int .i64 pz] 77)).alloc (.cells #[.int .i64 px,.int .i64 y,.int .i64 pz] 77)).drew) ad4 n4 ah):=⟨HRW.out.1.below bw2,HRW.out.2.1.below bw2,HRW.out.2.2.below bw2⟩
        have T1:=HOS.out.below bw2
        have olt:=HOS.out.lt
        have S1:fH (((wr.alloc (.cells #[.int .i64 px,.int .i64 y,.int .i64 pz] 77)).alloc (.cells #[.int .i64 px,.int .i64 y,.int .i64 pz] 77)).drew) (some ⟨wr.heap.size+1,0,none⟩) 1 1 [(px,y,pz)]:=qV rfl (fun j s hs=>by
         have hv:ae (((wr.alloc (.cells #[.int .i64 px,.int .i64 y,.int .i64 pz] 77)).alloc (.cells #[.int .i64 px,.int .i64 y,.int .i64 pz] 77)).drew) (wr.heap.size+1) #[.int .i64 px,.int .i64 y,.int .i64 pz] 77:=(ae.new (wr.alloc (.cells #[.int .i64 px,.int .i64 y,.int .i64 pz] 77)) #[.int .i64 px,.int .i64 y,.int .i64 pz] 77 (by simp)).drew
         match j,hs with
         | 0,hs=>simp at hs;subst hs;exact ⟨hv.cell rfl,hv.cell rfl,hv.cell rfl⟩
         | j+1,hs=>simp at hs)
        clear bw2
        go_wp2_with (at_builtin;refine bI rfl (.tmp 66) (.tmp 68) 25 77 rfl w2.heap.size j0 Tryz.underlying25 hj hj0 hj1 hj2 x5 len T rfl T1 (some ⟨wr.heap.size+1,0,none⟩) 1 1 [(px,y,pz)] rfl S1 (by omega) (by simp;omega) ?_)
        rintro v4 w4 ⟨hown4,hgrow4,uP⟩
        obtain ⟨av4,cv4,rfl⟩:=hown4.form
        have VB4:=Lib.hid (VO2.out.grown hgrow4 (fun e=>by have:=(olt _ e.symm).1;omega))
        have VA4:=Lib.hid (VA2.out.grown hgrow4 (fun e=>by have:=(olt _ e.symm).1;omega))
        have VR4:=Lib.hid (VR2.out.grown hgrow4 (fun e=>by have:=(olt _ e.symm).1;omega))
        have B4:=Lib.hid (B2.out.grown hgrow4 B2.out.size (fun q hq=>by have:=(olt q hq).1;omega))
        have RW4:Hid (Row w4 ad2 n2 ins∧Row w4 ad3 n3 outs∧Row w4 ad4 n4 ah):=⟨RW2.out.1.dn hgrow4 (fun q hq h0 e=>by have:=(olt _ e.symm).1;have:=R17.out.1.1.1.lt q hq h0;omega),RW2.out.2.1.dn hgrow4 (fun q hq h0 e=>by have:=(olt _ e.symm).1;have:=R21.out.1.1.1.lt q hq h0;omega),RW2.out.2.2.dn hgrow4 (fun q hq h0 e=>by have:=(olt _ e.symm).1;have:=R25.out.1.1.1.lt q hq h0;omega)⟩
        have hg5:World.grownBy w4 (w4.setCell ⟨b,5,none⟩ (.slice av4 (len+1) cv4)) (some b):=⟨rfl,rfl,rfl,by simp,fun q _ hq=>heap_setCell_other w4 ⟨b,5,none⟩ q (.slice av4 (len+1) cv4) (fun e=>hq (by simp [e]))⟩
        have VB5:Hid (ae (w4.setCell ⟨b,5,none⟩ (.slice av4 (len+1) cv4)) b #[.int .i64 (kn:Int),.int .i64 pl,.slice ad2 n2 cc2,.slice ad3 n3 cc3,.slice ad4 n4 cc4,.slice av4 (len+1) cv4] 27):=VB4.out.set 5 (.slice av4 (len+1) cv4)
        have OS5:Hid (OwnsS 77 (w4.setCell ⟨b,5,none⟩ (.slice av4 (len+1) cv4)) w2.heap.size (.slice av4 (len+1) cv4) (len+1) (T++[(px,y,pz)])):=hown4.keep hg5 (fun q hq e=>by have:=(hown4.lt q hq).1;have:=Option.some.inj e;omega)
        have VA5:=Lib.hid (VA4.out.grown hg5 (fun e=>by have:=Option.some.inj e;omega))
        have VR5:=Lib.hid (VR4.out.grown hg5 (fun e=>by have:=Option.some.inj e;omega))
        have B5:=Lib.hid (B4.out.grown hg5 B4.out.size (fun q hq=>by have:=Option.some.inj hq;omega))
        have RW5:Hid (Row (w4.setCell ⟨b,5,none⟩ (.slice av4 (len+1) cv4)) ad2 n2 ins∧Row (w4.setCell ⟨b,5,none⟩ (.slice av4 (len+1) cv4)) ad3 n3 outs∧Row (w4.setCell ⟨b,5,none⟩ (.slice av4 (len+1) cv4)) ad4 n4 ah):=⟨RW4.out.1.grown hg5 (R17.out.1.2 b rfl),RW4.out.2.1.grown hg5 (R21.out.1.2 b rfl),RW4.out.2.2.grown hg5 (R25.out.1.2 b rfl)⟩
        have hs4:w2.heap.size≤w4.heap.size:=by
         have h1:=hgrow4.size
         have h2:(((wr.alloc (.cells #[.int .i64 px,.int .i64 y,.int .i64 pz] 77)).alloc (.cells #[.int .i64 px,.int .i64 y,.int .i64 pz] 77)).drew).heap.size=wr.heap.size+1+1:=by simp
         rw [h2] at h1
         omega
        have kc:=VB4.out.cell (j:=5) rfl
        have kf:=VB4.out.frozen 5
        clear hown4 hgrow4 uP hg5 T1 S1 AL
        go_wp2_with fail
        go_roundw
        case rel=>exact ⟨k+1,len+1,(.slice av4 (len+1) cv4),T++[(px,y,pz)],by omega,by go_num,VB5.out,OS5.out,HT2.out,by omega,B5.out,VA5.out,VR5.out,RW5.out,by simp;omega⟩
        case measure=>simp [intOf];omega
       ·have hdz:decide ((0:Int)≤pz)=false:=by simp;omega
        have HT2:Hid (T=jZ keep (steps.take (k+1))):=by
         have:=HST.out
         rw [hdz] at this
         unfold Hid
         simpa using this.symm
        clear hx0 hz0'
        go_wp2_with fail
        go_roundw
        case rel=>exact ⟨k+1,len,x5,T,by omega,by go_num,VOY.out,OSY.out,HT2.out,by omega,BY.out,VAY.out,VRY.out,RWY.out,by simp;omega⟩
        case measure=>simp [intOf];omega
      ·have hdx:decide ((0:Int)≤px)=false:=by simp;omega
       have HT2:Hid (T=jZ keep (steps.take (k+1))):=by
        have:=HST.out
        rw [hdx] at this
        unfold Hid
        simpa using this.symm
       clear hx0
       go_wp2_with fail
       go_roundw
       case rel=>exact ⟨k+1,len,x5,T,by omega,by go_num,VOY.out,OSY.out,HT2.out,by omega,BY.out,VAY.out,VRY.out,RWY.out,by simp;omega⟩
       case measure=>simp [intOf];omega
     ·refine AllReadyH.cons rfl (fun K hK=>?_) AllReadyH.nil
      go_simp
      refine hK.out _ _ SZ (fun hHeld=>?_)
      clear hK K
      refine wpAnyH_ready (rs:=[21]) (fuel:=2) (by kernel_rfl) (by simp) ?_
      refine AllReadyH.cons rfl (fun K hK=>?_) AllReadyH.nil
      go_simp
      refine (CZ.out _ SZ.1).mono ?_
      rintro e w3 ⟨rfl,hw3⟩
      obtain rfl:=hw3.symm
      go_wp2_with fail
      refine hK.out _ _ SZ (fun hHeld=>?_)
      clear hK K
      refine ag 22 56 (.agg #[.int .i64 px,.int .i64 y,.int .i64 pz]) (fuel:=1) rfl rfl (by kernel_rfl) (fun _ _ _ h=>h) (by rfl) (fun w hSw=>by go_simp) hHeld ?_
      simp only [Act.put,sI0,sI1,sI2]
      refine wpAnyH_ready (rs:=[24]) (fuel:=0) (by kernel_rfl) (by simp) ?_
      refine AllReadyH.cons rfl (fun K hK=>?_) AllReadyH.nil
      go_simp
      refine hK.out _ _ SY (fun hHeld=>?_)
      clear hK K
      refine wpAnyH_done (by kernel_rfl) ?_ _
      clear hHeld SA SZ SY
      have xv:=ae.new wr #[.int .i64 px,.int .i64 y,.int .i64 pz] 77 rfl
      have q0:=xv.drew.cell (j:=0) rfl
      have q1:=xv.drew.cell (j:=1) rfl
      have q2:=xv.drew.cell (j:=2) rfl
      clear xv
      have bwy:Below wr.heap.size wr (wr.alloc (.cells #[.int .i64 px,.int .i64 y,.int .i64 pz] 77)).drew:=((Below.refl _ _).alloc (Nat.le_refl _) _).drew
      have BY:=Lib.hid (HB.out.trans (bwy.mono HB.out.size))
      have VOY:=Lib.hid (HVO.out.below bwy)
      have OSY:=Lib.hid (HOS.out.below bwy)
      have VAY:=Lib.hid (HVA.out.below bwy)
      have VRY:=Lib.hid (HVR.out.below bwy)
      have RWY:Hid (Row (wr.alloc (.cells #[.int .i64 px,.int .i64 y,.int .i64 pz] 77)).drew ad2 n2 ins∧Row (wr.alloc (.cells #[.int .i64 px,.int .i64 y,.int .i64 pz] 77)).drew ad3 n3 outs∧Row (wr.alloc (.cells #[.int .i64 px,.int .i64 y,.int .i64 pz] 77)).drew ad4 n4 ah):=⟨HRW.out.1.below bwy,HRW.out.2.1.below bwy,HRW.out.2.2.below bwy⟩
      clear bwy
      by_cases hx0:0≤px
      ·have hdx:decide ((0:Int)≤px)=true:=by simp [hx0]
       by_cases hz0':0≤pz
       ·have hdz:decide ((0:Int)≤pz)=true:=by simp [hz0']
        have HT2:Hid (T++[(px,y,pz)]=jZ keep (steps.take (k+1))):=by
         have:=HST.out
         rw [hdx,hdz] at this
         unfold Hid
         simpa using this.symm
        clear hx0 hz0'
        have AL:=VOY.out.cell (j:=5) rfl
        have hwl:=VAY.out.lt
        have hw2:=HW2.out
        have bw2:Below wr.heap.size wr (((wr.alloc (.cells #[.int .i64 px,.int .i64 y,.int .i64 pz] 77)).alloc (.cells #[.int .i64 px,.int .i64 y,.int .i64 pz] 77)).drew):=(((Below.refl _ _).alloc (Nat.le_refl _) _).alloc (by simp) _).drew
        have B2:=Lib.hid (HB.out.trans (bw2.mono HB.out.size))
        have VO2:=Lib.hid (HVO.out.below bw2)
        have VA2:=Lib.hid (HVA.out.below bw2)
        have VR2:=Lib.hid (HVR.out.below bw2)
        have RW2:Hid (Row (((wr.alloc (.cells #[.int .i64 px,.int .i64 y,.int .i64 pz] 77)).alloc (.cells #[.int .i64 px,.int .i64 y,.int .i64 pz] 77)).drew) ad2 n2 ins∧Row (((wr.alloc (.cells #[.int .i64 px,.int .i64 y,.int .i64 pz] 77)).alloc (.cells #[.int .i64 px,.int .i64 y,.int .i64 pz] 77)).drew) ad3 n3 outs∧Row (((wr.alloc (.cells #[.int .i64 px,.int .i64 y,.int .i64 pz] 77)).alloc (.cells #[.int .i64 px,.int .i64 y,.int .i64 pz] 77)).drew) ad4 n4 ah):=⟨HRW.out.1.below bw2,HRW.out.2.1.below bw2,HRW.out.2.2.below bw2⟩
        have T1:=HOS.out.below bw2
        have olt:=HOS.out.lt
        have S1:fH (((wr.alloc (.cells #[.int .i64 px,.int .i64 y,.int .i64 pz] 77)).alloc (.cells #[.int .i64 px,.int .i64 y,.int .i64 pz] 77)).drew) (some ⟨wr.heap.size+1,0,none⟩) 1 1 [(px,y,pz)]:=qV rfl (fun j s hs=>by
         have hv:ae (((wr.alloc (.cells #[.int .i64 px,.int .i64 y,.int .i64 pz] 77)).alloc (.cells #[.int .i64 px,.int .i64 y,.int .i64 pz] 77)).drew) (wr.heap.size+1) #[.int .i64 px,.int .i64 y,.int .i64 pz] 77:=(ae.new (wr.alloc (.cells #[.int .i64 px,.int .i64 y,.int .i64 pz] 77)) #[.int .i64 px,.int .i64 y,.int .i64 pz] 77 (by simp)).drew
         match j,hs with
         | 0,hs=>simp at hs;subst hs;exact ⟨hv.cell rfl,hv.cell rfl,hv.cell rfl⟩
         | j+1,hs=>simp at hs)
        clear bw2
        go_wp2_with (at_builtin;refine bI rfl (.tmp 66) (.tmp 68) 25 77 rfl w2.heap.size j0 Tryz.underlying25 hj hj0 hj1 hj2 x5 len T rfl T1 (some ⟨wr.heap.size+1,0,none⟩) 1 1 [(px,y,pz)] rfl S1 (by omega) (by simp;omega) ?_)
        rintro v4 w4 ⟨hown4,hgrow4,uP⟩
        obtain ⟨av4,cv4,rfl⟩:=hown4.form
        have VB4:=Lib.hid (VO2.out.grown hgrow4 (fun e=>by have:=(olt _ e.symm).1;omega))
        have VA4:=Lib.hid (VA2.out.grown hgrow4 (fun e=>by have:=(olt _ e.symm).1;omega))
        have VR4:=Lib.hid (VR2.out.grown hgrow4 (fun e=>by have:=(olt _ e.symm).1;omega))
        have B4:=Lib.hid (B2.out.grown hgrow4 B2.out.size (fun q hq=>by have:=(olt q hq).1;omega))
        have RW4:Hid (Row w4 ad2 n2 ins∧Row w4 ad3 n3 outs∧Row w4 ad4 n4 ah):=⟨RW2.out.1.dn hgrow4 (fun q hq h0 e=>by have:=(olt _ e.symm).1;have:=R17.out.1.1.1.lt q hq h0;omega),RW2.out.2.1.dn hgrow4 (fun q hq h0 e=>by have:=(olt _ e.symm).1;have:=R21.out.1.1.1.lt q hq h0;omega),RW2.out.2.2.dn hgrow4 (fun q hq h0 e=>by have:=(olt _ e.symm).1;have:=R25.out.1.1.1.lt q hq h0;omega)⟩
        have hg5:World.grownBy w4 (w4.setCell ⟨b,5,none⟩ (.slice av4 (len+1) cv4)) (some b):=⟨rfl,rfl,rfl,by simp,fun q _ hq=>heap_setCell_other w4 ⟨b,5,none⟩ q (.slice av4 (len+1) cv4) (fun e=>hq (by simp [e]))⟩
        have VB5:Hid (ae (w4.setCell ⟨b,5,none⟩ (.slice av4 (len+1) cv4)) b #[.int .i64 (kn:Int),.int .i64 pl,.slice ad2 n2 cc2,.slice ad3 n3 cc3,.slice ad4 n4 cc4,.slice av4 (len+1) cv4] 27):=VB4.out.set 5 (.slice av4 (len+1) cv4)
        have OS5:Hid (OwnsS 77 (w4.setCell ⟨b,5,none⟩ (.slice av4 (len+1) cv4)) w2.heap.size (.slice av4 (len+1) cv4) (len+1) (T++[(px,y,pz)])):=hown4.keep hg5 (fun q hq e=>by have:=(hown4.lt q hq).1;have:=Option.some.inj e;omega)
        have VA5:=Lib.hid (VA4.out.grown hg5 (fun e=>by have:=Option.some.inj e;omega))
        have VR5:=Lib.hid (VR4.out.grown hg5 (fun e=>by have:=Option.some.inj e;omega))
        have B5:=Lib.hid (B4.out.grown hg5 B4.out.size (fun q hq=>by have:=Option.some.inj hq;omega))
        have RW5:Hid (Row (w4.setCell ⟨b,5,none⟩ (.slice av4 (len+1) cv4)) ad2 n2 ins∧Row (w4.setCell ⟨b,5,none⟩ (.slice av4 (len+1) cv4)) ad3 n3 outs∧Row (w4.setCell ⟨b,5,none⟩ (.slice av4 (len+1) cv4)) ad4 n4 ah):=⟨RW4.out.1.grown hg5 (R17.out.1.2 b rfl),RW4.out.2.1.grown hg5 (R21.out.1.2 b rfl),RW4.out.2.2.grown hg5 (R25.out.1.2 b rfl)⟩
        have hs4:w2.heap.size≤w4.heap.size:=by
         have h1:=hgrow4.size
         have h2:(((wr.alloc (.cells #[.int .i64 px,.int .i64 y,.int .i64 pz] 77)).alloc (.cells #[.int .i64 px,.int .i64 y,.int .i64 pz] 77)).drew).heap.size=wr.heap.size+1+1:=by simp
         rw [h2] at h1
         omega
        have kc:=VB4.out.cell (j:=5) rfl
        have kf:=VB4.out.frozen 5
        clear hown4 hgrow4 uP hg5 T1 S1 AL
        go_wp2_with fail
        go_roundw
        case rel=>exact ⟨k+1,len+1,(.slice av4 (len+1) cv4),T++[(px,y,pz)],by omega,by go_num,VB5.out,OS5.out,HT2.out,by omega,B5.out,VA5.out,VR5.out,RW5.out,by simp;omega⟩
        case measure=>simp [intOf];omega
       ·have hdz:decide ((0:Int)≤pz)=false:=by simp;omega
        have HT2:Hid (T=jZ keep (steps.take (k+1))):=by
         have:=HST.out
         rw [hdz] at this
         unfold Hid
         simpa using this.symm
        clear hx0 hz0'
        go_wp2_with fail
        go_roundw
        case rel=>exact ⟨k+1,len,x5,T,by omega,by go_num,VOY.out,OSY.out,HT2.out,by omega,BY.out,VAY.out,VRY.out,RWY.out,by simp;omega⟩
        case measure=>simp [intOf];omega
      ·have hdx:decide ((0:Int)≤px)=false:=by simp;omega
       have HT2:Hid (T=jZ keep (steps.take (k+1))):=by
        have:=HST.out
        rw [hdx] at this
        unfold Hid
        simpa using this.symm
       clear hx0
       go_wp2_with fail
       go_roundw
       case rel=>exact ⟨k+1,len,x5,T,by omega,by go_num,VOY.out,OSY.out,HT2.out,by omega,BY.out,VAY.out,VRY.out,RWY.out,by simp;omega⟩
       case measure=>simp [intOf];omega
    ·refine AllReadyH.cons rfl (fun K hK=>?_) AllReadyH.nil
     go_simp
     refine hK.out _ _ SZ (fun hHeld=>?_)
     clear hK K
     refine wpAnyH_ready (rs:=[7]) (fuel:=3) (by kernel_rfl) (by simp) ?_
     refine AllReadyH.cons rfl (fun K hK=>?_) AllReadyH.nil
     go_simp
     refine (CX.out _ SZ.1).mono ?_
     rintro e w3 ⟨rfl,hw3⟩
     obtain rfl:=hw3.symm
     go_wp2_with fail
     refine hK.out _ _ SZ (fun hHeld=>?_)
     clear hK K
     refine wpAnyH_ready (rs:=[21]) (fuel:=2) (by kernel_rfl) (by simp) ?_
     refine AllReadyH.cons rfl (fun K hK=>?_) AllReadyH.nil
     go_simp
     refine (CZ.out _ SZ.1).mono ?_
     rintro e w3 ⟨rfl,hw3⟩
     obtain rfl:=hw3.symm
     go_wp2_with fail
     refine hK.out _ _ SZ (fun hHeld=>?_)
     clear hK K
     refine ag 22 56 (.agg #[.int .i64 px,.int .i64 y,.int .i64 pz]) (fuel:=1) rfl rfl (by kernel_rfl) (fun _ _ _ h=>h) (by rfl) (fun w hSw=>by go_simp) hHeld ?_
     simp only [Act.put,sI0,sI1,sI2]
     refine wpAnyH_ready (rs:=[24]) (fuel:=0) (by kernel_rfl) (by simp) ?_
     refine AllReadyH.cons rfl (fun K hK=>?_) AllReadyH.nil
     go_simp
     refine hK.out _ _ SY (fun hHeld=>?_)
     clear hK K
     refine wpAnyH_done (by kernel_rfl) ?_ _
     clear hHeld SA SZ SY
     have xv:=ae.new wr #[.int .i64 px,.int .i64 y,.int .i64 pz] 77 rfl
     have q0:=xv.drew.cell (j:=0) rfl
     have q1:=xv.drew.cell (j:=1) rfl
     have q2:=xv.drew.cell (j:=2) rfl
     clear xv
     have bwy:Below wr.heap.size wr (wr.alloc (.cells #[.int .i64 px,.int .i64 y,.int .i64 pz] 77)).drew:=((Below.refl _ _).alloc (Nat.le_refl _) _).drew
     have BY:=Lib.hid (HB.out.trans (bwy.mono HB.out.size))
     have VOY:=Lib.hid (HVO.out.below bwy)
     have OSY:=Lib.hid (HOS.out.below bwy)
     have VAY:=Lib.hid (HVA.out.below bwy)
     have VRY:=Lib.hid (HVR.out.below bwy)
     have RWY:Hid (Row (wr.alloc (.cells #[.int .i64 px,.int .i64 y,.int .i64 pz] 77)).drew ad2 n2 ins∧Row (wr.alloc (.cells #[.int .i64 px,.int .i64 y,.int .i64 pz] 77)).drew ad3 n3 outs∧Row (wr.alloc (.cells #[.int .i64 px,.int .i64 y,.int .i64 pz] 77)).drew ad4 n4 ah):=⟨HRW.out.1.below bwy,HRW.out.2.1.below bwy,HRW.out.2.2.below bwy⟩
     clear bwy
     by_cases hx0:0≤px
     ·have hdx:decide ((0:Int)≤px)=true:=by simp [hx0]
      by_cases hz0':0≤pz
      ·have hdz:decide ((0:Int)≤pz)=true:=by simp [hz0']
       have HT2:Hid (T++[(px,y,pz)]=jZ keep (steps.take (k+1))):=by
        have:=HST.out
        rw [hdx,hdz] at this
        unfold Hid
        simpa using this.symm
       clear hx0 hz0'
       have AL:=VOY.out.cell (j:=5) rfl
       have hwl:=VAY.out.lt
       have hw2:=HW2.out
       have bw2:Below wr.heap.size wr (((wr.alloc (.cells #[.int .i64 px,.int .i64 y,.int .i64 pz] 77)).alloc (.cells #[.int .i64 px,.int .i64 y,.int .i64 pz] 77)).drew):=(((Below.refl _ _).alloc (Nat.le_refl _) _).alloc (by simp) _).drew
       have B2:=Lib.hid (HB.out.trans (bw2.mono HB.out.size))
       have VO2:=Lib.hid (HVO.out.below bw2)
       have VA2:=Lib.hid (HVA.out.below bw2)
       have VR2:=Lib.hid (HVR.out.below bw2)
       have RW2:Hid (Row (((wr.alloc (.cells #[.int .i64 px,.int .i64 y,.int .i64 pz] 77)).alloc (.cells #[.int .i64 px,.int .i64 y,.int .i64 pz] 77)).drew) ad2 n2 ins∧Row (((wr.alloc (.cells #[.int .i64 px,.int .i64 y,.int .i64 pz] 77)).alloc (.cells #[.int .i64 px,.int .i64 y,.int .i64 pz] 77)).drew) ad3 n3 outs∧Row (((wr.alloc (.cells #[.int .i64 px,.int .i64 y,.int .i64 pz] 77)).alloc (.cells #[.int .i64 px,.int .i64 y,.int .i64 pz] 77)).drew) ad4 n4 ah):=⟨HRW.out.1.below bw2,HRW.out.2.1.below bw2,HRW.out.2.2.below bw2⟩
       have T1:=HOS.out.below bw2
       have olt:=HOS.out.lt
       have S1:fH (((wr.alloc (.cells #[.int .i64 px,.int .i64 y,.int .i64 pz] 77)).alloc (.cells #[.int .i64 px,.int .i64 y,.int .i64 pz] 77)).drew) (some ⟨wr.heap.size+1,0,none⟩) 1 1 [(px,y,pz)]:=qV rfl (fun j s hs=>by
        have hv:ae (((wr.alloc (.cells #[.int .i64 px,.int .i64 y,.int .i64 pz] 77)).alloc (.cells #[.int .i64 px,.int .i64 y,.int .i64 pz] 77)).drew) (wr.heap.size+1) #[.int .i64 px,.int .i64 y,.int .i64 pz] 77:=(ae.new (wr.alloc (.cells #[.int .i64 px,.int .i64 y,.int .i64 pz] 77)) #[.int .i64 px,.int .i64 y,.int .i64 pz] 77 (by simp)).drew
        match j,hs with
        | 0,hs=>simp at hs;subst hs;exact ⟨hv.cell rfl,hv.cell rfl,hv.cell rfl⟩
        | j+1,hs=>simp at hs)
       clear bw2
       go_wp2_with (at_builtin;refine bI rfl (.tmp 66) (.tmp 68) 25 77 rfl w2.heap.size j0 Tryz.underlying25 hj hj0 hj1 hj2 x5 len T rfl T1 (some ⟨wr.heap.size+1,0,none⟩) 1 1 [(px,y,pz)] rfl S1 (by omega) (by simp;omega) ?_)
       rintro v4 w4 ⟨hown4,hgrow4,uP⟩
       obtain ⟨av4,cv4,rfl⟩:=hown4.form
       have VB4:=Lib.hid (VO2.out.grown hgrow4 (fun e=>by have:=(olt _ e.symm).1;omega))
       have VA4:=Lib.hid (VA2.out.grown hgrow4 (fun e=>by have:=(olt _ e.symm).1;omega))
       have VR4:=Lib.hid (VR2.out.grown hgrow4 (fun e=>by have:=(olt _ e.symm).1;omega))
       have B4:=Lib.hid (B2.out.grown hgrow4 B2.out.size (fun q hq=>by have:=(olt q hq).1;omega))
       have RW4:Hid (Row w4 ad2 n2 ins∧Row w4 ad3 n3 outs∧Row w4 ad4 n4 ah):=⟨RW2.out.1.dn hgrow4 (fun q hq h0 e=>by have:=(olt _ e.symm).1;have:=R17.out.1.1.1.lt q hq h0;omega),RW2.out.2.1.dn hgrow4 (fun q hq h0 e=>by have:=(olt _ e.symm).1;have:=R21.out.1.1.1.lt q hq h0;omega),RW2.out.2.2.dn hgrow4 (fun q hq h0 e=>by have:=(olt _ e.symm).1;have:=R25.out.1.1.1.lt q hq h0;omega)⟩
       have hg5:World.grownBy w4 (w4.setCell ⟨b,5,none⟩ (.slice av4 (len+1) cv4)) (some b):=⟨rfl,rfl,rfl,by simp,fun q _ hq=>heap_setCell_other w4 ⟨b,5,none⟩ q (.slice av4 (len+1) cv4) (fun e=>hq (by simp [e]))⟩
       have VB5:Hid (ae (w4.setCell ⟨b,5,none⟩ (.slice av4 (len+1) cv4)) b #[.int .i64 (kn:Int),.int .i64 pl,.slice ad2 n2 cc2,.slice ad3 n3 cc3,.slice ad4 n4 cc4,.slice av4 (len+1) cv4] 27):=VB4.out.set 5 (.slice av4 (len+1) cv4)
       have OS5:Hid (OwnsS 77 (w4.setCell ⟨b,5,none⟩ (.slice av4 (len+1) cv4)) w2.heap.size (.slice av4 (len+1) cv4) (len+1) (T++[(px,y,pz)])):=hown4.keep hg5 (fun q hq e=>by have:=(hown4.lt q hq).1;have:=Option.some.inj e;omega)
       have VA5:=Lib.hid (VA4.out.grown hg5 (fun e=>by have:=Option.some.inj e;omega))
       have VR5:=Lib.hid (VR4.out.grown hg5 (fun e=>by have:=Option.some.inj e;omega))
       have B5:=Lib.hid (B4.out.grown hg5 B4.out.size (fun q hq=>by have:=Option.some.inj hq;omega))
       have RW5:Hid (Row (w4.setCell ⟨b,5,none⟩ (.slice av4 (len+1) cv4)) ad2 n2 ins∧Row (w4.setCell ⟨b,5,none⟩ (.slice av4 (len+1) cv4)) ad3 n3 outs∧Row (w4.setCell ⟨b,5,none⟩ (.slice av4 (len+1) cv4)) ad4 n4 ah):=⟨RW4.out.1.grown hg5 (R17.out.1.2 b rfl),RW4.out.2.1.grown hg5 (R21.out.1.2 b rfl),RW4.out.2.2.grown hg5 (R25.out.1.2 b rfl)⟩
       have hs4:w2.heap.size≤w4.heap.size:=by
        have h1:=hgrow4.size
        have h2:(((wr.alloc (.cells #[.int .i64 px,.int .i64 y,.int .i64 pz] 77)).alloc (.cells #[.int .i64 px,.int .i64 y,.int .i64 pz] 77)).drew).heap.size=wr.heap.size+1+1:=by simp
        rw [h2] at h1
        omega
       have kc:=VB4.out.cell (j:=5) rfl
       have kf:=VB4.out.frozen 5
       clear hown4 hgrow4 uP hg5 T1 S1 AL
       go_wp2_with fail
       go_roundw
       case rel=>exact ⟨k+1,len+1,(.slice av4 (len+1) cv4),T++[(px,y,pz)],by omega,by go_num,VB5.out,OS5.out,HT2.out,by omega,B5.out,VA5.out,VR5.out,RW5.out,by simp;omega⟩
       case measure=>simp [intOf];omega
      ·have hdz:decide ((0:Int)≤pz)=false:=by simp;omega
       have HT2:Hid (T=jZ keep (steps.take (k+1))):=by
        have:=HST.out
        rw [hdz] at this
        unfold Hid
        simpa using this.symm
       clear hx0 hz0'
       go_wp2_with fail
       go_roundw
       case rel=>exact ⟨k+1,len,x5,T,by omega,by go_num,VOY.out,OSY.out,HT2.out,by omega,BY.out,VAY.out,VRY.out,RWY.out,by simp;omega⟩
       case measure=>simp [intOf];omega
     ·have hdx:decide ((0:Int)≤px)=false:=by simp;omega
      have HT2:Hid (T=jZ keep (steps.take (k+1))):=by
       have:=HST.out
       rw [hdx] at this
       unfold Hid
       simpa using this.symm
      clear hx0
      go_wp2_with fail
      go_roundw
      case rel=>exact ⟨k+1,len,x5,T,by omega,by go_num,VOY.out,OSY.out,HT2.out,by omega,BY.out,VAY.out,VRY.out,RWY.out,by simp;omega⟩
      case measure=>simp [intOf];omega
   ·have HE:Hid (T=jZ keep steps):=by
     have:=HT.out
     rw [List.take_of_length_le (by rw [R5.out.1];omega)] at this
     exact this
    obtain ⟨b5,d5,hx5⟩:=HOS.out.form
    subst hx5
    obtain ⟨k0,k1,k2,k3,k4,k5⟩:=HVO.out.aO
    have TH:Hid (wr.there (w.heap.size+1) 0 6):=HVR.out.there rfl
    have RG2:Hid ((wr.setCells (w.heap.size+1) 0 [.int .i64 (kn:Int),.int .i64 pl,.slice ad2 n2 cc2,.slice ad3 n3 cc3,.slice ad4 n4 cc4,.slice b5 len d5]).rangeAt (w.heap.size+1) 0 [.int .i64 (kn:Int),.int .i64 pl,.slice ad2 n2 cc2,.slice ad3 n3 cc3,.slice ad4 n4 cc4,.slice b5 len d5]):=World.rangeAt_setCells_same wr (w.heap.size+1) 0 _ TH.out
    have HGS:=Lib.hid (aA (w.heap.size+1) [.int .i64 (kn:Int),.int .i64 pl,.slice ad2 n2 cc2,.slice ad3 n3 cc3,.slice ad4 n4 cc4,.slice b5 len d5] 0 wr)
    go_wp2_with (refine wpList_store_mid rfl _ _ _ rfl (w.heap.size+1) 0 #[.int .i64 (kn:Int),.int .i64 pl,.slice ad2 n2 cc2,.slice ad3 n3 cc3,.slice ad4 n4 cc4,.slice b5 len d5] rfl rfl TH.out (by kernel_rfl) (di _ _ _ _ _ _ _ _ _ _ _ _ _ _) ?_)
    clear k0 k1 k2 k3 k4 k5
    refine bodyPost_ret (v:=.agg #[.int .i64 (kn:Int),.int .i64 pl,.slice ad2 n2 cc2,.slice ad3 n3 cc3,.slice ad4 n4 cc4,.slice b5 len d5]) ?_ rfl ⟨_,rfl,?_,(by obtain ⟨q2,p2,h2⟩:=R17.out.1.1.2;obtain ⟨q3,p3,h3⟩:=R21.out.1.1.2;obtain ⟨q4,p4,h4⟩:=R25.out.1.1.2;exact ⟨q2,p2,_,_,q3,p3,_,_,q4,p4,_,_,_,_,_,by rw [h2,h3,h4]⟩),HB.out.grown HGS.out HB.out.size (fun q hq=>by have:=Option.some.inj hq;omega)⟩
    ·have HC0:=RG2.out 0 _ rfl
     have HC1:=RG2.out 1 _ rfl
     have HC2:=RG2.out 2 _ rfl
     have HC3:=RG2.out 3 _ rfl
     have HC4:=RG2.out 4 _ rfl
     have HC5:=RG2.out 5 _ rfl
     simp only [Nat.zero_add] at HC0 HC1 HC2 HC3 HC4 HC5
     simp [results,Tryz.results79,go_sem,HC0,HC1,HC2,HC3,HC4,HC5]
    ·have hw2:=HW2.out
     have hk1:=RK.out.1
     have o5:=(HOS.out.keep HGS.out (fun q hq e=>by have:=(HOS.out.lt q hq).1;have:=Option.some.inj e;omega)).row
     refine ⟨ad2,n2,cc2,ad3,n3,cc3,ad4,n4,cc4,b5,len,d5,?_,?_,?_,?_,?_,(fun q hq h0=>by have:=R17.out.2 q hq h0;omega),(fun q hq h0=>by have:=R21.out.2 q hq h0;omega),(fun q hq h0=>by have:=R25.out.2 q hq h0;omega),(fun q hq h0=>by subst hq;have:=(HOS.out.lt q.block rfl).1;omega)⟩
     ·simp only [bK]
      rw [hk1,← HPL.out]
     ·exact HRW.out.1.grown HGS.out (fun q hq h0 e=>by have:=R17.out.2 q hq h0;omega)
     ·exact HRW.out.2.1.grown HGS.out (fun q hq h0 e=>by have:=R21.out.2 q hq h0;omega)
     ·exact HRW.out.2.2.grown HGS.out (fun q hq h0 e=>by have:=R25.out.2 q hq h0;omega)
     ·have h5:=o5.2.2.2
      rw [HE.out] at h5
      exact h5
open Go.RowKit
theorem Kz {W:World} {base base' size size' n n':Nat} {e e':TypeId} {v v':Value} {xs xs':List Value} (h:W.ownsRow base e size v n xs) (h':W.ownsRow base' e' size' v' n' xs') (he:e≠e'):∀ k,v.ownBlock=some k→v'.ownBlock≠some k:=by
 intro k hk hk'
 rcases h.2 with ⟨rfl,_⟩|⟨g,cap,cur,rfl,_,hh,_⟩
 ·cases hk
 rcases h'.2 with ⟨rfl,_⟩|⟨g',cap',cur',rfl,_,hh',_⟩
 ·cases hk'
 have e1:g=k:=by simpa [Value.ownBlock] using hk
 have e2:g'=k:=by simpa [Value.ownBlock] using hk'
 rw [e1] at hh
 rw [e2,hh] at hh'
 simp only [Option.some.injEq,Obj.cells.injEq] at hh'
 exact he hh'.2.1
theorem wW (w:World) (base:Nat):dS w base ja (.agg #[.int .i64 0,.int .i64 0,.slice none 0 0,.slice none 0 0,.slice none 0 0,.slice none 0 0]) :=
 ⟨_,_,_,_,rfl,World.ownsRow_nil _ _ _ _,World.ownsRow_nil _ _ _ _,World.ownsRow_nil _ _ _ _,World.ownsRow_nil _ _ _ _,(fun b h=>by cases h),(fun b h=>by cases h),fun b h=>by cases h⟩
theorem AO (a b:IaD) (v u:Value) (w:World) (h:aB w a v) (k:aB w b u) (fa:Small a) (fb:Small b) :
  Calls Tryz.prog 16 #[v,u] w fun e w'=>∃ v',e=.returned (.tuple #[v',.bool (fQ a b)])∧dS w' w.heap.size (gI a b) v'∧Below w.heap.size w w':=by
 have CF:Hid (∀ W,Below w.heap.size w W→Calls Tryz.prog 59 #[v,u] W fun e w'=>e=.returned (.bool (iH a b))∧Below W.heap.size W w'):=fun W hW=>Fz a b v u W (h.below hW) (k.below hW) fa fb
 have CSH:Hid (∀ W,Below w.heap.size w W→Calls Tryz.prog 60 #[v,u] W (bY W W.heap.size (aY a b))):=fun W hW=>vV a b v u W (h.below hW) (k.below hW) fa fb
 have CA0:Hid (aJ a=true→aJ b=true→∀ W sa sn sc,Below w.heap.size w W→Row W sa sn (aY a b)→sn≤1048576→Calls Tryz.prog 62 #[v,u,.slice sa sn sc] W fun e w'=>∃ v',e=.returned v'∧OwnsS 77 w' W.heap.size v' (dF (aY a b) b.states b.states.toNat a.steps++cu (aY a b) b.states a.states.toNat b.steps).length (dF (aY a b) b.states b.states.toNat a.steps++cu (aY a b) b.states a.states.toNat b.steps)∧Below W.heap.size W w'):=fun h1 h2 W sa sn sc hW hr hn=>BD a b v u W (h.below hW) (k.below hW) fa fb h1 h2 sa sn sc _ hr hn
 have CT0:Hid (aJ a=true→aJ b=true→∀ W sa sn sc,Below w.heap.size w W→Row W sa sn (aY a b)→sn≤1048576→Calls Tryz.prog 63 #[v,u,.slice sa sn sc] W fun e w'=>∃ v',e=.returned v'∧OwnsS 77 w' W.heap.size v' (bZ (aY a b) b.states a.steps b.steps).length (bZ (aY a b) b.states a.steps b.steps)∧Below W.heap.size W w'):=fun h1 h2 W sa sn sc hW hr hn=>yL a b v u W (h.below hW) (k.below hW) fa fb h1 h2 sa sn sc _ hr hn
 obtain ⟨q,hq⟩:∃ q,q=iH a b:=⟨_,rfl⟩
 have HOK:Hid (q=true→aJ a=true∧aJ b=true∧a.states*b.states≤40):=fun e=>iQ (by rw [← hq];exact e)
 have HSL:Hid (q=true→(aY a b).length≤12):=fun e=>DW (iQ (by rw [← hq];exact e)).1
 obtain ⟨LA1,Ei⟩:∃ l,l=dF (aY a b) b.states b.states.toNat a.steps++cu (aY a b) b.states a.states.toNat b.steps:=⟨_,rfl⟩
 obtain ⟨LT1,Ej⟩:∃ l,l=bZ (aY a b) b.states a.steps b.steps:=⟨_,rfl⟩
 obtain ⟨ok,hok⟩:∃ r,r=fQ a b:=⟨_,rfl⟩
 obtain ⟨I,hI⟩:∃ I,I=gI a b:=⟨_,rfl⟩
 have HI:Hid (I=if ok then ⟨a.states*b.states,fJ b.states (a.init,b.init),dK (aT a.ins b.ins) (aY a b),dK (aT a.outs b.outs) (aY a b),aT (aT a.ah b.ah) (aY a b),nO (LA1++LT1)⟩ else ja):=by unfold Hid;rw [hI,hok,Ei,Ej];rfl
 have HB_:Hid (ok=(q&&decide ((LA1++LT1).length≤400))):=by unfold Hid;rw [hok,hq,Ei,Ej];rfl
 have HNL:Hid (q=true→LA1.length≤32000∧LT1.length≤160000):=fun e=>by
  obtain ⟨h1,h2,_⟩:=HOK.out e
  have s1:=aN h1
  have s2:=aN h2
  have l1:=dD h1
  have l2:=dD h2
  have m1:=tH (aY a b) b.states b.states.toNat a.steps
  have m2:=tJ (aY a b) b.states a.states.toNat b.steps
  have m3:=oV (aY a b) b.states b.steps a.steps
  have p1:a.steps.length*b.states.toNat≤400*40:=Nat.mul_le_mul l1 (by omega)
  have p2:b.steps.length*a.states.toNat≤400*40:=Nat.mul_le_mul l2 (by omega)
  have p3:a.steps.length*b.steps.length≤400*400:=Nat.mul_le_mul l1 l2
  rw [Ei,Ej,List.length_append]
  omega
 rw [← hok,← hI]
 rw [← hq] at CF
 rw [← Ei] at CA0
 rw [← Ej] at CT0
 clear hq hok hI Ei Ej
 obtain ⟨a2,n2,c2,a3,n3,c3,a4,n4,c4,a5,n5,c5,rfl,r2,r3,r4,r5⟩:=h
 obtain ⟨b2,m2,d2,b3,m3,d3,b4,m4,d4,b5,m5,d5,rfl,q2,q3,q4,q5⟩:=k
 obtain ⟨st,it,ins,outs,ah,steps⟩:=a
 obtain ⟨su,iu,jns,aF,aG,ax⟩:=b
 obtain ⟨f2,f3,f4,f5⟩:=fa
 obtain ⟨g2,g3,g4,g5⟩:=fb
 simp only at r2 r3 r4 r5 q2 q3 q4 q5 f2 f3 f4 f5 g2 g3 g4 g5
 have HA:Hid (∀ W,Below w.heap.size w W→aB W ⟨st,it,ins,outs,ah,steps⟩ (.agg #[.int .i64 st,.int .i64 it,.slice a2 n2 c2,.slice a3 n3 c3,.slice a4 n4 c4,.slice a5 n5 c5])):=fun W hW=>aB.below ⟨a2,n2,c2,a3,n3,c3,a4,n4,c4,a5,n5,c5,rfl,r2,r3,r4,r5⟩ hW
 have HB:Hid (∀ W,Below w.heap.size w W→aB W ⟨su,iu,jns,aF,aG,ax⟩ (.agg #[.int .i64 su,.int .i64 iu,.slice b2 m2 d2,.slice b3 m3 d3,.slice b4 m4 d4,.slice b5 m5 d5])):=fun W hW=>aB.below ⟨b2,m2,d2,b3,m3,d3,b4,m4,d4,b5,m5,d5,rfl,q2,q3,q4,q5⟩ hW
 have S0:=Lib.hid (aI.start w (iaC st it a2 n2 c2 a3 n3 c3 a4 n4 c4 a5 n5 c5) (iaC su iu b2 m2 d2 b3 m3 d3 b4 m4 d4 b5 m5 d5) 27)
 have e2:=r2.1
 have e3:=r3.1
 have e4:=r4.1
 have k2:=q2.1
 have k3:=q3.1
 have k4:=q4.1
 rw [e2] at f2
 rw [e3] at f3
 rw [e4] at f4
 rw [k2] at g2
 rw [k3] at g3
 rw [k4] at g4
 have R2:=Lib.hid r2
 have R3:=Lib.hid r3
 have R4:=Lib.hid r4
 have R5:=Lib.hid r5
 have Q2:=Lib.hid q2
 have Q3:=Lib.hid q3
 have Q4:=Lib.hid q4
 have Q5:=Lib.hid q5
 clear r2 r3 r4 r5 q2 q3 q4 q5
 clear HA HB R5 Q5
 simp only at HOK HSL HI CA0 CT0 CSH
 obtain ⟨sh,hsh⟩:∃ l,l=aY ⟨st,it,ins,outs,ah,steps⟩ ⟨su,iu,jns,aF,aG,ax⟩:=⟨_,rfl⟩
 rw [← hsh] at CSH HSL HI CA0 CT0
 clear hsh
 have S0x:=S0.out.alloc (.cells #[.int .i64 0,.int .i64 0,.slice none 0 0,.slice none 0 0,.slice none 0 0,.slice none 0 0] 27)
 have S0:=Lib.hid S0x
 have TZ:Hid (ae (((w.alloc (.cells #[.int .i64 st,.int .i64 it,.slice a2 n2 c2,.slice a3 n3 c3,.slice a4 n4 c4,.slice a5 n5 c5] 27)).alloc (.cells #[.int .i64 su,.int .i64 iu,.slice b2 m2 d2,.slice b3 m3 d3,.slice b4 m4 d4,.slice b5 m5 d5] 27)).alloc (.cells #[.int .i64 0,.int .i64 0,.slice none 0 0,.slice none 0 0,.slice none 0 0,.slice none 0 0] 27)) (w.heap.size+2) #[.int .i64 0,.int .i64 0,.slice none 0 0,.slice none 0 0,.slice none 0 0,.slice none 0 0] 27):=ae.new ((w.alloc (.cells #[.int .i64 st,.int .i64 it,.slice a2 n2 c2,.slice a3 n3 c3,.slice a4 n4 c4,.slice a5 n5 c5] 27)).alloc (.cells #[.int .i64 su,.int .i64 iu,.slice b2 m2 d2,.slice b3 m3 d3,.slice b4 m4 d4,.slice b5 m5 d5] 27)) #[.int .i64 0,.int .i64 0,.slice none 0 0,.slice none 0 0,.slice none 0 0,.slice none 0 0] 27 (by simp)
 clear S0x
 obtain ⟨ca0,ca1,ca2,ca3,ca4,ca5⟩:=S0.out.2.1.aO
 obtain ⟨cb0,cb1,cb2,cb3,cb4,cb5⟩:=S0.out.2.2.aO
 go_enter Tryz.func16,Tryz.ntmps16
 go_wp2_with fail
 clear ca0 ca1 ca2 ca3 ca4 ca5 cb0 cb1 cb2 cb3 cb4 cb5
 refine (CF.out _ S0.out.1).mono ?_
 rintro e w1 ⟨rfl,hb⟩
 have S1:=Lib.hid (S0.out.below hb)
 have T1:=Lib.hid (TZ.out.below hb)
 clear hb S0 TZ CF
 cases q with
 | false =>
  have HOF:ok=false:=by rw [HB_.out];rfl
  subst HOF
  have THX:Hid (w1.there (w.heap.size+2) 0 6):=T1.out.there rfl
  have RGX:Hid ((w1.setCells (w.heap.size+2) 0 [.int .i64 0,.int .i64 0,.slice none 0 0,.slice none 0 0,.slice none 0 0,.slice none 0 0]).rangeAt (w.heap.size+2) 0 [.int .i64 0,.int .i64 0,.slice none 0 0,.slice none 0 0,.slice none 0 0,.slice none 0 0]):=World.rangeAt_setCells_same w1 (w.heap.size+2) 0 [.int .i64 0,.int .i64 0,.slice none 0 0,.slice none 0 0,.slice none 0 0,.slice none 0 0] (by simpa using THX.out)
  have GX:=Lib.hid (aA (w.heap.size+2) [.int .i64 0,.int .i64 0,.slice none 0 0,.slice none 0 0,.slice none 0 0,.slice none 0 0] 0 w1)
  have BX:Hid (Below w.heap.size w (w1.setCells (w.heap.size+2) 0 [.int .i64 0,.int .i64 0,.slice none 0 0,.slice none 0 0,.slice none 0 0,.slice none 0 0])):=S1.out.1.grown GX.out S1.out.1.size (fun q hq=>by have h1:=Option.some.inj hq;omega)
  have HIN:Hid (I=ja):=HI.out
  go_wp2_with (refine wpList_store_mid rfl _ _ _ rfl (w.heap.size+2) 0 #[.int .i64 0,.int .i64 0,.slice none 0 0,.slice none 0 0,.slice none 0 0,.slice none 0 0] rfl rfl THX.out (by kernel_rfl) (di _ _ _ _ _ _ _ _ _ _ _ _ _ _) ?_)
  refine bodyPost_ret (v:=.tuple #[.agg #[.int .i64 0,.int .i64 0,.slice none 0 0,.slice none 0 0,.slice none 0 0,.slice none 0 0],.bool false]) ?_ rfl ⟨.agg #[.int .i64 0,.int .i64 0,.slice none 0 0,.slice none 0 0,.slice none 0 0,.slice none 0 0],rfl,by rw [HIN.out];exact wW _ _,BX.out⟩
  have HC0:=RGX.out 0 _ rfl
  have HC1:=RGX.out 1 _ rfl
  have HC2:=RGX.out 2 _ rfl
  have HC3:=RGX.out 3 _ rfl
  have HC4:=RGX.out 4 _ rfl
  have HC5:=RGX.out 5 _ rfl
  simp only [Nat.zero_add] at HC0 HC1 HC2 HC3 HC4 HC5
  simp [results,Tryz.results16,go_sem,HC0,HC1,HC2,HC3,HC4,HC5]
 | true =>
  have hok:=HOK.out (by simp)
  have hsl:=HSL.out (by simp)
  have hnl:=HNL.out (by simp)
  have hsA:=aN hok.1
  have hsB:=aN hok.2.1
  have hiA:=gV hok.1
  have hiB:=gV hok.2.1
  simp only at hsA hsB hiA hiB
  have HMUL:0≤st*su∧st*su≤1600:=mX (by omega) (by omega)
  have CA1:=Lib.hid (CA0.out hok.1 hok.2.1)
  have CT1:=Lib.hid (CT0.out hok.1 hok.2.1)
  clear CA0 CT0 HOK HSL HNL hok
  obtain ⟨ca0,ca1,ca2,ca3,ca4,ca5⟩:=S1.out.2.1.aO
  obtain ⟨cb0,cb1,cb2,cb3,cb4,cb5⟩:=S1.out.2.2.aO
  go_wp2_with fail
  clear ca0 ca1 ca2 ca3 ca4 ca5 cb0 cb1 cb2 cb3 cb4 cb5
  refine (CSH.out _ S1.out.1).mono ?_
  rintro e w2 ⟨vsh,rfl,ho,hb⟩
  obtain ⟨sn,hsn⟩:∃ n,n=sh.length:=⟨_,rfl⟩
  rw [← hsn] at ho hsl
  obtain ⟨sa,sc,rfl⟩:=ho.form
  have S2:=Lib.hid (S1.out.below hb)
  have T2:=Lib.hid (T1.out.below hb)
  have P2:=Lib.hid (ho.mono (base:=w.heap.size) S1.out.1.size)
  clear hb ho hsn S1 T1 CSH
  have CA:Hid (∀ W,aI w W w.heap.size (w.heap.size+1) 27 (iaC st it a2 n2 c2 a3 n3 c3 a4 n4 c4 a5 n5 c5) (iaC su iu b2 m2 d2 b3 m3 d3 b4 m4 d4 b5 m5 d5)→Row W sa sn sh→Calls Tryz.prog 62 #[.agg #[.int .i64 st,.int .i64 it,.slice a2 n2 c2,.slice a3 n3 c3,.slice a4 n4 c4,.slice a5 n5 c5],.agg #[.int .i64 su,.int .i64 iu,.slice b2 m2 d2,.slice b3 m3 d3,.slice b4 m4 d4,.slice b5 m5 d5],.slice sa sn sc] W fun e w'=>∃ ad n cc,e=.returned (.slice ad n cc)∧(OwnsS 77 w' W.heap.size (.slice ad n cc) LA1.length LA1)∧Below W.heap.size W w'):=fun W hW hr=>(CA1.out W sa sn sc hW.1 hr (by omega)).mono fun e w' h=>by
   obtain ⟨v',he,ho,hb⟩:=h
   obtain ⟨ad,cc,rfl⟩:=ho.form
   exact ⟨ad,_,cc,he,ho,hb⟩
  have CT:Hid (∀ W,aI w W w.heap.size (w.heap.size+1) 27 (iaC st it a2 n2 c2 a3 n3 c3 a4 n4 c4 a5 n5 c5) (iaC su iu b2 m2 d2 b3 m3 d3 b4 m4 d4 b5 m5 d5)→Row W sa sn sh→Calls Tryz.prog 63 #[.agg #[.int .i64 st,.int .i64 it,.slice a2 n2 c2,.slice a3 n3 c3,.slice a4 n4 c4,.slice a5 n5 c5],.agg #[.int .i64 su,.int .i64 iu,.slice b2 m2 d2,.slice b3 m3 d3,.slice b4 m4 d4,.slice b5 m5 d5],.slice sa sn sc] W fun e w'=>∃ ad n cc,e=.returned (.slice ad n cc)∧(OwnsS 77 w' W.heap.size (.slice ad n cc) LT1.length LT1)∧Below W.heap.size W w'):=fun W hW hr=>(CT1.out W sa sn sc hW.1 hr (by omega)).mono fun e w' h=>by
   obtain ⟨v',he,ho,hb⟩:=h
   obtain ⟨ad,cc,rfl⟩:=ho.form
   exact ⟨ad,_,cc,he,ho,hb⟩
  have CCC:Hid (∀ W a1 l1 c1 a2 l2 c2 ,OwnsS 77 W w.heap.size (.slice a1 l1 c1) LA1.length LA1→OwnsS 77 W w.heap.size (.slice a2 l2 c2) LT1.length LT1→Calls Tryz.prog 61 #[.slice (some ⟨W.heap.size,0,none⟩) 2 2] (W.alloc (.cells #[.slice a1 l1 c1,.slice a2 l2 c2] 25)) fun e w'=>∃ v,e=.returned v∧OwnsS 77 w' (W.alloc (.cells #[.slice a1 l1 c1,.slice a2 l2 c2] 25)).heap.size v (LA1++LT1).length (LA1++LT1)∧Below (W.alloc (.cells #[.slice a1 l1 c1,.slice a2 l2 c2] 25)).heap.size (W.alloc (.cells #[.slice a1 l1 c1,.slice a2 l2 c2] 25)) w'):=fun W a1 l1 c1 a2 l2 c2 h1 h2=>by
   obtain rfl:=h1.row.1
   obtain rfl:=h2.row.1
   have X:=ae.new W #[.slice a1 LA1.length c1,.slice a2 LT1.length c2] 25 rfl
   exact F7 W.heap.size a1 a2 LA1.length c1 LT1.length c2 LA1 LT1 _ X.lt (X.cell (j:=0) rfl) (X.cell (j:=1) rfl) (h1.alloc _).src (h2.alloc _).src (by omega) (by omega)
  clear CA1 CT1
  go_wp2_with fail
  have SD:=S2.out.drew
  have TD:Hid (ae w2.drew (w.heap.size+2) #[.int .i64 0,.int .i64 0,.slice none 0 0,.slice none 0 0,.slice none 0 0,.slice none 0 0] 27):=T2.out
  have PD:Hid (aj w2.drew w.heap.size (.slice sa sn sc) sn sh):=P2.out
  clear S2 T2 P2
  refine wp_region_held_drew (S:=fun w'=>aI w w' w.heap.size (w.heap.size+1) 27 (iaC st it a2 n2 c2 a3 n3 c3 a4 n4 c4 a5 n5 c5) (iaC su iu b2 m2 d2 b3 m3 d3 b4 m4 d4 b5 m5 d5)) (by kernel_rfl) SD (fun hHeld=>?_)
  change wpAnyH _ _ _ _ _ 11 (Array.replicate 11 false) _ _
  refine aX 0 16 (.agg #[.int .i64 st,.int .i64 it,.slice a2 n2 c2,.slice a3 n3 c3,.slice a4 n4 c4,.slice a5 n5 c5]) (fuel:=10) rfl rfl (by kernel_rfl) (fun _ _ _ h=>h) (yieldsIf_load_mid (by rfl) _ _ rfl (w.heap.size) 0 rfl (iaC st it a2 n2 c2 a3 n3 c3 a4 n4 c4 a5 n5 c5).toList _ (fun w hw=>hw.2.1.range) Tryz.underlying27 rfl (by kernel_rfl)) hHeld ?_
  simp only [Act.put,sI0,sI1,sI2]
  refine aX 1 17 (.agg #[.int .i64 su,.int .i64 iu,.slice b2 m2 d2,.slice b3 m3 d3,.slice b4 m4 d4,.slice b5 m5 d5]) (fuel:=9) rfl rfl (by kernel_rfl) (fun _ _ _ h=>h) (yieldsIf_load_mid (by rfl) _ _ rfl (w.heap.size+1) 0 rfl (iaC su iu b2 m2 d2 b3 m3 d3 b4 m4 d4 b5 m5 d5).toList _ (fun w hw=>hw.2.2.range) Tryz.underlying27 rfl (by kernel_rfl)) hHeld ?_
  simp only [Act.put,sI0,sI1,sI2]
  refine ag 2 18 (.slice sa sn sc) (fuel:=8) rfl rfl (by kernel_rfl) (fun _ _ _ h=>h) (by rfl) (fun w hSw=>by go_simp) hHeld ?_
  simp only [Act.put,sI0,sI1,sI2]
  refine aX 4 20 (.agg #[.int .i64 st,.int .i64 it,.slice a2 n2 c2,.slice a3 n3 c3,.slice a4 n4 c4,.slice a5 n5 c5]) (fuel:=7) rfl rfl (by kernel_rfl) (fun _ _ _ h=>h) (yieldsIf_load_mid (by rfl) _ _ rfl (w.heap.size) 0 rfl (iaC st it a2 n2 c2 a3 n3 c3 a4 n4 c4 a5 n5 c5).toList _ (fun w hw=>hw.2.1.range) Tryz.underlying27 rfl (by kernel_rfl)) hHeld ?_
  simp only [Act.put,sI0,sI1,sI2]
  refine aX 5 21 (.agg #[.int .i64 su,.int .i64 iu,.slice b2 m2 d2,.slice b3 m3 d3,.slice b4 m4 d4,.slice b5 m5 d5]) (fuel:=6) rfl rfl (by kernel_rfl) (fun _ _ _ h=>h) (yieldsIf_load_mid (by rfl) _ _ rfl (w.heap.size+1) 0 rfl (iaC su iu b2 m2 d2 b3 m3 d3 b4 m4 d4 b5 m5 d5).toList _ (fun w hw=>hw.2.2.range) Tryz.underlying27 rfl (by kernel_rfl)) hHeld ?_
  simp only [Act.put,sI0,sI1,sI2]
  refine ag 6 22 (.slice sa sn sc) (fuel:=5) rfl rfl (by kernel_rfl) (fun _ _ _ h=>h) (by rfl) (fun w hSw=>by go_simp) hHeld ?_
  simp only [Act.put,sI0,sI1,sI2]
  refine wpAnyH_ready (rs:=[3]) (fuel:=4) (by kernel_rfl) (by simp) ?_
  refine AllReadyH.cons rfl (fun K hK=>?_) AllReadyH.nil
  go_simp
  refine (CA.out _ hHeld PD.out.row.2.2.2).mono ?_
  rintro e w3 ⟨a3v,l3,c3v,rfl,ho,hb⟩
  have T3:=Lib.hid (TD.out.below hb)
  have O3:=Lib.hid (ho.mono (base:=w.heap.size) hHeld.1.size)
  have P3:=Lib.hid (PD.out.below hb)
  have hS3:=hHeld.below hb
  clear hb ho
  go_wp2_with fail
  refine hK.out _ _ hS3 (fun hHeld=>?_)
  clear hK K
  refine wpAnyH_ready (rs:=[7]) (fuel:=3) (by kernel_rfl) (by simp) ?_
  refine AllReadyH.cons rfl (fun K hK=>?_) AllReadyH.nil
  go_simp
  refine (CT.out _ hHeld P3.out.row.2.2.2).mono ?_
  rintro e w4 ⟨a4v,l4,c4v,rfl,ho,hb⟩
  have T4:=Lib.hid (T3.out.below hb)
  have O4:=Lib.hid (O3.out.below hb)
  have Q4x:=Lib.hid (ho.mono (base:=w.heap.size) hHeld.1.size)
  have P4:=Lib.hid (P3.out.below hb)
  have hS4:=hHeld.below hb
  clear hb ho O3 T3 P3
  have CC:=Lib.hid (CCC.out w4 a3v l3 c3v a4v l4 c4v O4.out Q4x.out)
  go_wp2_with fail
  refine hK.out _ _ hS4 (fun hHeld=>?_)
  clear hK K
  refine wpAnyH_ready (rs:=[8]) (fuel:=2) (by kernel_rfl) (by simp) ?_
  refine AllReadyH.cons rfl (fun K hK=>?_) AllReadyH.nil
  go_simp
  refine hK.out _ _ (hHeld.alloc _) (fun hHeld=>?_)
  clear hK K
  try simp only [Act.put,sI0,sI1,sI2]
  refine wpAnyH_ready (rs:=[9]) (fuel:=1) (by kernel_rfl) (by simp) ?_
  refine AllReadyH.cons rfl (fun K hK=>?_) AllReadyH.nil
  go_simp
  refine (CC.out).mono ?_
  rintro e w5 ⟨v5,rfl,ho,hb⟩
  have T5:=Lib.hid ((T4.out.alloc (.cells #[.slice a3v l3 c3v,.slice a4v l4 c4v] 25)).below hb)
  have O5:=Lib.hid (ho.mono (base:=w.heap.size+3) (by have h1:=T4.out.lt;simp;omega))
  have P5:=Lib.hid ((P4.out.alloc (.cells #[.slice a3v l3 c3v,.slice a4v l4 c4v] 25)).below hb)
  have hS5:=hHeld.below hb
  clear hb ho O4 Q4x T4 P4
  go_wp2_with fail
  refine hK.out _ _ hS5 (fun hHeld=>?_)
  clear hK K
  refine ag 10 7 (v5) (fuel:=0) rfl rfl (by kernel_rfl) (fun _ _ _ h=>h) (by rfl) (fun w hSw=>by go_simp) hHeld ?_
  simp only [Act.put,sI0,sI1,sI2]
  refine wpAnyH_done (by kernel_rfl) ?_ _
  obtain ⟨LL,hLL⟩:∃ l,l=LA1++LT1:=⟨_,rfl⟩
  rw [← hLL] at O5 HI HB_
  obtain ⟨l5,hl5⟩:∃ n,n=LL.length:=⟨_,rfl⟩
  rw [← hl5] at O5 HB_
  have hl5b:l5≤192000:=by rw [hl5,hLL,List.length_append];omega
  obtain ⟨a5v,c5v,rfl⟩:=O5.out.form
  have SE:=Lib.hid hHeld
  clear hHeld hLL hl5 CA CT CCC CC
  by_cases hlen:l5≤400
  ·have hd:decide ((l5:Int) > 400)=false:=by simp;omega
   have HOT:ok=true:=by rw [HB_.out];simp [hlen]
   subst HOT
   have HIT:Hid (I=⟨st*su,fJ su (it,iu),dK (aT ins jns) sh,dK (aT outs aF) sh,aT (aT ah aG) sh,nO LL⟩):=HI.out
   go_wp2_with fail
   refine (Ec _ l5 LL (w.heap.size+3) _ O5.out (by omega)).mono ?_
   rintro e w6 ⟨rfl,ho,hg⟩
   have hrow:=fun q hq=>(O5.out.lt q hq).1
   have S6:Hid (aI w w6 w.heap.size (w.heap.size+1) 27 (iaC st it a2 n2 c2 a3 n3 c3 a4 n4 c4 a5 n5 c5) (iaC su iu b2 m2 d2 b3 m3 d3 b4 m4 d4 b5 m5 d5)):=⟨SE.out.1.grown hg SE.out.1.size (fun q hq=>by have:=hrow q hq;omega),SE.out.2.1.grown hg (fun e=>by have:=hrow _ e.symm;omega),SE.out.2.2.grown hg (fun e=>by have:=hrow _ e.symm;omega)⟩
   have T6:=Lib.hid (T5.out.grown hg (fun e=>by have:=hrow _ e.symm;omega))
   have O6:=Lib.hid ho
   have P6:Hid (aj w6 w.heap.size (.slice sa sn sc) sn sh):=P5.out.keep hg (fun k hk he=>Kz P5.out O5.out (by decide) k hk he.symm)
   have bO:=Lib.hid ho.lt
   obtain ⟨ini,zM⟩:∃ x,x=fJ su (it,iu):=⟨_,rfl⟩
   rw [← zM] at HIT
   have CST:Hid (∀ W,Calls Tryz.prog 66 #[.agg #[.int .i64 su,.int .i64 iu,.slice b2 m2 d2,.slice b3 m3 d3,.slice b4 m4 d4,.slice b5 m5 d5],.agg #[.int .i64 it,.int .i64 iu]] W fun e w'=>e=.returned (.int .i64 ini)∧Below W.heap.size W w'):=fun W=>by
    rw [zM]
    exact vG su iu (.slice b2 m2 d2) (.slice b3 m3 d3) (.slice b4 m4 d4) (.slice b5 m5 d5) it iu W (by omega) (by omega) (by omega)
   have CJ1:Hid (∀ W,aI w W w.heap.size (w.heap.size+1) 27 (iaC st it a2 n2 c2 a3 n3 c3 a4 n4 c4 a5 n5 c5) (iaC su iu b2 m2 d2 b3 m3 d3 b4 m4 d4 b5 m5 d5)→Calls Tryz.prog 68 #[.slice a2 n2 c2,.slice b2 m2 d2] W fun e w'=>∃ ad n cc,e=.returned (.slice ad n cc)∧(n≤2097152∧Row w' ad n (aT ins jns))∧Below W.heap.size W w'):=fun W hW =>
    (gG a2 b2 n2 c2 m2 d2 ins jns W (R2.out.below hW.1) (Q2.out.below hW.1) (by omega) (by omega)).mono fun e w' h=>by
     obtain ⟨v,he,ho,hb⟩:=h
     obtain ⟨ad,cc,rfl⟩:=ho.form
     exact ⟨ad,_,cc,he,⟨by have:=iT ins jns;omega,ho.row.2.2.2⟩,hb⟩
   have CJ2:Hid (∀ W,aI w W w.heap.size (w.heap.size+1) 27 (iaC st it a2 n2 c2 a3 n3 c3 a4 n4 c4 a5 n5 c5) (iaC su iu b2 m2 d2 b3 m3 d3 b4 m4 d4 b5 m5 d5)→Calls Tryz.prog 68 #[.slice a3 n3 c3,.slice b3 m3 d3] W fun e w'=>∃ ad n cc,e=.returned (.slice ad n cc)∧(n≤2097152∧Row w' ad n (aT outs aF))∧Below W.heap.size W w'):=fun W hW =>
    (gG a3 b3 n3 c3 m3 d3 outs aF W (R3.out.below hW.1) (Q3.out.below hW.1) (by omega) (by omega)).mono fun e w' h=>by
     obtain ⟨v,he,ho,hb⟩:=h
     obtain ⟨ad,cc,rfl⟩:=ho.form
     exact ⟨ad,_,cc,he,⟨by have:=iT outs aF;omega,ho.row.2.2.2⟩,hb⟩
   have CJ3:Hid (∀ W,aI w W w.heap.size (w.heap.size+1) 27 (iaC st it a2 n2 c2 a3 n3 c3 a4 n4 c4 a5 n5 c5) (iaC su iu b2 m2 d2 b3 m3 d3 b4 m4 d4 b5 m5 d5)→Calls Tryz.prog 68 #[.slice a4 n4 c4,.slice b4 m4 d4] W fun e w'=>∃ ad n cc,e=.returned (.slice ad n cc)∧(n≤2097152∧Row w' ad n (aT ah aG))∧Below W.heap.size W w'):=fun W hW =>
    (gG a4 b4 n4 c4 m4 d4 ah aG W (R4.out.below hW.1) (Q4.out.below hW.1) (by omega) (by omega)).mono fun e w' h=>by
     obtain ⟨v,he,ho,hb⟩:=h
     obtain ⟨ad,cc,rfl⟩:=ho.form
     exact ⟨ad,_,cc,he,⟨by have:=iT ah aG;omega,ho.row.2.2.2⟩,hb⟩
   have CL1:Hid (∀ W ad n cc,(n≤2097152∧Row W ad n (aT ins jns))→Row W sa sn sh→Calls Tryz.prog 67 #[.slice ad n cc,.slice sa sn sc] W fun e w'=>∃ xa xn xc,e=.returned (.slice xa xn xc)∧aj w' W.heap.size (.slice xa xn xc) (dK (aT ins jns) sh).length (dK (aT ins jns) sh)∧Below W.heap.size W w'):=fun W ad n cc h1 h2=>(uM ad sa n cc sn sc (aT ins jns) sh W h1.2 h2 (by omega) (by omega)).mono fun e w' h=>by
     obtain ⟨v,he,ho,hb⟩:=h
     obtain ⟨xa,xc,rfl⟩:=ho.form
     exact ⟨xa,_,xc,he,ho,hb⟩
   have CL2:Hid (∀ W ad n cc,(n≤2097152∧Row W ad n (aT outs aF))→Row W sa sn sh→Calls Tryz.prog 67 #[.slice ad n cc,.slice sa sn sc] W fun e w'=>∃ xa xn xc,e=.returned (.slice xa xn xc)∧aj w' W.heap.size (.slice xa xn xc) (dK (aT outs aF) sh).length (dK (aT outs aF) sh)∧Below W.heap.size W w'):=fun W ad n cc h1 h2=>(uM ad sa n cc sn sc (aT outs aF) sh W h1.2 h2 (by omega) (by omega)).mono fun e w' h=>by
     obtain ⟨v,he,ho,hb⟩:=h
     obtain ⟨xa,xc,rfl⟩:=ho.form
     exact ⟨xa,_,xc,he,ho,hb⟩
   have CL3:Hid (∀ W ad n cc,(n≤2097152∧Row W ad n (aT ah aG))→Row W sa sn sh→Calls Tryz.prog 68 #[.slice ad n cc,.slice sa sn sc] W fun e w'=>∃ xa xn xc,e=.returned (.slice xa xn xc)∧aj w' W.heap.size (.slice xa xn xc) (aT (aT ah aG) sh).length (aT (aT ah aG) sh)∧Below W.heap.size W w'):=fun W ad n cc h1 h2=>(gG ad sa n cc sn sc (aT ah aG) sh W h1.2 h2 (by omega) (by omega)).mono fun e w' h=>by
     obtain ⟨v,he,ho,hb⟩:=h
     obtain ⟨xa,xc,rfl⟩:=ho.form
     exact ⟨xa,_,xc,he,ho,hb⟩
   have T8:=Lib.hid T6.out.drew
   have P8:Hid (aj w6.drew w.heap.size (.slice sa sn sc) sn sh):=P6.out
   have O8:Hid (OwnsS 77 w6.drew (w.heap.size+3) (.slice a5v l5 c5v) l5 (nO LL)):=O6.out
   have SD8:=S6.out.drew
   clear ho hg hrow SE T5 O5 P5 S6 T6 O6 P6 zM
   go_wp2_with fail
   refine wp_region_held_drew (S:=fun w'=>aI w w' w.heap.size (w.heap.size+1) 27 (iaC st it a2 n2 c2 a3 n3 c3 a4 n4 c4 a5 n5 c5) (iaC su iu b2 m2 d2 b3 m3 d3 b4 m4 d4 b5 m5 d5)) (by kernel_rfl) SD8 (fun hHeld=>?_)
   change wpAnyH _ _ _ _ _ 37 (Array.replicate 37 false) _ _
   refine ag 0 32 (.pointer (some ⟨w.heap.size,0,none⟩)) (fuel:=36) rfl rfl (by kernel_rfl) (fun _ _ _ h=>h) (by rfl) (fun w hSw=>by go_simp) hHeld ?_
   simp only [Act.put,sI0,sI1,sI2]
   refine ag 1 33 (.int .i64 st) (fuel:=35) rfl rfl (by kernel_rfl) (fun _ _ _ h=>h) (by rfl) (fun w hSw=>by have m:=hSw.2.1.cell (j:=0) (u:=.int .i64 st) rfl;go_simp) hHeld ?_
   simp only [Act.put,sI0,sI1,sI2]
   refine ag 2 34 (.pointer (some ⟨w.heap.size+1,0,none⟩)) (fuel:=34) rfl rfl (by kernel_rfl) (fun _ _ _ h=>h) (by rfl) (fun w hSw=>by go_simp) hHeld ?_
   simp only [Act.put,sI0,sI1,sI2]
   refine ag 3 35 (.int .i64 su) (fuel:=33) rfl rfl (by kernel_rfl) (fun _ _ _ h=>h) (by rfl) (fun w hSw=>by have m:=hSw.2.2.cell (j:=0) (u:=.int .i64 su) rfl;go_simp) hHeld ?_
   simp only [Act.put,sI0,sI1,sI2]
   refine ag 4 36 (.int .i64 (st*su)) (fuel:=32) rfl rfl (by kernel_rfl) (fun _ _ _ h=>h) (by rfl) (fun w hSw=>by go_simp;exact Go.IntWalk.i64_in _ (by have h1:=HMUL;omega)) hHeld ?_
   simp only [Act.put,sI0,sI1,sI2]
   refine aX 5 37 (.agg #[.int .i64 su,.int .i64 iu,.slice b2 m2 d2,.slice b3 m3 d3,.slice b4 m4 d4,.slice b5 m5 d5]) (fuel:=31) rfl rfl (by kernel_rfl) (fun _ _ _ h=>h) (yieldsIf_load_mid (by rfl) _ _ rfl (w.heap.size+1) 0 rfl (iaC su iu b2 m2 d2 b3 m3 d3 b4 m4 d4 b5 m5 d5).toList _ (fun w hw=>hw.2.2.range) Tryz.underlying27 rfl (by kernel_rfl)) hHeld ?_
   simp only [Act.put,sI0,sI1,sI2]
   refine ag 6 38 (.pointer (some ⟨w.heap.size,1,none⟩)) (fuel:=30) rfl rfl (by kernel_rfl) (fun _ _ _ h=>h) (by rfl) (fun w hSw=>by go_simp) hHeld ?_
   simp only [Act.put,sI0,sI1,sI2]
   refine ag 7 39 (.int .i64 it) (fuel:=29) rfl rfl (by kernel_rfl) (fun _ _ _ h=>h) (by rfl) (fun w hSw=>by have m:=hSw.2.1.cell (j:=1) (u:=.int .i64 it) rfl;go_simp) hHeld ?_
   simp only [Act.put,sI0,sI1,sI2]
   refine ag 8 40 (.pointer (some ⟨w.heap.size+1,1,none⟩)) (fuel:=28) rfl rfl (by kernel_rfl) (fun _ _ _ h=>h) (by rfl) (fun w hSw=>by go_simp) hHeld ?_
   simp only [Act.put,sI0,sI1,sI2]
   refine ag 9 41 (.int .i64 iu) (fuel:=27) rfl rfl (by kernel_rfl) (fun _ _ _ h=>h) (by rfl) (fun w hSw=>by have m:=hSw.2.2.cell (j:=1) (u:=.int .i64 iu) rfl;go_simp) hHeld ?_
   simp only [Act.put,sI0,sI1,sI2]
   refine ag 10 42 (.agg #[.int .i64 it,.int .i64 iu]) (fuel:=26) rfl rfl (by kernel_rfl) (fun _ _ _ h=>h) (by rfl) (fun w hSw=>by go_simp) hHeld ?_
   simp only [Act.put,sI0,sI1,sI2]
   refine ag 12 44 (.pointer (some ⟨w.heap.size,2,none⟩)) (fuel:=25) rfl rfl (by kernel_rfl) (fun _ _ _ h=>h) (by rfl) (fun w hSw=>by go_simp) hHeld ?_
   simp only [Act.put,sI0,sI1,sI2]
   refine ag 13 45 (.slice a2 n2 c2) (fuel:=24) rfl rfl (by kernel_rfl) (fun _ _ _ h=>h) (by rfl) (fun w hSw=>by have m:=hSw.2.1.cell (j:=2) (u:=.slice a2 n2 c2) rfl;go_simp) hHeld ?_
   simp only [Act.put,sI0,sI1,sI2]
   refine ag 14 46 (.pointer (some ⟨w.heap.size+1,2,none⟩)) (fuel:=23) rfl rfl (by kernel_rfl) (fun _ _ _ h=>h) (by rfl) (fun w hSw=>by go_simp) hHeld ?_
   simp only [Act.put,sI0,sI1,sI2]
   refine ag 15 47 (.slice b2 m2 d2) (fuel:=22) rfl rfl (by kernel_rfl) (fun _ _ _ h=>h) (by rfl) (fun w hSw=>by have m:=hSw.2.2.cell (j:=2) (u:=.slice b2 m2 d2) rfl;go_simp) hHeld ?_
   simp only [Act.put,sI0,sI1,sI2]
   refine ag 17 49 (.slice sa sn sc) (fuel:=21) rfl rfl (by kernel_rfl) (fun _ _ _ h=>h) (by rfl) (fun w hSw=>by go_simp) hHeld ?_
   simp only [Act.put,sI0,sI1,sI2]
   refine ag 19 51 (.pointer (some ⟨w.heap.size,3,none⟩)) (fuel:=20) rfl rfl (by kernel_rfl) (fun _ _ _ h=>h) (by rfl) (fun w hSw=>by go_simp) hHeld ?_
   simp only [Act.put,sI0,sI1,sI2]
   refine ag 20 52 (.slice a3 n3 c3) (fuel:=19) rfl rfl (by kernel_rfl) (fun _ _ _ h=>h) (by rfl) (fun w hSw=>by have m:=hSw.2.1.cell (j:=3) (u:=.slice a3 n3 c3) rfl;go_simp) hHeld ?_
   simp only [Act.put,sI0,sI1,sI2]
   refine ag 21 53 (.pointer (some ⟨w.heap.size+1,3,none⟩)) (fuel:=18) rfl rfl (by kernel_rfl) (fun _ _ _ h=>h) (by rfl) (fun w hSw=>by go_simp) hHeld ?_
   simp only [Act.put,sI0,sI1,sI2]
   refine ag 22 54 (.slice b3 m3 d3) (fuel:=17) rfl rfl (by kernel_rfl) (fun _ _ _ h=>h) (by rfl) (fun w hSw=>by have m:=hSw.2.2.cell (j:=3) (u:=.slice b3 m3 d3) rfl;go_simp) hHeld ?_
   simp only [Act.put,sI0,sI1,sI2]
   refine ag 24 56 (.slice sa sn sc) (fuel:=16) rfl rfl (by kernel_rfl) (fun _ _ _ h=>h) (by rfl) (fun w hSw=>by go_simp) hHeld ?_
   simp only [Act.put,sI0,sI1,sI2]
   refine ag 26 58 (.pointer (some ⟨w.heap.size,4,none⟩)) (fuel:=15) rfl rfl (by kernel_rfl) (fun _ _ _ h=>h) (by rfl) (fun w hSw=>by go_simp) hHeld ?_
   simp only [Act.put,sI0,sI1,sI2]
   refine ag 27 59 (.slice a4 n4 c4) (fuel:=14) rfl rfl (by kernel_rfl) (fun _ _ _ h=>h) (by rfl) (fun w hSw=>by have m:=hSw.2.1.cell (j:=4) (u:=.slice a4 n4 c4) rfl;go_simp) hHeld ?_
   simp only [Act.put,sI0,sI1,sI2]
   refine ag 28 60 (.pointer (some ⟨w.heap.size+1,4,none⟩)) (fuel:=13) rfl rfl (by kernel_rfl) (fun _ _ _ h=>h) (by rfl) (fun w hSw=>by go_simp) hHeld ?_
   simp only [Act.put,sI0,sI1,sI2]
   refine ag 29 61 (.slice b4 m4 d4) (fuel:=12) rfl rfl (by kernel_rfl) (fun _ _ _ h=>h) (by rfl) (fun w hSw=>by have m:=hSw.2.2.cell (j:=4) (u:=.slice b4 m4 d4) rfl;go_simp) hHeld ?_
   simp only [Act.put,sI0,sI1,sI2]
   refine ag 31 63 (.slice sa sn sc) (fuel:=11) rfl rfl (by kernel_rfl) (fun _ _ _ h=>h) (by rfl) (fun w hSw=>by go_simp) hHeld ?_
   simp only [Act.put,sI0,sI1,sI2]
   refine ag 33 65 (.slice a5v l5 c5v) (fuel:=10) rfl rfl (by kernel_rfl) (fun _ _ _ h=>h) (by rfl) (fun w hSw=>by go_simp) hHeld ?_
   simp only [Act.put,sI0,sI1,sI2]
   refine wpAnyH_ready (rs:=[11]) (fuel:=9) (by kernel_rfl) (by simp) ?_
   refine AllReadyH.cons rfl (fun K hK=>?_) AllReadyH.nil
   go_simp
   refine (CST.out _).mono ?_
   rintro e w9 ⟨rfl,hb⟩
   have hz9:w6.heap.size≤w9.heap.size:=hb.size
   have T9:=Lib.hid (T8.out.below hb)
   have P9:=Lib.hid (P8.out.below hb)
   have O9:=Lib.hid (O8.out.below hb)
   have hS9:=hHeld.below hb
   clear hb  T8 P8 O8
   go_wp2_with fail
   refine hK.out _ _ hS9 (fun hHeld=>?_)
   clear hK K
   refine wpAnyH_ready (rs:=[16]) (fuel:=8) (by kernel_rfl) (by simp) ?_
   refine AllReadyH.cons rfl (fun K hK=>?_) AllReadyH.nil
   go_simp
   refine (CJ1.out _ hHeld).mono ?_
   rintro e w10 ⟨j1a,j1n,j1c,rfl,ho,hb⟩
   have hz10:=hb.size
   have T10:=Lib.hid (T9.out.below hb)
   have P10:=Lib.hid (P9.out.below hb)
   have O10:=Lib.hid (O9.out.below hb)
   have hlow:=T10.out.lt
   have J10:=Lib.hid ho
   have BI:=hHeld.below hb
   clear hb ho T9 P9 O9
   go_wp2_with fail
   refine hK.out _ _ BI (fun hHeld=>?_)
   clear hK K
   refine wpAnyH_ready (rs:=[18]) (fuel:=7) (by kernel_rfl) (by simp) ?_
   refine AllReadyH.cons rfl (fun K hK=>?_) AllReadyH.nil
   go_simp
   refine (CL1.out _ _ _ _ J10.out P10.out.row.2.2.2).mono ?_
   rintro e w11 ⟨x2a,x2n,x2c,rfl,ho,hb⟩
   have hz11:=hb.size
   have T11:=Lib.hid (T10.out.below hb)
   have P11:=Lib.hid (P10.out.below hb)
   have O11:=Lib.hid (O10.out.below hb)
   have X211:=Lib.hid ho
   have bdX2:=Lib.hid ho.lt
   have rC:=hHeld.below hb
   clear hb ho T10 P10 O10
   go_wp2_with fail
   refine hK.out _ _ rC (fun hHeld=>?_)
   clear hK K
   refine wpAnyH_ready (rs:=[23]) (fuel:=6) (by kernel_rfl) (by simp) ?_
   refine AllReadyH.cons rfl (fun K hK=>?_) AllReadyH.nil
   go_simp
   refine (CJ2.out _ hHeld).mono ?_
   rintro e w12 ⟨j2a,j2n,j2c,rfl,ho,hb⟩
   have hz12:=hb.size
   have T12:=Lib.hid (T11.out.below hb)
   have P12:=Lib.hid (P11.out.below hb)
   have O12:=Lib.hid (O11.out.below hb)
   have X212:=Lib.hid (X211.out.below hb)
   have J12:=Lib.hid ho
   have rD:=hHeld.below hb
   clear hb ho T11 P11 O11 X211
   go_wp2_with fail
   refine hK.out _ _ rD (fun hHeld=>?_)
   clear hK K
   refine wpAnyH_ready (rs:=[25]) (fuel:=5) (by kernel_rfl) (by simp) ?_
   refine AllReadyH.cons rfl (fun K hK=>?_) AllReadyH.nil
   go_simp
   refine (CL2.out _ _ _ _ J12.out P12.out.row.2.2.2).mono ?_
   rintro e w13 ⟨x3a,x3n,x3c,rfl,ho,hb⟩
   have hz13:=hb.size
   have T13:=Lib.hid (T12.out.below hb)
   have P13:=Lib.hid (P12.out.below hb)
   have O13:=Lib.hid (O12.out.below hb)
   have X213:=Lib.hid (X212.out.below hb)
   have X313:=Lib.hid ho
   have bdX3:=Lib.hid ho.lt
   have rE:=hHeld.below hb
   clear hb ho T12 P12 O12 X212
   go_wp2_with fail
   refine hK.out _ _ rE (fun hHeld=>?_)
   clear hK K
   refine wpAnyH_ready (rs:=[30]) (fuel:=4) (by kernel_rfl) (by simp) ?_
   refine AllReadyH.cons rfl (fun K hK=>?_) AllReadyH.nil
   go_simp
   refine (CJ3.out _ hHeld).mono ?_
   rintro e w14 ⟨j3a,j3n,j3c,rfl,ho,hb⟩
   have hz14:=hb.size
   have T14:=Lib.hid (T13.out.below hb)
   have P14:=Lib.hid (P13.out.below hb)
   have O14:=Lib.hid (O13.out.below hb)
   have X214:=Lib.hid (X213.out.below hb)
   have X314:=Lib.hid (X313.out.below hb)
   have J14:=Lib.hid ho
   have zN:=hHeld.below hb
   clear hb ho T13 P13 O13 X213 X313
   go_wp2_with fail
   refine hK.out _ _ zN (fun hHeld=>?_)
   clear hK K
   refine wpAnyH_ready (rs:=[32]) (fuel:=3) (by kernel_rfl) (by simp) ?_
   refine AllReadyH.cons rfl (fun K hK=>?_) AllReadyH.nil
   go_simp
   refine (CL3.out _ _ _ _ J14.out P14.out.row.2.2.2).mono ?_
   rintro e w15 ⟨x4a,x4n,x4c,rfl,ho,hb⟩
   have hz15:=hb.size
   have T15:=Lib.hid (T14.out.below hb)
   have P15:=Lib.hid (P14.out.below hb)
   have O15:=Lib.hid (O14.out.below hb)
   have X215:=Lib.hid (X214.out.below hb)
   have X315:=Lib.hid (X314.out.below hb)
   have X415:=Lib.hid ho
   have bdX4:=Lib.hid ho.lt
   have hS15:=hHeld.below hb
   clear hb ho T14 P14 O14 X214 X314
   have hone:(#[.int .i64 (st*su),.int .i64 ini,.slice x2a x2n x2c,.slice x3a x3n x3c,.slice x4a x4n x4c,.slice a5v l5 c5v]:Array Value).all (·.oneCell')=true:=by
    exact di _ _ _ _ _ _ _ _ _ _ _ _ _ _
   have t9:Hid (w15.there (w.heap.size+2) 0 6):=T15.out.there rfl
   have g9:=Lib.hid (aA (w.heap.size+2) [.int .i64 (st*su),.int .i64 ini,.slice x2a x2n x2c,.slice x3a x3n x3c,.slice x4a x4n x4c,.slice a5v l5 c5v] 0 w15)
   have rg9:Hid ((w15.setCells (w.heap.size+2) 0 [.int .i64 (st*su),.int .i64 ini,.slice x2a x2n x2c,.slice x3a x3n x3c,.slice x4a x4n x4c,.slice a5v l5 c5v]).rangeAt (w.heap.size+2) 0 [.int .i64 (st*su),.int .i64 ini,.slice x2a x2n x2c,.slice x3a x3n x3c,.slice x4a x4n x4c,.slice a5v l5 c5v]):=World.rangeAt_setCells_same w15 (w.heap.size+2) 0 [.int .i64 (st*su),.int .i64 ini,.slice x2a x2n x2c,.slice x3a x3n x3c,.slice x4a x4n x4c,.slice a5v l5 c5v] (by simpa using t9.out)
   go_wp2_with fail
   refine hK.out _ _ hS15 (fun hHeld=>?_)
   clear hK K
   refine ag 34 66 (.agg #[.int .i64 (st*su),.int .i64 ini,.slice x2a x2n x2c,.slice x3a x3n x3c,.slice x4a x4n x4c,.slice a5v l5 c5v]) (fuel:=2) rfl rfl (by kernel_rfl) (fun _ _ _ h=>h) (by rfl) (fun w hSw=>by go_simp) hHeld ?_
   simp only [Act.put,sI0,sI1,sI2]
   refine wpAnyH_ready (rs:=[35]) (fuel:=1) (by kernel_rfl) (by simp) ?_
   refine AllReadyH.cons rfl (fun K hK=>?_) AllReadyH.nil
   rw [if_pos (by rfl)]
   refine wp_store_mid _ _ _ rfl (w.heap.size+2) 0 #[.int .i64 (st*su),.int .i64 ini,.slice x2a x2n x2c,.slice x3a x3n x3c,.slice x4a x4n x4c,.slice a5v l5 c5v] rfl rfl t9.out (by kernel_rfl) hone ?_
   refine hK.out _ _ ⟨hHeld.1.grown g9.out hHeld.1.size (fun q hq=>by have h1:=Option.some.inj hq;omega),hHeld.2.1.grown g9.out (fun e=>by have h1:=Option.some.inj e;omega),hHeld.2.2.grown g9.out (fun e=>by have h1:=Option.some.inj e;omega)⟩ (fun hHeld=>?_)
   clear hK K
   refine ag 36 5 (.bool true) (fuel:=0) rfl rfl (by kernel_rfl) (fun _ _ _ h=>h) (by rfl) (fun w hSw=>by go_simp) hHeld ?_
   simp only [Act.put,sI0]
   refine wpAnyH_done (by kernel_rfl) ?_ _
   have rg:=rg9.out
   have HC0:=rg 0 _ rfl
   have HC1:=rg 1 _ rfl
   have HC2:=rg 2 _ rfl
   have HC3:=rg 3 _ rfl
   have HC4:=rg 4 _ rfl
   have HC5:=rg 5 _ rfl
   simp only [Nat.zero_add] at HC0 HC1 HC2 HC3 HC4 HC5
   have y2:=X215.out.keep g9.out (fun k hk e=>by have h1:=(bdX2.out k hk).1;have h2:=Option.some.inj e;have h3:=hlow;omega)
   have y3:=X315.out.keep g9.out (fun k hk e=>by have h1:=(bdX3.out k hk).1;have h2:=Option.some.inj e;have h3:=hlow;omega)
   have y4:=X415.out.keep g9.out (fun k hk e=>by have h1:=(bdX4.out k hk).1;have h2:=Option.some.inj e;have h3:=hlow;omega)
   have y5:=O15.out.keep g9.out (fun k hk e=>by have h1:=(bO.out k hk).1;have h2:=Option.some.inj e;omega)
   go_wp2_with fail
   refine bodyPost_ret (v:=.tuple #[.agg #[.int .i64 (st*su),.int .i64 ini,.slice x2a x2n x2c,.slice x3a x3n x3c,.slice x4a x4n x4c,.slice a5v l5 c5v],.bool true]) ?_ rfl ⟨.agg #[.int .i64 (st*su),.int .i64 ini,.slice x2a x2n x2c,.slice x3a x3n x3c,.slice x4a x4n x4c,.slice a5v l5 c5v],rfl,?_,hHeld.1⟩
   ·simp [results,Tryz.results16,go_sem,HC0,HC1,HC2,HC3,HC4,HC5]
   ·rw [HIT.out]
    refine ⟨_,_,_,_,rfl,y2.mono (by omega),y3.mono (by omega),y4.mono (by omega),?_,?_,?_,?_⟩
    ·have e:=y5.length
     rw [e]
     exact y5.mono (by omega)
    ·intro b hb
     have h2:=bdX2.out b hb
     exact ⟨fun h=>by have:=bdX3.out b h;omega,fun h=>by have:=bdX4.out b h;omega,fun h=>by have:=bO.out b h;omega⟩
    ·intro b hb
     have h2:=bdX3.out b hb
     exact ⟨fun h=>by have:=bdX4.out b h;omega,fun h=>by have:=bO.out b h;omega⟩
    ·intro b hb h
     have h2:=bdX4.out b hb
     have:=bO.out b h
     omega
  ·have hd:decide ((l5:Int) > 400)=true:=by simp;omega
   have HOF:ok=false:=by rw [HB_.out];simp [hlen]
   subst HOF
   have THX:Hid (w5.there (w.heap.size+2) 0 6):=T5.out.there rfl
   have RGX:Hid ((w5.setCells (w.heap.size+2) 0 [.int .i64 0,.int .i64 0,.slice none 0 0,.slice none 0 0,.slice none 0 0,.slice none 0 0]).rangeAt (w.heap.size+2) 0 [.int .i64 0,.int .i64 0,.slice none 0 0,.slice none 0 0,.slice none 0 0,.slice none 0 0]):=World.rangeAt_setCells_same w5 (w.heap.size+2) 0 [.int .i64 0,.int .i64 0,.slice none 0 0,.slice none 0 0,.slice none 0 0,.slice none 0 0] (by simpa using THX.out)
   have GX:=Lib.hid (aA (w.heap.size+2) [.int .i64 0,.int .i64 0,.slice none 0 0,.slice none 0 0,.slice none 0 0,.slice none 0 0] 0 w5)
   have BX:Hid (Below w.heap.size w (w5.setCells (w.heap.size+2) 0 [.int .i64 0,.int .i64 0,.slice none 0 0,.slice none 0 0,.slice none 0 0,.slice none 0 0])):=SE.out.1.grown GX.out SE.out.1.size (fun q hq=>by have h1:=Option.some.inj hq;omega)
   have HIN:Hid (I=ja):=HI.out
   go_wp2_with (refine wpList_store_mid rfl _ _ _ rfl (w.heap.size+2) 0 #[.int .i64 0,.int .i64 0,.slice none 0 0,.slice none 0 0,.slice none 0 0,.slice none 0 0] rfl rfl THX.out (by kernel_rfl) (di _ _ _ _ _ _ _ _ _ _ _ _ _ _) ?_)
   refine bodyPost_ret (v:=.tuple #[.agg #[.int .i64 0,.int .i64 0,.slice none 0 0,.slice none 0 0,.slice none 0 0,.slice none 0 0],.bool false]) ?_ rfl ⟨.agg #[.int .i64 0,.int .i64 0,.slice none 0 0,.slice none 0 0,.slice none 0 0,.slice none 0 0],rfl,by rw [HIN.out];exact wW _ _,BX.out⟩
   have HC0:=RGX.out 0 _ rfl
   have HC1:=RGX.out 1 _ rfl
   have HC2:=RGX.out 2 _ rfl
   have HC3:=RGX.out 3 _ rfl
   have HC4:=RGX.out 4 _ rfl
   have HC5:=RGX.out 5 _ rfl
   simp only [Nat.zero_add] at HC0 HC1 HC2 HC3 HC4 HC5
   simp [results,Tryz.results16,go_sem,HC0,HC1,HC2,HC3,HC4,HC5]
end Go.Proofs.YtnglogkkkpegnaaGreat
