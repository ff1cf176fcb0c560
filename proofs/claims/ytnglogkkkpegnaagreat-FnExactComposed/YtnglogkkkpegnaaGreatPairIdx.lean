import Derived.Test.YtnglogkkkpegnaaGreatPairMap
import Derived.Test.YtnglogkkkpegnaaGreatFast
import Derived.Test.YtnglogkkkpegnaaGreatPairRows
import Derived.Test.YtnglogkkkpegnaaGreatClashList
import Derived.Test.YtnglogkkkpegnaaGreatTwo
import Derived.Test.YtnglogkkkpegnaaGreatProdSorted
import Derived.Test.YtnglogkkkpegnaaGreatClashMath
import Derived.Test.YtnglogkkkpegnaaGreatRowOf
import Derived.Test.YtnglogkkkpegnaaGreatMarkIa2
import Derived.Test.YtnglogkkkpegnaaGreatSetHas
import Derived.WalkMore
import Derived.Test.YtnglogkkkpegnaaGreatShared
import Derived.Maps.AppendAt
set_option maxHeartbeats 6400000
set_option maxRecDepth 20000
namespace Go.Proofs.YtnglogkkkpegnaaGreat
open Go.RowKit
theorem Hq (a:Option Addr) (n c:Nat) (x0 x1:Int) (xs:List Pr) (w:World) (h:wI w a n xs) (hn:n≤1099511627776) :
  Calls Tryz.prog 204 #[.slice a n c,.agg #[.int .i64 x0,.int .i64 x1]] w fun e w'=>∃ i:Int,e=.returned (.int .i64 i)∧(0≤i↔(x0,x1)∈xs)∧Below w.heap.size w w':=by
 have HL:=Lib.hid h.1
 have HR:=Lib.hid h.2
 clear h
 have b0:Hid (Below w.heap.size w (w.alloc (.cells #[.int .i64 x0,.int .i64 x1] 84))):=(Below.refl _ _).alloc (Nat.le_refl _) _
 have v0:Hid (ae (w.alloc (.cells #[.int .i64 x0,.int .i64 x1] 84)) w.heap.size #[.int .i64 x0,.int .i64 x1] 84):=ae.new w _ _ rfl
 go_enter Tryz.func204,Tryz.ntmps204
 go_wp2_with fail
 go_loopw [8] (fun i wr=>∃ k:Nat,k≤n∧i=.int .i64 k∧Hid (¬ (x0,x1)∈xs.take k)∧Hid (Below w.heap.size w wr∧ae wr w.heap.size #[.int .i64 x0,.int .i64 x1] 84)) (fun i _=>n - (intOf i).toNat)
 case atStart=>exact ⟨0,Nat.zero_le _,rfl,by unfold Hid;simp,⟨b0.out,v0.out⟩⟩
 case round =>
  obtain ⟨k,hk,rfl,HT,HS⟩:=hrel
  clear b0 v0
  by_cases hlt:k<n
  ·obtain ⟨b,off,rfl,hb,hcell⟩:=HR.out (by omega)
   have hkx:k<xs.length:=by rw [HL.out];exact hlt
   obtain ⟨⟨y0,y1⟩,hy⟩:∃ y,y=xs[k]:=⟨_,rfl⟩
   obtain ⟨c0,c1⟩:=hcell k xs[k] (List.getElem?_eq_getElem hkx)
   rw [← hy] at c0 c1
   simp only at c0 c1
   have HRG:Hid (∀ W,Below w.heap.size w W→W.rangeAt b (off+k*2) [.int .i64 y0,.int .i64 y1]):=fun W hW j v hv=>by
    match j,hv with
    | 0,hv =>
     simp at hv
     subst hv
     exact (hW.cell (p:=⟨b,off+k*2,none⟩) hb).trans c0
    | 1,hv =>
     simp at hv
     subst hv
     exact (hW.cell (p:=⟨b,off+k*2+1,none⟩) hb).trans c1
    | j+2,hv=>simp at hv
   have HY:=Lib.hid hy
   clear hcell c0 c1 hy
   by_cases he:x0=y0∧x1=y1
   ·have HIN:Hid ((x0,x1)∈xs):=by
     unfold Hid
     rw [he.1,he.2,HY.out]
     exact List.getElem_mem hkx
    obtain ⟨rfl,rfl⟩:=he
    go_wp2_with fail
    have SD:Below w.heap.size w wr.drew∧ae wr.drew w.heap.size #[.int .i64 x0,.int .i64 x1] 84:=⟨HS.out.1.drew,HS.out.2⟩
    refine fK (S:=fun w'=>Below w.heap.size w w'∧ae w' w.heap.size #[.int .i64 x0,.int .i64 x1] 84) 6 (by kernel_rfl) (by kernel_rfl) (by kernel_rfl) SD (fun hHeld=>?_)
    refine dN 0 11 (.agg #[.int .i64 x0,.int .i64 x1]) (fuel:=5) rfl rfl (by kernel_rfl) (fun _ _ _ h=>h) (yieldsIf_load_mid (by rfl) _ _ rfl (w.heap.size) 0 rfl #[.int .i64 x0,.int .i64 x1].toList _ (fun w hw=>hw.2.range) Tryz.underlying84 rfl (by kernel_rfl)) hHeld (tf 1 6) (by kernel_rfl) (fun K hK=>?_)
    go_big_move
    refine hK.out _ ?_
    clear hK K
    refine aW 1 12 (.slice (some ⟨b,off,none⟩) n c) (.tmp 0) (fuel:=4) rfl rfl (by kernel_rfl) (fun _ _ _ h=>h) (by kernel_rfl) (by kernel_rfl) (by first|exact Or.inl rfl|exact Or.inr rfl) hHeld (tf 3 6) (by kernel_rfl) (fun K hK=>?_)
    go_big_move
    refine hK.out _ ?_
    clear hK K
    refine aW 2 13 (.int .i64 (k:Int)) (.tmp 5) (fuel:=3) rfl rfl (by kernel_rfl) (fun _ _ _ h=>h) (by kernel_rfl) (by kernel_rfl) (by first|exact Or.inl rfl|exact Or.inr rfl) hHeld (tf 7 6) (by kernel_rfl) (fun K hK=>?_)
    go_big_move
    refine hK.out _ ?_
    clear hK K
    refine ku 3 14 (.pointer (some ⟨b,off+k*2,none⟩)) (.tmp 12) (.slice (some ⟨b,off,none⟩) n c) (.tmp 13) (.int .i64 (k:Int)) (fuel:=2) rfl rfl (by kernel_rfl) (fun _ _ _ h=>h) (by kernel_rfl) (by kernel_rfl) (by kernel_rfl) (fun ρ hr0 hr1 _ w hSw=>by have h1:(0:Int)≤(k:Int):=(by omega);have h2:(k:Int)<(n:Int):=(by omega);simp [go_sem,hr0,hr1,h1,h2]) hHeld (tf 15 6) (by kernel_rfl) (fun K hK=>?_)
    go_big_move
    refine hK.out _ ?_
    clear hK K
    refine dN 4 15 (.agg #[.int .i64 x0,.int .i64 x1]) (fuel:=1) rfl rfl (by kernel_rfl) (fun _ _ _ h=>h) (yieldsIf_load_mid (by rfl) _ _ rfl (b) (off+k*2) rfl [.int .i64 x0,.int .i64 x1] _ (fun w hw=>HRG.out w hw.1) Tryz.underlying84 rfl (by kernel_rfl)) hHeld (tf 31 6) (by kernel_rfl) (fun K hK=>?_)
    go_big_move
    refine hK.out _ ?_
    clear hK K
    refine ku 5 16 (.bool true) (.tmp 11) (.agg #[.int .i64 x0,.int .i64 x1]) (.tmp 15) (.agg #[.int .i64 x0,.int .i64 x1]) (fuel:=0) rfl rfl (by kernel_rfl) (fun _ _ _ h=>h) (by kernel_rfl) (by kernel_rfl) (by kernel_rfl) (fun ρ hr0 hr1 _ w hSw=>by simp [go_sem,hr0,hr1]) hHeld (tf 63 6) (by kernel_rfl) (fun K hK=>?_)
    go_big_move
    refine hK.out _ ?_
    clear hK K
    refine wpAnyH_done (by kernel_rfl) ?_ _
    go_wp2_with fail
    go_ret
    exact ⟨_,rfl,⟨fun _=>HIN.out,fun _=>by omega⟩,hHeld.1⟩
   ·have HEQ:Hid (x0=y0→¬ x1=y1):=fun e1 e2=>he ⟨e1,e2⟩
    have HT2:Hid (¬ (x0,x1)∈xs.take (k+1)):=by
     unfold Hid
     rw [List.take_succ_eq_append_getElem hkx,← HY.out]
     simp only [List.mem_append,List.mem_singleton,Prod.mk.injEq,not_or]
     exact ⟨HT.out,he⟩
    clear he
    go_wp2_with fail
    have SD:Below w.heap.size w wr.drew∧ae wr.drew w.heap.size #[.int .i64 x0,.int .i64 x1] 84:=⟨HS.out.1.drew,HS.out.2⟩
    refine fK (S:=fun w'=>Below w.heap.size w w'∧ae w' w.heap.size #[.int .i64 x0,.int .i64 x1] 84) 6 (by kernel_rfl) (by kernel_rfl) (by kernel_rfl) SD (fun hHeld=>?_)
    refine dN 0 11 (.agg #[.int .i64 x0,.int .i64 x1]) (fuel:=5) rfl rfl (by kernel_rfl) (fun _ _ _ h=>h) (yieldsIf_load_mid (by rfl) _ _ rfl (w.heap.size) 0 rfl #[.int .i64 x0,.int .i64 x1].toList _ (fun w hw=>hw.2.range) Tryz.underlying84 rfl (by kernel_rfl)) hHeld (tf 1 6) (by kernel_rfl) (fun K hK=>?_)
    go_big_move
    refine hK.out _ ?_
    clear hK K
    refine aW 1 12 (.slice (some ⟨b,off,none⟩) n c) (.tmp 0) (fuel:=4) rfl rfl (by kernel_rfl) (fun _ _ _ h=>h) (by kernel_rfl) (by kernel_rfl) (by first|exact Or.inl rfl|exact Or.inr rfl) hHeld (tf 3 6) (by kernel_rfl) (fun K hK=>?_)
    go_big_move
    refine hK.out _ ?_
    clear hK K
    refine aW 2 13 (.int .i64 (k:Int)) (.tmp 5) (fuel:=3) rfl rfl (by kernel_rfl) (fun _ _ _ h=>h) (by kernel_rfl) (by kernel_rfl) (by first|exact Or.inl rfl|exact Or.inr rfl) hHeld (tf 7 6) (by kernel_rfl) (fun K hK=>?_)
    go_big_move
    refine hK.out _ ?_
    clear hK K
    refine ku 3 14 (.pointer (some ⟨b,off+k*2,none⟩)) (.tmp 12) (.slice (some ⟨b,off,none⟩) n c) (.tmp 13) (.int .i64 (k:Int)) (fuel:=2) rfl rfl (by kernel_rfl) (fun _ _ _ h=>h) (by kernel_rfl) (by kernel_rfl) (by kernel_rfl) (fun ρ hr0 hr1 _ w hSw=>by have h1:(0:Int)≤(k:Int):=(by omega);have h2:(k:Int)<(n:Int):=(by omega);simp [go_sem,hr0,hr1,h1,h2]) hHeld (tf 15 6) (by kernel_rfl) (fun K hK=>?_)
    go_big_move
    refine hK.out _ ?_
    clear hK K
    refine dN 4 15 (.agg #[.int .i64 y0,.int .i64 y1]) (fuel:=1) rfl rfl (by kernel_rfl) (fun _ _ _ h=>h) (yieldsIf_load_mid (by rfl) _ _ rfl (b) (off+k*2) rfl [.int .i64 y0,.int .i64 y1] _ (fun w hw=>HRG.out w hw.1) Tryz.underlying84 rfl (by kernel_rfl)) hHeld (tf 31 6) (by kernel_rfl) (fun K hK=>?_)
    go_big_move
    refine hK.out _ ?_
    clear hK K
    refine ku 5 16 (.bool false) (.tmp 11) (.agg #[.int .i64 x0,.int .i64 x1]) (.tmp 15) (.agg #[.int .i64 y0,.int .i64 y1]) (fuel:=0) rfl rfl (by kernel_rfl) (fun _ _ _ h=>h) (by kernel_rfl) (by kernel_rfl) (by kernel_rfl) (fun ρ hr0 hr1 _ w hSw=>by simp [go_sem,hr0,hr1];intro e1 e2;exact absurd e2 (HEQ.out e1)) hHeld (tf 63 6) (by kernel_rfl) (fun K hK=>?_)
    go_big_move
    refine hK.out _ ?_
    clear hK K
    refine wpAnyH_done (by kernel_rfl) ?_ _
    have HS2:=Lib.hid hHeld
    clear hHeld SD HS HT
    go_wp2_with fail
    go_roundw
    case rel=>exact ⟨k+1,by omega,by go_num,HT2.out,HS2.out⟩
    case measure=>simp [intOf];omega
  ·have HN:Hid (¬ (x0,x1)∈xs):=by
    have:=HT.out
    rw [List.take_of_length_le (by rw [HL.out];omega)] at this
    exact this
   go_wp2_with fail
   go_ret
   exact ⟨-1,rfl,⟨fun h=>by omega,fun h=>(HN.out h).elim⟩,HS.out.1⟩
theorem CU (a:Option Addr) (n c:Nat) (x0 x1:Int) (xs:List Pr) (w:World) (h:wI w a n xs) (hn:n≤1099511627776) :
  Calls Tryz.prog 194 #[.slice a n c,.agg #[.int .i64 x0,.int .i64 x1]] w fun e w'=>e=.returned (.bool (decide ((x0,x1)∈xs)))∧Below w.heap.size w w':=by
 have HX:=Lib.hid h
 clear h
 have b0:Hid (Below w.heap.size w (w.alloc (.cells #[.int .i64 x0,.int .i64 x1] 84))):=(Below.refl _ _).alloc (Nat.le_refl _) _
 have v0:Hid (ae (w.alloc (.cells #[.int .i64 x0,.int .i64 x1] 84)) w.heap.size #[.int .i64 x0,.int .i64 x1] 84):=ae.new w _ _ rfl
 obtain ⟨q,hq⟩:∃ q,q=decide ((x0,x1)∈xs):=⟨_,rfl⟩
 rw [← hq]
 have HQ:=Lib.hid hq
 clear hq
 have c0:=v0.out.cell (j:=0) rfl
 have c1:=v0.out.cell (j:=1) rfl
 go_enter Tryz.func194,Tryz.ntmps194
 go_wp2_with fail
 clear c0 c1
 refine (Hq a n c x0 x1 xs _ (HX.out.below b0.out) hn).mono ?_
 rintro e w1 ⟨i,rfl,hi,hb⟩
 have HB:Hid (Below w.heap.size w w1):=b0.out.trans (hb.mono b0.out.size)
 have HI:Hid (decide (0≤i)=q):=by
  unfold Hid
  rw [HQ.out,decide_eq_decide]
  exact hi
 clear hi hb b0 v0 HX
 go_wp2_with fail
 go_ret
 exact ⟨aH (by rw [← HI.out]),HB.out⟩
open Go.RowKit
inductive qJ (nx:Pr→List Pr) (L:List Pr):Pr→Prop
 | start (x:Pr) (h:x∈L):qJ nx L x
 | step (x y:Pr) (h:qJ nx L x) (hy:y∈nx x):qJ nx L y
def kM (F:List Pr) (x:Pr):List Pr:=if decide (x∈F) then F else F++[x]
def gK (F L:List Pr):List Pr:=L.foldl kM F
theorem Hr (F L:List Pr) (x:Pr):gK F (L++[x])=kM (gK F L) x:=by simp [gK]
theorem CV {F:List Pr} {x:Pr} (h:F.Nodup):(kM F x).Nodup:=by
 unfold kM
 split
 ·exact h
 ·rename_i hx
  have hx':¬ x∈F:=by simpa using hx
  refine List.nodup_append.2 ⟨h,by simp,fun a ha b hb e=>?_⟩
  simp only [List.mem_singleton] at hb
  subst hb
  subst e
  exact hx' ha
theorem FO {F:List Pr} {x y:Pr}:y∈kM F x↔y∈F∨y=x:=by
 unfold kM
 split
 ·rename_i hx
  have hx':x∈F:=by simpa using hx
  exact ⟨.inl,fun h=>by
   rcases h with h|rfl
   ·exact h
   ·exact hx'⟩
 ·simp
theorem vK:∀ {L F:List Pr},F.Nodup→(gK F L).Nodup
 | [],_,h=>h
 | _ :: r,_,h=>vK (L:=r) (CV h)
theorem nz {y:Pr}:∀ {L F:List Pr},y∈gK F L↔y∈F∨y∈L
 | [],F=>by simp [gK]
 | z :: r,F=>by
  show y∈gK (kM F z) r↔_
  rw [nz,FO,List.mem_cons,or_assoc]
theorem xm:∀ (L F:List Pr),∃ E,gK F L=F++E
 | [],F=>⟨[],by simp [gK]⟩
 | z :: r,F=>by
  obtain ⟨E,hE⟩:=xm r (kM F z)
  have h1:gK F (z :: r)=gK (kM F z) r:=rfl
  rw [h1,hE]
  unfold kM
  split
  ·exact ⟨E,rfl⟩
  ·exact ⟨z :: E,by simp⟩
def kH (nx:Pr→List Pr) (L F:List Pr) (k:Nat):Prop :=
 F.Nodup∧(∀ x∈L,x∈F)∧(∀ y∈F,qJ nx L y)∧∀ j,j<k→∀ s,F[j]?=some s→∀ x∈nx s,x∈F
theorem kH.start (nx:Pr→List Pr) (L:List Pr):kH nx L (gK [] L) 0 :=
 ⟨vK List.nodup_nil,fun x hx=>nz.2 (Or.inr hx),fun y hy=>.start y (by simpa using nz.1 hy),fun j hj=>absurd hj (by omega)⟩
theorem kH.next {nx:Pr→List Pr} {L F:List Pr} {k:Nat} {s:Pr} (h:kH nx L F k) (hs:F[k]?=some s):kH nx L (gK F (nx s)) (k+1):=by
 obtain ⟨h1,h2,h3,h4⟩:=h
 have hsm:s∈F:=List.mem_of_getElem? hs
 refine ⟨vK h1,fun x hx=>nz.2 (Or.inl (h2 x hx)),fun y hy=>?_,fun j hj s' hs' x hx=>?_⟩
 ·rcases nz.1 hy with hy|hy
  ·exact h3 y hy
  ·exact .step s y (h3 s hsm) hy
 ·obtain ⟨E,hE⟩:=xm (nx s) F
  have hlt:k<F.length:=(List.getElem?_eq_some_iff.1 hs).1
  rw [hE,List.getElem?_append_left (by omega)] at hs'
  by_cases e:j=k
  ·subst e
   rw [hs] at hs'
   cases hs'
   exact nz.2 (Or.inr hx)
  ·exact nz.2 (Or.inl (h4 j (by omega) s' hs' x hx))
theorem kH.done {nx:Pr→List Pr} {L F:List Pr} (h:kH nx L F F.length) (x:Pr):x∈F↔qJ nx L x:=by
 obtain ⟨h1,h2,h3,h4⟩:=h
 refine ⟨h3 x,fun hx=>?_⟩
 induction hx with
 | start x hx=>exact h2 x hx
 | step x y _ hy ih =>
  obtain ⟨j,hj,e⟩:=List.getElem_of_mem ih
  exact h4 j hj x (by rw [List.getElem?_eq_getElem hj,e]) y hy
theorem zh (v:Value) (n base:Nat) (F:List Pr) (la:Option Addr) (ln lc:Nat) (L:List Pr) (w:World) (h:OwnsP w base v n F) (hn:n≤1048576) (hl:wI w la ln L) (hln:ln≤1048576) (hlow:∀ b off,la=some ⟨b,off,none⟩→0<ln→b<base) (hbase:base≤w.heap.size) :
  Calls Tryz.prog 170 #[v,.slice la ln lc] w fun e w'=>∃ v',e=.returned v'∧OwnsP w' base v' (gK F L).length (gK F L)∧Below base w w':=by
 have HF0:=Lib.hid h
 have HLR:=Lib.hid hl
 have HLW:=Lib.hid hlow
 clear h hl hlow
 obtain ⟨R,hR⟩:∃ R,R=gK F L:=⟨_,rfl⟩
 rw [← hR]
 have HR:=Lib.hid hR
 clear hR
 go_enter Tryz.func170,Tryz.ntmps170
 go_wp2_with fail
 go_loopw [0,9] (fun fd i wr=>∃ (k len:Nat) (v0:Value) (T:List Pr),k≤ln∧i=.int .i64 k∧v0=fd∧Hid (OwnsP wr base v0 len T)∧Hid (T=gK F (L.take k))∧len≤n+k∧Hid (Below base w wr)) (fun _ i _=>ln - (intOf i).toNat)
 case atStart=>exact ⟨0,n,_,F,Nat.zero_le _,rfl,rfl,HF0.out,rfl,by omega,Below.refl _ _⟩
 case round =>
  obtain ⟨k,len,v0,T,hk,rfl,rfl,HO,HT,hlen,HB⟩:=hrel
  by_cases hlt:k<ln
  ·obtain ⟨b,off,rfl,hb,hcell⟩:=HLR.out.2 (by omega)
   have hbb:=HLW.out b off rfl (by omega)
   have hkx:k<L.length:=by rw [HLR.out.1];exact hlt
   obtain ⟨⟨x0,x1⟩,hx⟩:∃ x,x=L[k]:=⟨_,rfl⟩
   obtain ⟨c0,c1⟩:=hcell k L[k] (List.getElem?_eq_getElem hkx)
   rw [← hx] at c0 c1
   have g0:=(HB.out.cell (p:=⟨b,off+k*2,none⟩) hbb).trans c0
   have g1:=(HB.out.cell (p:=⟨b,off+k*2+1,none⟩) hbb).trans c1
   simp only at g0 g1
   obtain ⟨q,hq⟩:∃ q,q=decide ((x0,x1)∈T):=⟨_,rfl⟩
   have HST:Hid (gK F (L.take (k+1))=if q then T else T++[(x0,x1)]):=by
    unfold Hid
    rw [List.take_succ_eq_append_getElem hkx,← hx,Hr,← HT.out,hq]
    rfl
   obtain ⟨av,cv,rfl⟩:=HO.out.form
   have hbw:=HB.out.size
   have bx:Hid (Below wr.heap.size wr (wr.alloc (.cells #[.int .i64 x0,.int .i64 x1] 84))):=(Below.refl _ _).alloc (Nat.le_refl _) _
   have CH:Hid (Calls Tryz.prog 194 #[.slice av len cv,.agg #[.int .i64 x0,.int .i64 x1]] (wr.alloc (.cells #[.int .i64 x0,.int .i64 x1] 84)) fun e w'=>e=.returned (.bool q)∧Below (wr.alloc (.cells #[.int .i64 x0,.int .i64 x1] 84)).heap.size (wr.alloc (.cells #[.int .i64 x0,.int .i64 x1] 84)) w'):=by
    unfold Hid
    rw [hq]
    exact CU av len cv x0 x1 T _ (HO.out.row.2.2.2.below bx.out) (by omega)
   have X1:Hid (ae (wr.alloc (.cells #[.int .i64 x0,.int .i64 x1] 84)) wr.heap.size #[.int .i64 x0,.int .i64 x1] 84):=ae.new wr _ _ rfl
   have B1:Hid (Below base w (wr.alloc (.cells #[.int .i64 x0,.int .i64 x1] 84))):=HB.out.alloc (by omega) _
   have O1:=Lib.hid (HO.out.below bx.out)
   have i1:(0:Int)≤(k:Int):=by omega
   have i2:(k:Int)<(ln:Int):=by omega
   have x0c:=X1.out.cell (j:=0) (u:=.int .i64 x0) rfl
   have x1c:=X1.out.cell (j:=1) (u:=.int .i64 x1) rfl
   clear hq hx hcell c0 c1 HO HB bx HT
   go_wp2_with fail
   clear g0 g1 x0c x1c
   refine CH.out.mono ?_
   rintro e w1 ⟨rfl,hb1⟩
   have hs1:=hb1.size
   simp at hs1
   have X2:=Lib.hid (X1.out.below hb1)
   have B2:=Lib.hid (B1.out.trans (hb1.mono (by simp;omega)))
   have O2:=Lib.hid (O1.out.below hb1)
   clear hb1 X1 B1 O1 CH
   cases q with
   | true =>
    have ru:Hid (T=gK F (L.take (k+1))):=HST.out.symm
    go_wp2_with fail
    go_roundw
    case rel=>exact ⟨k+1,len,_,T,by omega,by go_num,rfl,O2.out,ru.out,by omega,B2.out⟩
    case measure=>simp [intOf];omega
   | false =>
    have ru:Hid (T++[(x0,x1)]=gK F (L.take (k+1))):=HST.out.symm
    have T1:=O2.out.alloc (.cells #[.int .i64 x0,.int .i64 x1] 84)
    have BT:Hid (Below base w (w1.alloc (.cells #[.int .i64 x0,.int .i64 x1] 84))):=B2.out.alloc (Nat.le_trans hbase B2.out.size) _
    have hbz:=B2.out.size
    have SP:Du (w1.alloc (.cells #[.int .i64 x0,.int .i64 x1] 84)) ⟨w1.heap.size,0,none⟩ (x0,x1):=zt
    have x0c:=X2.out.cell (j:=0) (u:=.int .i64 x0) rfl
    have x1c:=X2.out.cell (j:=1) (u:=.int .i64 x1) rfl
    go_wp2_with (at_builtin;refine yR rfl (.tmp 17) (.tmp 19) rfl base _ len _ rfl T1 _ 1 (x0,x1) rfl SP (by omega) (by simp;omega) ?_)
    intro v2 w2 hown hgrow
    have B3:Hid (Below base w w2):=BT.out.grown hgrow (Nat.le_trans hbase BT.out.size) (fun q hq=>(T1.lt q hq).1)
    have O3:=Lib.hid hown
    clear hown hgrow T1 SP x0c x1c BT
    go_wp2_with fail
    go_roundw
    case rel=>exact ⟨k+1,len+1,v2,T++[(x0,x1)],by omega,by go_num,rfl,O3.out,ru.out,by omega,B3.out⟩
    case measure=>simp [intOf];omega
  ·have HE:Hid (T=R):=by
    have:=HT.out
    rw [List.take_of_length_le (by rw [HLR.out.1];omega)] at this
    rw [HR.out]
    exact this
   go_wp2_with fail
   go_ret
   have e:=HO.out.length
   rw [← HE.out]
   subst e
   exact ⟨_,rfl,HO.out,HB.out⟩
theorem Ht {F:List Pr} (hn:F.Nodup) (hl:∀ y∈F,(0≤y.1∧y.1<40)∧(0≤y.2∧y.2<40)):F.length≤1600:=by
 have h1:(F.map fun y=>y.1*40+y.2).Nodup:=by
  rw [List.nodup_iff_pairwise_ne,List.pairwise_map]
  refine (List.Pairwise.and_mem.1 (List.nodup_iff_pairwise_ne.1 hn)).imp ?_
  intro x y ⟨hx,hy,hne⟩ e
  obtain ⟨a1,a2⟩:=hl x hx
  obtain ⟨b1,b2⟩:=hl y hy
  exact hne (Prod.ext (by omega) (by omega))
 have h2:=h1.length_le_of_subset (l₂:=(List.range 1600).map fun i:Nat=>(i:Int)) (fun z hz=>by
  obtain ⟨y,hy,rfl⟩:=List.mem_map.1 hz
  obtain ⟨a1,a2⟩:=hl y hy
  exact List.mem_map.2 ⟨(y.1*40+y.2).toNat,List.mem_range.2 (by omega),by omega⟩)
 simpa using h2
theorem CW (p q:Int) (bx M n base:Nat) (B:Int→Int→List Pr) (w0 w:World) (hw:Below w0.heap.size w0 w) (hv:ae w0 bx #[.map (some M)] 139) (hq:MapQ w0 M n base B) (wp:(Lit.int .i64 p).wf=true) (wq:(Lit.int .i64 q).wf=true) :
  Calls Tryz.prog 124 #[.agg #[.int .i64 p,.int .i64 q],.pointer (some ⟨bx,0,none⟩)] w fun e w'=>∃ v,e=.returned v∧OwnsP w' base v (B p q).length (B p q)∧Below w.heap.size w w'∧∀ k,v.ownBlock=some k→k<w0.heap.size:=by
 have bb:Below w.heap.size w (w.alloc (.cells #[.int .i64 p,.int .i64 q] 84)):=(Below.refl _ _).alloc (Nat.le_refl _) _
 have hz:∀ k,k<w0.heap.size→k<w.heap.size:=fun k h=>Nat.lt_of_lt_of_le h hw.size
 obtain ⟨v,hlk,ho,hlo⟩:=(hq.lookAt hw bb) Tryz.underlying139 wp wq
 have g0:=((hv.below hw).below bb).cell (j:=0) (u:=.map (some M)) rfl
 have X1:=ae.new w #[.int .i64 p,.int .i64 q] 84 rfl
 have x0:=X1.cell (j:=0) (u:=.int .i64 p) rfl
 have x1:=X1.cell (j:=1) (u:=.int .i64 q) rfl
 have HO:=Lib.hid ho
 have HLO:=Lib.hid hlo
 have BB:=Lib.hid bb
 clear hv hq wp wq X1 ho bb hlo hz hw
 go_enter Tryz.func124,Tryz.ntmps124
 go_wp2_with fail
 go_ret
 exact ⟨_,rfl,HO.out,BB.out,HLO.out⟩
theorem FP (fa:Option Addr) (fn fc:Nat) (L:List Pr) (bx M n base:Nat) (B:Int→Int→List Pr) (w:World) (rf:wI w fa fn L) (hfn:fn≤1048576) (hv:ae w bx #[.map (some M)] 139) (hq:MapQ w M n base B)
  (low:∀ y,qJ (fun x=>B x.1 x.2) L y→(0≤y.1∧y.1<40)∧(0≤y.2∧y.2<40)) (hB:∀ p q,(B p q).length≤1000000) :
  Calls Tryz.prog 122 #[.slice fa fn fc,.func (.func 124) #[] #[.pointer (some ⟨bx,0,none⟩)]] w fun e w'=>∃ v n F,e=.returned v∧OwnsP w' w.heap.size v n F∧n≤1600∧kH (fun x=>B x.1 x.2) L F F.length∧Below w.heap.size w w':=by
 have HRF:=Lib.hid rf
 have HV:=Lib.hid hv
 have HQ:=Lib.hid hq
 have wV:=Lib.hid low
 have HBL:=Lib.hid hB
 clear rf hv hq low hB
 obtain ⟨nx,hnx⟩:∃ f:Pr→List Pr,f=fun x=>B x.1 x.2:=⟨_,rfl⟩
 have HNX:Hid (∀ p q,nx (p,q)=B p q):=fun p q=>by rw [hnx]
 rw [← hnx] at wV ⊢
 clear hnx
 go_enter Tryz.func122,Tryz.ntmps122
 go_wp2_with fail
 refine (zh (.slice none 0 0) 0 w.heap.size [] fa fn fc L _ (World.ownsRow_nil _ _ _ _) (by omega) HRF.out hfn (fun b off e h0=>by
  obtain ⟨b',off',e',hb',_⟩:=HRF.out.2 h0
  rw [e'] at e
  cases e
  exact hb') (Nat.le_refl _)).mono ?_
 rintro e w1 ⟨v1,rfl,ho,hb⟩
 have HO1:=Lib.hid ho
 have HB1:=Lib.hid hb
 clear ho hb
 go_wp2_with fail
 go_loopw [5,6] (fun fd i wr=>∃ (k len:Nat) (v0:Value) (F:List Pr),i=.int .i64 k∧v0=fd∧k≤len∧Hid (OwnsP wr w.heap.size v0 len F)∧Hid (kH nx L F k)∧Hid (Below w.heap.size w wr)) (fun _ i _=>1600 - (intOf i).toNat)
 case atStart=>exact ⟨0,_,_,gK [] L,rfl,rfl,Nat.zero_le _,HO1.out,kH.start nx L,HB1.out⟩
 case round =>
  obtain ⟨k,len,v0,F,rfl,rfl,hk,HO,HF,HN⟩:=hrel
  clear HO1 HB1
  have hl40:len≤1600:=by
   have:=Ht HF.out.1 (fun y hy=>wV.out y (HF.out.2.2.1 y hy))
   rw [HO.out.length] at this
   exact this
  by_cases hlt:k<len
  ·obtain ⟨av,cv,rfl⟩:=HO.out.form
   obtain ⟨g,rfl⟩:∃ g,av=some ⟨g,0,none⟩:=by
    rcases HO.out.2 with ⟨e,h0⟩|⟨g,cap,cur,e,_⟩
    ·omega
    ·simp only [Value.slice.injEq] at e
     exact ⟨g,e.1⟩
   have hkF:k<F.length:=by rw [HO.out.length];exact hlt
   obtain ⟨⟨x0,x1⟩,hx⟩:∃ x,x=F[k]:=⟨_,rfl⟩
   obtain ⟨l0,l1⟩:=wV.out (x0,x1) (by rw [hx];exact HF.out.2.2.1 _ (List.getElem_mem hkF))
   simp only at l0 l1
   obtain ⟨c0,c1⟩:=HO.out.cells.2 k F[k] (List.getElem?_eq_getElem hkF)
   rw [← hx] at c0 c1
   simp only at c0 c1
   have HFK:Hid (kH nx L (gK F (nx (x0,x1))) (k+1)):=HF.out.next (by rw [List.getElem?_eq_getElem hkF,← hx])
   obtain ⟨row,hrow⟩:∃ r,r=nx (x0,x1):=⟨_,rfl⟩
   have hrB:row=B x0 x1:=by rw [hrow,HNX.out]
   have hrl:row.length≤1000000:=by rw [hrB];exact HBL.out x0 x1
   rw [← hrow] at HFK
   have CF:Hid (Calls Tryz.prog 124 #[.agg #[.int .i64 x0,.int .i64 x1],.pointer (some ⟨bx,0,none⟩)] wr fun e w'=>∃ v,e=.returned v∧OwnsP w' base v row.length row∧Below wr.heap.size wr w'∧∀ k,v.ownBlock=some k→k<w.heap.size):=by
    unfold Hid
    rw [hrB]
    exact CW x0 x1 bx M n base B w wr HN.out HV.out HQ.out (iC (by omega) (by omega)) (iC (by omega) (by omega))
   obtain ⟨F2,hF2⟩:∃ F2,F2=gK F row:=⟨_,rfl⟩
   have CN:Hid (∀ W v,OwnsP W w.heap.size (.slice (some ⟨g,0,none⟩) len cv) len F→OwnsP W base v row.length row→(∀ k,v.ownBlock=some k→k<w.heap.size)→w.heap.size≤W.heap.size→Calls Tryz.prog 170 #[.slice (some ⟨g,0,none⟩) len cv,v] W fun e w'=>∃ v',e=.returned v'∧OwnsP w' w.heap.size v' F2.length F2∧Below w.heap.size W w'):=fun W v h1 h2 h3 h4=>by
    obtain ⟨ar,cr,rfl⟩:=h2.form
    rw [hF2]
    exact zh _ len w.heap.size F ar row.length cr row W h1 (by omega) h2.row.2.2.2 (by omega) (fun b off e _=>h3 b (by subst e;rfl)) h4
   have hkl:k+1≤F2.length:=by
    obtain ⟨E,hE⟩:=xm row F
    rw [hF2,hE,List.length_append]
    omega
   rw [← hF2] at HFK
   have i1:(0:Int)≤(k:Int):=by omega
   have i2:(k:Int)<(len:Int):=by omega
   clear hx hrow hrB hF2 l0 l1
   go_wp2_with fail
   clear c0 c1
   refine CF.out.mono ?_
   rintro e w2 ⟨vr,rfl,hor,hb2,hlo⟩
   have HN2:=Lib.hid (HN.out.trans (hb2.mono HN.out.size))
   have HO2:=Lib.hid (HO.out.below hb2)
   have HOR:=Lib.hid hor
   have HLO:=Lib.hid hlo
   clear hor hb2 hlo
   go_wp2_with fail
   refine (CN.out _ _ HO2.out HOR.out HLO.out HN2.out.size).mono ?_
   rintro e w3 ⟨v3,rfl,ho,hb3⟩
   have HO3:=Lib.hid ho
   have HN3:=Lib.hid (HN2.out.trans hb3)
   clear ho hb3 HN HO HN2 HO2 HOR HLO CF CN
   go_wp2_with fail
   go_roundw
   case rel=>exact ⟨k+1,F2.length,v3,F2,by go_num,rfl,hkl,HO3.out,HFK.out,HN3.out⟩
   case measure=>simp [intOf];omega
  ·have HE:Hid (kH nx L F F.length):=by
    have h1:k=F.length:=by rw [HO.out.length];omega
    have h2:=HF.out
    rw [h1] at h2
    exact h2
   obtain ⟨av,cv,rfl⟩:=HO.out.form
   go_wp2_with fail
   go_ret
   exact ⟨_,_,F,rfl,HO.out,hl40,HE.out,HN.out⟩
open Go.RowKit
def bD (st s:Int):Int × Int:=if s<0∨st<1 then (0,0) else (wrap64 (s.tdiv st),s % st)
theorem nU (st it:Int) (v2 v3 v4 v5:Value) (s:Int) (w:World) :
  Calls Tryz.prog 121 #[.agg #[.int .i64 st,.int .i64 it,v2,v3,v4,v5],.int .i64 s] w fun e w'=>e=.returned (.agg #[.int .i64 (bD st s).1,.int .i64 (bD st s).2])∧Below w.heap.size w w':=by
 have B0:Hid (∀ o p,Below w.heap.size w ((w.alloc o).alloc p)):=fun o p=>((Below.refl _ _).alloc (Nat.le_refl _) _).alloc (by simp) _
 by_cases h0:s<0
 ·have e:bD st s=(0,0):=if_pos (Or.inl h0)
  by_cases h1:st<1
  ·rw [e]
   go_enter Tryz.func121,Tryz.ntmps121
   go_wp2_with fail
   refine bodyPost_ret (v:=.agg #[.int .i64 0,.int .i64 0]) ?_ rfl ⟨rfl,?_⟩
   ·simp [results,Tryz.results121,go_sem]
   ·first|exact B0.out _ _|exact (B0.out _ _).drew
  ·rw [e]
   go_enter Tryz.func121,Tryz.ntmps121
   go_wp2_with fail
   refine bodyPost_ret (v:=.agg #[.int .i64 0,.int .i64 0]) ?_ rfl ⟨rfl,?_⟩
   ·simp [results,Tryz.results121,go_sem]
   ·first|exact B0.out _ _|exact (B0.out _ _).drew
 ·by_cases h1:st<1
  ·have e:bD st s=(0,0):=if_pos (Or.inr h1)
   rw [e]
   go_enter Tryz.func121,Tryz.ntmps121
   go_wp2_with fail
   refine bodyPost_ret (v:=.agg #[.int .i64 0,.int .i64 0]) ?_ rfl ⟨rfl,?_⟩
   ·simp [results,Tryz.results121,go_sem]
   ·first|exact B0.out _ _|exact (B0.out _ _).drew
  ·have e:bD st s=(wrap64 (s.tdiv st),s % st):=if_neg (by omega)
   have hne:¬ st=0:=by omega
   rw [e]
   go_enter Tryz.func121,Tryz.ntmps121
   go_wp2_with fail
   go_region
   go_wp2_with fail
   refine bodyPost_ret (v:=.agg #[.int .i64 (wrap64 (s.tdiv st)),.int .i64 (s % st)]) ?_ rfl ⟨rfl,?_⟩
   ·simp [results,Tryz.results121,go_sem]
   ·first|exact B0.out _ _|exact (B0.out _ _).drew
open Go.RowKit
theorem zW {xs:List Int} (hr:xs.Pairwise (·<·)) (hl:∀ x∈xs,0≤x∧x≤11):dm xs=true:=by
 refine xG (n:=xs.length) (k:=xs.length) rfl (Nat.lt_irrefl _) (fun j hj=>?_)
 have hm:xs.getD j 0∈xs:=by
  rw [List.getD_eq_getElem?_getD,List.getElem?_eq_getElem hj]
  exact List.getElem_mem hj
 have hb:btw (xs.getD j 0) 0 11=true:=by
  have:=hl _ hm
  simp [btw]
  exact this
 by_cases h0:0<j
 ·refine zq (x:=xs.getD j 0) (y:=xs.getD (j - 1) 0) rfl rfl hb ?_
  have h1:j - 1<xs.length:=by omega
  rw [List.getD_eq_getElem?_getD,List.getElem?_eq_getElem h1,List.getD_eq_getElem?_getD,List.getElem?_eq_getElem hj]
  exact List.pairwise_iff_getElem.1 hr (j - 1) j h1 hj (by omega)
 ·exact xH (x:=xs.getD j 0) rfl hb h0
theorem JC {a:IaD} (h1:∀ x,x∈a.ins→x∈a.outs→False) (h2:∀ x,x∈a.ins→x∈a.ah→False) (h3:∀ x,x∈a.outs→x∈a.ah→False):apartB a=true:=by
 have nil:∀ xs ys:List Int,(∀ x,x∈xs→x∈ys→False)→(aU xs ys).length=0:=by
  intro xs ys h
  rw [List.length_eq_zero_iff]
  apply List.eq_nil_iff_forall_not_mem.2
  intro x hx
  have:=dJ.1 hx
  exact h x this.1 this.2
 unfold apartB
 rw [decide_eq_true_eq,nil _ _ h1,nil _ _ h2,nil _ _ h3]
theorem Ba {a:IaD} (h:aJ a=true):(∀ x,x∈a.ins→x∈a.outs→False)∧(∀ x,x∈a.ins→x∈a.ah→False)∧(∀ x,x∈a.outs→x∈a.ah→False):=by
 simp only [aJ,apartB,Bool.and_eq_true,decide_eq_true_eq] at h
 have hz:=h.1.2
 have nil:∀ xs ys:List Int,(aU xs ys).length=0→∀ x,x∈xs→x∈ys→False:=by
  intro xs ys e x h1 h2
  have hm:=dJ.2 ⟨h1,h2⟩
  rw [List.length_eq_zero_iff.1 e] at hm
  cases hm
 exact ⟨nil _ _ (by omega),nil _ _ (by omega),nil _ _ (by omega)⟩
theorem um (a:IaD):∀ (ss:List St),stepsB a ss=true→ss.Pairwise (fun y x=>y.1=x.1→y.2.1=x.2.1→x.2.1∈a.ins→False)
 | [],_=>List.Pairwise.nil
 | [x],_=>by simp
 | y :: x :: r,h=>by
  have hr:=jD a _ h
  simp only [stepsB,Bool.and_eq_true] at h
  have ih:=um a (x :: r) h.2
  have hn:=h.1.2
  simp only [cZ,Bool.and_eq_true,Bool.not_eq_true',Bool.and_eq_false_iff,decide_eq_true_eq,decide_eq_false_iff_not,hasB] at hn
  have key:y.1=x.1→y.2.1=x.2.1→x.2.1∈a.ins→False:=by
   intro e1 e2 hm
   rcases hn.2 with (k|k)|k
   ·exact k e1
   ·exact k e2
   ·exact k hm
  refine List.pairwise_cons.2 ⟨fun z hz=>?_,ih⟩
  rcases List.mem_cons.1 hz with rfl|hz
  ·exact key
  ·intro e1 e2 hm
   have h1:=(List.pairwise_cons.1 hr).1 x (by simp)
   have h2:=(List.pairwise_cons.1 (List.pairwise_cons.1 hr).2).1 z hz
   simp only [Ahead] at h1 h2
   have q1:y.1=x.1:=by omega
   have q2:y.2.1=x.2.1:=by omega
   exact key q1 q2 (by rw [← q2,e2];exact hm)
theorem E5 {a:IaD} (h:aJ a=true) {x y:St} (hx:x∈a.steps) (hy:y∈a.steps) (e1:x.1=y.1) (e2:x.2.1=y.2.1) (hm:x.2.1∈a.ins):x=y:=by
 have hp:=um a _ (qg h)
 obtain ⟨i,hi,rfl⟩:=List.getElem_of_mem hx
 obtain ⟨j,hj,rfl⟩:=List.getElem_of_mem hy
 rcases Nat.lt_trichotomy i j with k|k|k
 ·exact (List.pairwise_iff_getElem.1 hp i j hi hj k e1 e2 (by rw [← e2];exact hm)).elim
 ·subst k
  rfl
 ·exact (List.pairwise_iff_getElem.1 hp j i hj hi k e1.symm e2.symm hm).elim
theorem uT (a:IaD):∀ (ss:List St),ss.Pairwise Ahead→(∀ x∈ss,bH a x=true)→ss.Pairwise (fun y x=>y.1=x.1→y.2.1=x.2.1→x.2.1∈a.ins→False)→stepsB a ss=true
 | [],_,_,_=>rfl
 | [x],_,hg,_=>by simpa [stepsB] using hg x (by simp)
 | y :: x :: r,hr,hg,ho=>by
  have ih:=uT a (x :: r) (List.pairwise_cons.1 hr).2 (fun z hz=>hg z (List.mem_cons_of_mem _ hz)) (List.pairwise_cons.1 ho).2
  have h1:=(List.pairwise_cons.1 hr).1 x (by simp)
  have h2:=(List.pairwise_cons.1 ho).1 x (by simp)
  have hn:cZ a y x=true:=by
   simp only [cZ,Bool.and_eq_true,Bool.not_eq_true',Bool.and_eq_false_iff,decide_eq_true_eq,decide_eq_false_iff_not,hasB]
   refine ⟨(xX y x).2 h1,?_⟩
   by_cases e1:y.1=x.1
   ·by_cases e2:y.2.1=x.2.1
    ·exact .inr (fun hm=>h2 e1 e2 hm)
    ·exact .inl (.inr e2)
   ·exact .inl (.inl e1)
  simp only [stepsB,Bool.and_eq_true]
  exact ⟨⟨hg y (by simp),hn⟩,ih⟩
theorem fit_apart {a b:IaD} (h:iH a b=true):(∀ x,x∈a.ins→x∈b.ins→False)∧(∀ x,x∈a.outs→x∈b.outs→False)∧(∀ x,x∈a.ah→x∈aV b→False)∧(∀ x,x∈b.ah→x∈aV a→False):=by
 have hab:=h
 unfold iH at hab
 simp only [Bool.and_eq_true,decide_eq_true_eq] at hab
 obtain ⟨⟨_,hf⟩,_⟩:=hab
 unfold je at hf
 simp only [Bool.and_eq_true,decide_eq_true_eq,List.length_eq_zero_iff] at hf
 obtain ⟨⟨⟨f1,f2⟩,f3⟩,f4⟩:=hf
 have nil:∀ xs ys:List Int,aU xs ys=[]→∀ x,x∈xs→x∈ys→False:=by
  intro xs ys e x h1 h2
  have hm:=dJ.2 ⟨h1,h2⟩
  rw [e] at hm
  cases hm
 exact ⟨nil _ _ f1,nil _ _ f2,nil _ _ f3,nil _ _ f4⟩
theorem xq {a b:IaD} {x:Int}:x∈aY a b↔(x∈a.ins∧x∈b.outs)∨(x∈a.outs∧x∈b.ins):=by
 unfold aY
 rw [fO,dJ,dJ]
theorem xu {su p q n:Int} (hp:0≤p∧p≤n - 1) (hq:0≤q∧q≤su - 1):0≤p*su+q∧p*su+q≤n*su - 1:=by
 have h0:0≤p*su:=Int.mul_nonneg hp.1 (by omega)
 have h1:(p+1)*su≤n*su:=Int.mul_le_mul_of_nonneg_right (by omega) (by omega)
 rw [Int.add_mul,Int.one_mul] at h1
 omega
theorem pY {a b:IaD} (hp:fQ a b=true):aJ (aQ a b)=true:=by
 unfold fQ at hp
 rw [Bool.and_eq_true,decide_eq_true_eq] at hp
 obtain ⟨hf,hlen⟩:=hp
 obtain ⟨ha,hb,hm⟩:=iQ hf
 obtain ⟨p1,p2,p3,p4⟩:=fit_apart hf
 obtain ⟨a1,a2,a3⟩:=Ba ha
 obtain ⟨b1,b2,b3⟩:=Ba hb
 have sA:=aN ha
 have sB:=aN hb
 have iA:=gV ha
 have iB:=gV hb
 have eA:=dH ha
 have eB:=dH hb
 obtain ⟨oA1,oA2,oA3⟩:=pX ha
 obtain ⟨oB1,oB2,oB3⟩:=pX hb
 have mlow:=rq sA sB
 simp only [aJ,sW,Bool.and_eq_true,decide_eq_true_eq]
 have BM:∀ x,x∈(aQ a b).ins↔(x∈a.ins∨x∈b.ins)∧¬ x∈aY a b:=fun x=>by
  show x∈dK (aT a.ins b.ins) (aY a b)↔_
  rw [wL,fO]
 have E8:∀ x,x∈(aQ a b).outs↔(x∈a.outs∨x∈b.outs)∧¬ x∈aY a b:=fun x=>by
  show x∈dK (aT a.outs b.outs) (aY a b)↔_
  rw [wL,fO]
 have BN:∀ x,x∈(aQ a b).ah↔(x∈a.ah∨x∈b.ah)∨x∈aY a b:=fun x=>by
  show x∈aT (aT a.ah b.ah) (aY a b)↔_
  rw [fO,fO]

 have stepA:∀ x∈a.steps,hasB (aY a b) x.2.1=false→(x.2.1∈(aQ a b).ins∨x.2.1∈(aQ a b).outs∨x.2.1∈(aQ a b).ah):=fun x hx hs=>by
  have hn:¬ x.2.1∈aY a b:=by simpa [hasB] using hs
  rw [BM,E8,BN]
  rcases (eA x hx).2.2 with k|k|k
  ·exact .inl ⟨.inl k,hn⟩
  ·exact .inr (.inl ⟨.inl k,hn⟩)
  ·exact .inr (.inr (.inl (.inl k)))
 have Bc:∀ x∈b.steps,hasB (aY a b) x.2.1=false→(x.2.1∈(aQ a b).ins∨x.2.1∈(aQ a b).outs∨x.2.1∈(aQ a b).ah):=fun x hx hs=>by
  have hn:¬ x.2.1∈aY a b:=by simpa [hasB] using hs
  rw [BM,E8,BN]
  rcases (eB x hx).2.2 with k|k|k
  ·exact .inl ⟨.inr k,hn⟩
  ·exact .inr (.inl ⟨.inr k,hn⟩)
  ·exact .inr (.inr (.inl (.inr k)))
 have good:∀ u∈nN a b,bH (aQ a b) u=true:=fun u hu=>by
  have mk:∀ p q p' q':Int,(0≤p∧p≤a.states - 1)→(0≤q∧q≤b.states - 1)→(0≤p'∧p'≤a.states - 1)→(0≤q'∧q'≤b.states - 1)→∀ x:Int,(x∈(aQ a b).ins∨x∈(aQ a b).outs∨x∈(aQ a b).ah)→bH (aQ a b) (p*b.states+q,x,p'*b.states+q')=true:=by
   intro p q p' q' h1 h2 h3 h4 x hx
   have k1:=xu h1 h2
   have k2:=xu h3 h4
   have e:(aQ a b).states=a.states*b.states:=rfl
   simp only [bH,jH,btw,Bool.and_eq_true,Bool.or_eq_true,decide_eq_true_eq,hasB,e]
   exact ⟨⟨k1,k2⟩,by rcases hx with k|k|k <;> simp [k]⟩
  unfold nN at hu
  rw [List.mem_append,List.mem_append] at hu
  rcases hu with (hu|hu)|hu
  ·obtain ⟨x,hx,hs,hu⟩:=qi.1 hu
   obtain ⟨q,hq,rfl⟩:=iO.1 hu
   exact mk _ _ _ _ (eA x hx).1 (by omega) (eA x hx).2.1 (by omega) _ (stepA x hx hs)
  ·obtain ⟨y,hy,hs,hu⟩:=qj.1 hu
   obtain ⟨p,hp,rfl⟩:=jE.1 hu
   exact mk _ _ _ _ (by omega) (eB y hy).1 (by omega) (eB y hy).2.1 _ (Bc y hy hs)
  ·obtain ⟨x,hx,hs,hu⟩:=oQ.1 hu
   obtain ⟨y,hy,e,rfl⟩:=jF.1 hu
   exact mk _ _ _ _ (eA x hx).1 (eB y hy).1 (eA x hx).2.1 (eB y hy).2.1 _ (.inr (.inr ((BN _).2 (.inr (by simpa [hasB] using hs)))))
 have one:(mZ a b).Pairwise (fun y x=>y.1=x.1→y.2.1=x.2.1→x.2.1∈(aQ a b).ins→False):=by
  refine (List.Pairwise.and_mem.1 (qx hf)).imp ?_
  intro u v ⟨hu,hv,huv⟩ e1 e2 hI
  rw [sN] at hu hv
  rw [BM] at hI
  obtain ⟨hI,hns⟩:=hI
  have hne:u≠v:=huv.ne
  have Hu:∀ z:Int,z∈a.ins→¬ z∈aY a b→∀ y∈b.steps,y.2.1=z→False:=by
   intro z h1 h2 y hy ez
   rw [xq] at h2
   rcases (eB y hy).2.2 with k|k|k <;> rw [ez] at k
   ·exact p1 _ h1 k
   ·exact h2 (.inl ⟨h1,k⟩)
   ·exact p4 _ k (jg.2 (.inl h1))
  have Hw:∀ z:Int,z∈b.ins→¬ z∈aY a b→∀ y∈a.steps,y.2.1=z→False:=by
   intro z h1 h2 y hy ez
   rw [xq] at h2
   rcases (eA y hy).2.2 with k|k|k <;> rw [ez] at k
   ·exact p1 _ k h1
   ·exact h2 (.inr ⟨k,h1⟩)
   ·exact p3 _ k (jg.2 (.inl h1))
  have noT:∀ w∈nN a b,w.2.1=v.2.1→(∃ x∈a.steps,∃ q:Nat,q<b.states.toNat∧w=(x.1*b.states+(q:Int),x.2.1,x.2.2*b.states+(q:Int)))∨(∃ y∈b.steps,∃ p:Nat,p<a.states.toNat∧w=((p:Int)*b.states+y.1,y.2.1,(p:Int)*b.states+y.2.2)):=by
   intro w hw ew
   unfold nN at hw
   rw [List.mem_append,List.mem_append] at hw
   rcases hw with (hw|hw)|hw
   ·obtain ⟨x,hx,hs,hw⟩:=qi.1 hw
    obtain ⟨q,hq,rfl⟩:=iO.1 hw
    exact .inl ⟨x,hx,q,hq,rfl⟩
   ·obtain ⟨y,hy,hs,hw⟩:=qj.1 hw
    obtain ⟨p,hp,rfl⟩:=jE.1 hw
    exact .inr ⟨y,hy,p,hp,rfl⟩
   ·obtain ⟨x,hx,hs,hw⟩:=oQ.1 hw
    obtain ⟨y,hy,e,rfl⟩:=jF.1 hw
    exact absurd (by rw [← ew];simpa [hasB] using hs) hns
  rcases noT u hu e2 with ⟨x,hx,q,hq,rfl⟩|⟨y,hy,p,hp,rfl⟩ <;> rcases noT v hv rfl with ⟨x',hx',q',hq',rfl⟩|⟨y',hy',p',hp',rfl⟩
  ·simp only at e1 e2 hI hns
   rcases hI with hI|hI
   ·obtain ⟨d1,d2⟩:=mW e1 (by omega) (by omega)
    have:=E5 ha hx hx' d1 e2 (by rw [e2];exact hI)
    subst this
    exact hne (by rw [d2])
   ·exact Hw _ hI hns x' hx' rfl
  ·simp only at e1 e2 hI hns
   rcases hI with hI|hI
   ·exact Hu _ hI hns y' hy' rfl
   ·exact Hw _ hI hns x hx e2
  ·simp only at e1 e2 hI hns
   rcases hI with hI|hI
   ·exact Hu _ hI hns y hy e2
   ·exact Hw _ hI hns x' hx' rfl
  ·simp only at e1 e2 hI hns
   rcases hI with hI|hI
   ·exact Hu _ hI hns y' hy' rfl
   ·have q1:=(eB y hy).1
    have q2:=(eB y' hy').1
    obtain ⟨d1,d2⟩:=mW e1 (by omega) (by omega)
    have:=E5 hb hy hy' d2 e2 (by rw [e2];exact hI)
    subst this
    exact hne (by rw [d1])
 have low:∀ x,(x∈a.ins∨x∈a.outs∨x∈a.ah∨x∈b.ins∨x∈b.outs∨x∈b.ah)→0≤x∧x≤11:=by
  intro x h
  rcases h with h|h|h|h|h|h
  ·exact dO oA1 x h
  ·exact dO oA2 x h
  ·exact dO oA3 x h
  ·exact dO oB1 x h
  ·exact dO oB2 x h
  ·exact dO oB3 x h
 have lowS:∀ x,x∈aY a b→0≤x∧x≤11:=by
  intro x h
  rw [xq] at h
  rcases h with h|h
  ·exact low x (.inl h.1)
  ·exact low x (.inr (.inl h.1))
 refine ⟨⟨⟨⟨?_,?_⟩,⟨⟨⟨?_,?_⟩,?_⟩,?_⟩⟩,?_⟩,?_⟩
 ·show btw (a.states*b.states) 1 40=true
  simp [btw]
  omega
 ·have:=xu iA iB
  show jH (aQ a b) (a.init*b.states+b.init)=true
  have e:(aQ a b).states=a.states*b.states:=rfl
  simp [jH,btw,e]
  omega
 ·refine zW (bJ List.Pairwise.nil) (fun x hx=>?_)
  rcases ((BM x).1 hx).1 with k|k
  ·exact low x (.inl k)
  ·exact low x (.inr (.inr (.inr (.inl k))))
 ·refine zW (bJ List.Pairwise.nil) (fun x hx=>?_)
  rcases ((E8 x).1 hx).1 with k|k
  ·exact low x (.inr (.inl k))
  ·exact low x (.inr (.inr (.inr (.inr (.inl k)))))
 ·refine zW (bJ (bJ List.Pairwise.nil)) (fun x hx=>?_)
  rcases (BN x).1 hx with (k|k)|k
  ·exact low x (.inr (.inr (.inl k)))
  ·exact low x (.inr (.inr (.inr (.inr (.inr k)))))
  ·exact lowS x k
 ·show (mZ a b).length≤400
  unfold mZ
  rw [rX]
  exact hlen
 ·refine JC (fun x h1 h2=>?_) (fun x h1 h2=>?_) (fun x h1 h2=>?_)
  ·rw [BM] at h1
   rw [E8] at h2
   have hn:=h1.2
   rw [xq] at hn
   rcases h1.1 with k|k <;> rcases h2.1 with m|m
   ·exact a1 x k m
   ·exact hn (.inl ⟨k,m⟩)
   ·exact hn (.inr ⟨m,k⟩)
   ·exact b1 x k m
  ·rw [BM] at h1
   rw [BN] at h2
   rcases h2 with (m|m)|m
   ·rcases h1.1 with k|k
    ·exact a2 x k m
    ·exact p3 x m (jg.2 (.inl k))
   ·rcases h1.1 with k|k
    ·exact p4 x m (jg.2 (.inl k))
    ·exact b2 x k m
   ·exact h1.2 m
  ·rw [E8] at h1
   rw [BN] at h2
   rcases h2 with (m|m)|m
   ·rcases h1.1 with k|k
    ·exact a3 x k m
    ·exact p3 x m (jg.2 (.inr (.inl k)))
   ·rcases h1.1 with k|k
    ·exact p4 x m (jg.2 (.inr (.inl k)))
    ·exact b3 x k m
   ·exact h1.2 m
 ·exact uT _ _ (qx hf) (fun x hx=>good x (sN.1 hx)) one
theorem qK {a b:IaD} (_:Small a) (_:Small b):(gI a b).ins.length≤1048576∧(gI a b).outs.length≤1048576∧(gI a b).ah.length≤1048576∧(gI a b).steps.length≤1048576:=by
 unfold gI
 by_cases h:fQ a b=true
 ·rw [if_pos h]
  have ok:=pY h
  obtain ⟨o1,o2,o3⟩:=pX ok
  have l1:(aQ a b).ins.length≤12:=qh (bJ List.Pairwise.nil) (dO o1)
  have l2:(aQ a b).outs.length≤12:=qh (bJ List.Pairwise.nil) (dO o2)
  have l3:(aQ a b).ah.length≤12:=qh (bJ (bJ List.Pairwise.nil)) (dO o3)
  have l4:=dD ok
  exact ⟨by omega,by omega,by omega,by omega⟩
 ·rw [if_neg h]
  simp [ja]
open Go.RowKit
def jh (ins:List Int) (ss:List St):List St:=(ss.filter fun x => !hasB ins x.2.1).map fun x=>(x.2.2,0,x.1)
def gq (a b:IaD):List Int:=if fQ a b then kK [0] (jh (aQ a b).ins (aQ a b).steps) (iy a b) else []
def gQ (ins:List Int) (ss:List St) (out:List Int):List Int:=ss.foldl (fun o x=>if !hasB ins x.2.1&&hasB o x.2.2 then put o x.1 else o) out
theorem vM (ins:List Int):∀ (ss:List St) (out:List Int),gQ ins ss out=dh [0] (jh ins ss) out
 | [],_=>rfl
 | x :: r,out=>by
  have ih:=vM ins r
  have h1:gQ ins (x :: r) out=gQ ins r (if !hasB ins x.2.1&&hasB out x.2.2 then put out x.1 else out):=rfl
  rw [h1,ih]
  unfold jh
  by_cases h:hasB ins x.2.1=true
  ·rw [List.filter_cons_of_neg (by simp [h])]
   simp [h]
  ·rw [List.filter_cons_of_pos (by simp [h]),List.map_cons,jB]
   have h0:hasB [0] (0:Int)=true:=by simp [hasB]
   simp only [h0,Bool.true_and]
   have h2:hasB ins x.2.1=false:=by simpa using h
   rw [h2]
   rfl
theorem Dc (ins:List Int) (ss:List St) (x:St) (out:List Int):gQ ins (ss++[x]) out=(if !hasB ins x.2.1&&hasB (gQ ins ss out) x.2.2 then put (gQ ins ss out) x.1 else gQ ins ss out):=by simp [gQ]
theorem uU {su s:Int} (h:1≤su∧su≤40) (hs:0≤s∧s≤1600):bD su s=(s / su,s % su):=by
 unfold bD
 rw [if_neg (by omega),Int.tdiv_eq_ediv_of_nonneg hs.1]
 have h1:0≤s / su:=Int.ediv_nonneg hs.1 (by omega)
 have h2:s / su≤s:=Int.ediv_le_self su hs.1
 rw [Go.IntWalk.wrap64_in _ (by omega)]
theorem vN {su s:Int} (h:1≤su∧su≤40) (hs:0≤s∧s≤1600):fJ su (bD su s)=s:=by
 rw [uU h hs]
 unfold fJ
 have:=Int.mul_ediv_add_emod s su
 rw [Int.mul_comm] at this
 exact this
theorem zi {su p q:Int} (h:1≤su∧su≤40) (hp:0≤p∧p≤39) (hq:0≤q∧q<su):bD su (fJ su (p,q))=(p,q):=by
 unfold fJ
 simp only
 have h1:0≤p*su∧p*su≤39*40:=⟨Int.mul_nonneg hp.1 (by omega),Int.mul_le_mul hp.2 h.2 (by omega) (by omega)⟩
 rw [uU h (by omega)]
 have e1:(p*su+q) / su=p:=by
  rw [Int.add_comm,Int.add_mul_ediv_right _ _ (by omega),Int.ediv_eq_zero_of_lt hq.1 hq.2]
  omega
 have e2:(p*su+q) % su=q:=by
  rw [Int.add_comm,Int.add_mul_emod_self_right,Int.emod_eq_of_lt hq.1 hq.2]
 rw [e1,e2]
def gu (su:Int) (ins:List Int) (ss:List St) (p q:Int):List Pr:=(ss.filter fun x => !hasB ins x.2.1&&decide (bD su x.2.2=(p,q))).map fun x=>bD su x.1
theorem Jd (su:Int) (ins:List Int):gu su ins []=fun _ _=>[]:=rfl
theorem Hy {su:Int} {ins:List Int} {ss:List St} {x:St} (h:hasB ins x.2.1=true):gu su ins (ss++[x])=gu su ins ss:=by
 funext p q
 unfold gu
 rw [List.filter_append]
 simp [h]
theorem Je {su:Int} {ins:List Int} {ss:List St} {x:St} (h:hasB ins x.2.1=false):gu su ins (ss++[x])=addP (gu su ins ss) (bD su x.2.2).1 (bD su x.2.2).2 (bD su x.1):=by
 funext p q
 unfold addP gu
 rw [List.filter_append,List.map_append]
 by_cases e:p=(bD su x.2.2).1∧q=(bD su x.2.2).2
 ·rw [if_pos e]
  obtain ⟨rfl,rfl⟩:=e
  simp [h]
 ·rw [if_neg e]
  have:¬ bD su x.2.2=(p,q):=fun e'=>e (by rw [e'];exact ⟨rfl,rfl⟩)
  simp [h,this]
theorem Cj (su:Int) (ins:List Int) (ss:List St) (p q:Int):(gu su ins ss p q).length≤ss.length:=by
 unfold gu
 rw [List.length_map]
 exact List.length_filter_le _ _
theorem Bd {su n:Int} (hsu:1≤su∧su≤40) (hn:1≤n∧n≤40) {ins:List Int} {ss:List St} (hss:∀ x∈ss,(0≤x.1∧x.1≤n*su - 1)∧(0≤x.2.2∧x.2.2≤n*su - 1)) {L:List Pr} (hL:∀ y∈L,(0≤y.1∧y.1<n)∧(0≤y.2∧y.2<su)) :
  (∀ y,qJ (fun x=>gu su ins ss x.1 x.2) L y→((0≤y.1∧y.1<n)∧(0≤y.2∧y.2<su))∧iw [0] (jh ins ss) (L.map (fJ su)) (fJ su y)) ∧
  ∀ z,iw [0] (jh ins ss) (L.map (fJ su)) z→(0≤z∧z≤n*su - 1)∧qJ (fun x=>gu su ins ss x.1 x.2) L (bD su z):=by
 have hm:n*su≤1600:=(rq hn hsu).2
 have low:∀ s,0≤s∧s≤n*su - 1→(0≤(bD su s).1∧(bD su s).1<n)∧(0≤(bD su s).2∧(bD su s).2<su):=fun s hs=>by
  rw [uU hsu (by omega)]
  exact ⟨⟨Int.ediv_nonneg hs.1 (by omega),Int.ediv_lt_of_lt_mul (by omega) (by omega)⟩,Int.emod_nonneg _ (by omega),Int.emod_lt_of_pos _ (by omega)⟩
 refine ⟨fun y h=>?_,fun z h=>?_⟩
 ·induction h with
  | start y hy=>exact ⟨hL y hy,.start _ (List.mem_map.2 ⟨y,hy,rfl⟩)⟩
  | step x y _ hy ih =>
   unfold gu at hy
   obtain ⟨s,hs,rfl⟩:=List.mem_map.1 hy
   obtain ⟨hs,hc⟩:=List.mem_filter.1 hs
   simp only [Bool.and_eq_true,Bool.not_eq_true',decide_eq_true_eq] at hc
   obtain ⟨e1,e2⟩:=hss s hs
   refine ⟨low _ e1,?_⟩
   rw [vN hsu (by omega)]
   have hb:((s.2.2,0,s.1):St)∈jh ins ss:=List.mem_map.2 ⟨s,List.mem_filter.2 ⟨hs,by simp [hc.1]⟩,rfl⟩
   refine iw.step (s.2.2,0,s.1) hb (by simp [hasB]) ?_
   have h3:=ih.2
   have e3:x=bD su s.2.2:=by rw [hc.2]
   rw [e3,vN hsu (by omega)] at h3
   exact h3
 ·induction h with
  | start z hz =>
   obtain ⟨y,hy,rfl⟩:=List.mem_map.1 hz
   obtain ⟨h1,h2⟩:=hL y hy
   have h3:=xu (su:=su) (n:=n) (p:=y.1) (q:=y.2) (by omega) (by omega)
   refine ⟨h3,?_⟩
   have e:bD su (fJ su y)=y:=zi (p:=y.1) (q:=y.2) hsu (by omega) h2
   rw [e]
   exact .start y hy
  | step s hs _ _ ih =>
   obtain ⟨t,ht,rfl⟩:=List.mem_map.1 hs
   obtain ⟨ht,hc⟩:=List.mem_filter.1 ht
   simp only [Bool.not_eq_true'] at hc
   obtain ⟨e1,e2⟩:=hss t ht
   refine ⟨e1,.step _ _ ih.2 ?_⟩
   unfold gu
   exact List.mem_map.2 ⟨t,List.mem_filter.2 ⟨ht,by simp [hc]⟩,rfl⟩
open Go.RowKit
theorem Jf (a b:IaD) (v u:Value) (w:World) (h:aB w a v) (k:aB w b u) (fa:Small a) (fb:Small b) (sa:Option Addr) (sn sc:Nat) (sh:List Int) (hs:Row w sa sn sh) (hsn:sn≤1048576) (ra:Option Addr) (rn rc:Nat) (rowA:List St) (hra:eP w ra rn rowA) (hrn:rn≤400) (rb:Option Addr) (rm rd:Nat) (rowB:List St) (hrb:eP w rb rm rowB) (hrm:rm≤400) :
  Calls Tryz.prog 169 #[v,u,.slice sa sn sc,.slice ra rn rc,.slice rb rm rd] w fun e w'=>e=.returned (.bool (dZ sh (Lib.compact (dM rowA a.outs)) (Lib.compact (dM rowB b.ins)) || dZ sh (Lib.compact (dM rowB b.outs)) (Lib.compact (dM rowA a.ins))))∧Below w.heap.size w w':=by
 obtain ⟨a2,n2,c2,a3,n3,c3,a4,n4,c4,a5,n5,c5,rfl,r2,r3,r4,r5⟩:=h
 obtain ⟨b2,m2,d2,b3,m3,d3,b4,m4,d4,b5,m5,d5,rfl,q2,q3,q4,q5⟩:=k
 obtain ⟨st,it,ins,outs,ah,steps⟩:=a
 obtain ⟨su,iu,jns,aF,aG,ax⟩:=b
 obtain ⟨f2,f3,f4,f5⟩:=fa
 obtain ⟨g2,g3,g4,g5⟩:=fb
 simp only at r2 r3 r4 r5 q2 q3 q4 q5 f2 f3 f4 f5 g2 g3 g4 g5
 have HA:Hid (∀ W,Below w.heap.size w W→aB W ⟨st,it,ins,outs,ah,steps⟩ (.agg #[.int .i64 st,.int .i64 it,.slice a2 n2 c2,.slice a3 n3 c3,.slice a4 n4 c4,.slice a5 n5 c5])):=fun W hW=>aB.below ⟨a2,n2,c2,a3,n3,c3,a4,n4,c4,a5,n5,c5,rfl,r2,r3,r4,r5⟩ hW
 have HB:Hid (∀ W,Below w.heap.size w W→aB W ⟨su,iu,jns,aF,aG,ax⟩ (.agg #[.int .i64 su,.int .i64 iu,.slice b2 m2 d2,.slice b3 m3 d3,.slice b4 m4 d4,.slice b5 m5 d5])):=fun W hW=>aB.below ⟨b2,m2,d2,b3,m3,d3,b4,m4,d4,b5,m5,d5,rfl,q2,q3,q4,q5⟩ hW
 have S0:=Lib.hid (aI.start w (iaC st it a2 n2 c2 a3 n3 c3 a4 n4 c4 a5 n5 c5) (iaC su iu b2 m2 d2 b3 m3 d3 b4 m4 d4 b5 m5 d5) 27)
 have e2:=r2.1
 have e3:=r3.1
 have e4:=r4.1
 have k2:=q2.1
 have k3:=q3.1
 have k4:=q4.1
 rw [e2] at f2
 rw [e3] at f3
 rw [e4] at f4
 rw [k2] at g2
 rw [k3] at g3
 rw [k4] at g4
 have R2:=Lib.hid r2
 have R3:=Lib.hid r3
 have R4:=Lib.hid r4
 have R5:=Lib.hid r5
 have Q2:=Lib.hid q2
 have Q3:=Lib.hid q3
 have Q4:=Lib.hid q4
 have Q5:=Lib.hid q5
 clear r2 r3 r4 r5 q2 q3 q4 q5
 have RA:=Lib.hid hra
 have RB:=Lib.hid hrb
 have RS:=Lib.hid hs
 clear hra hrb hs HA HB
 simp only
 obtain ⟨L0,hL0⟩:∃ l,l=Lib.compact (dM rowA outs):=⟨_,rfl⟩
 obtain ⟨L1,hL1⟩:∃ l,l=Lib.compact (dM rowB jns):=⟨_,rfl⟩
 obtain ⟨L2,hL2⟩:∃ l,l=Lib.compact (dM rowB aF):=⟨_,rfl⟩
 obtain ⟨L3,hL3⟩:∃ l,l=Lib.compact (dM rowA ins):=⟨_,rfl⟩
 have hn0:L0.length≤400:=by
  rw [hL0]
  refine Nat.le_trans (Lib.compact_length_le _) ?_
  unfold dM
  rw [List.length_map]
  refine Nat.le_trans (List.length_filter_le _ _) ?_
  rw [RA.out.1]
  exact hrn
 have hn1:L1.length≤400:=by
  rw [hL1]
  refine Nat.le_trans (Lib.compact_length_le _) ?_
  unfold dM
  rw [List.length_map]
  refine Nat.le_trans (List.length_filter_le _ _) ?_
  rw [RB.out.1]
  exact hrm
 have hn2:L2.length≤400:=by
  rw [hL2]
  refine Nat.le_trans (Lib.compact_length_le _) ?_
  unfold dM
  rw [List.length_map]
  refine Nat.le_trans (List.length_filter_le _ _) ?_
  rw [RB.out.1]
  exact hrm
 have hn3:L3.length≤400:=by
  rw [hL3]
  refine Nat.le_trans (Lib.compact_length_le _) ?_
  unfold dM
  rw [List.length_map]
  refine Nat.le_trans (List.length_filter_le _ _) ?_
  rw [RA.out.1]
  exact hrn
 have CA3:Hid (∀ W,aI w W w.heap.size (w.heap.size+1) 27 (iaC st it a2 n2 c2 a3 n3 c3 a4 n4 c4 a5 n5 c5) (iaC su iu b2 m2 d2 b3 m3 d3 b4 m4 d4 b5 m5 d5)→Calls Tryz.prog 180 #[.slice ra rn rc,.slice a3 n3 c3] W fun e w'=>∃ ad cc,e=.returned (.slice ad L0.length cc)∧aj w' w.heap.size (.slice ad L0.length cc) L0.length L0∧Below W.heap.size W w'):=fun W hW =>
  (oU ra rn rc rowA a3 n3 c3 outs W (RA.out.below hW.1) (by omega) (R3.out.below hW.1) (by omega)).mono fun e w' h=>by
   obtain ⟨v,he,ho,hb⟩:=h
   rw [← hL0] at ho
   obtain ⟨ad,cc,rfl⟩:=ho.form
   exact ⟨ad,cc,he,ho.mono hW.1.size,hb⟩
 have CB2:Hid (∀ W,aI w W w.heap.size (w.heap.size+1) 27 (iaC st it a2 n2 c2 a3 n3 c3 a4 n4 c4 a5 n5 c5) (iaC su iu b2 m2 d2 b3 m3 d3 b4 m4 d4 b5 m5 d5)→Calls Tryz.prog 180 #[.slice rb rm rd,.slice b2 m2 d2] W fun e w'=>∃ ad cc,e=.returned (.slice ad L1.length cc)∧aj w' w.heap.size (.slice ad L1.length cc) L1.length L1∧Below W.heap.size W w'):=fun W hW =>
  (oU rb rm rd rowB b2 m2 d2 jns W (RB.out.below hW.1) (by omega) (Q2.out.below hW.1) (by omega)).mono fun e w' h=>by
   obtain ⟨v,he,ho,hb⟩:=h
   rw [← hL1] at ho
   obtain ⟨ad,cc,rfl⟩:=ho.form
   exact ⟨ad,cc,he,ho.mono hW.1.size,hb⟩
 have CB3:Hid (∀ W,aI w W w.heap.size (w.heap.size+1) 27 (iaC st it a2 n2 c2 a3 n3 c3 a4 n4 c4 a5 n5 c5) (iaC su iu b2 m2 d2 b3 m3 d3 b4 m4 d4 b5 m5 d5)→Calls Tryz.prog 180 #[.slice rb rm rd,.slice b3 m3 d3] W fun e w'=>∃ ad cc,e=.returned (.slice ad L2.length cc)∧aj w' w.heap.size (.slice ad L2.length cc) L2.length L2∧Below W.heap.size W w'):=fun W hW =>
  (oU rb rm rd rowB b3 m3 d3 aF W (RB.out.below hW.1) (by omega) (Q3.out.below hW.1) (by omega)).mono fun e w' h=>by
   obtain ⟨v,he,ho,hb⟩:=h
   rw [← hL2] at ho
   obtain ⟨ad,cc,rfl⟩:=ho.form
   exact ⟨ad,cc,he,ho.mono hW.1.size,hb⟩
 have CA2:Hid (∀ W,aI w W w.heap.size (w.heap.size+1) 27 (iaC st it a2 n2 c2 a3 n3 c3 a4 n4 c4 a5 n5 c5) (iaC su iu b2 m2 d2 b3 m3 d3 b4 m4 d4 b5 m5 d5)→Calls Tryz.prog 180 #[.slice ra rn rc,.slice a2 n2 c2] W fun e w'=>∃ ad cc,e=.returned (.slice ad L3.length cc)∧aj w' w.heap.size (.slice ad L3.length cc) L3.length L3∧Below W.heap.size W w'):=fun W hW =>
  (oU ra rn rc rowA a2 n2 c2 ins W (RA.out.below hW.1) (by omega) (R2.out.below hW.1) (by omega)).mono fun e w' h=>by
   obtain ⟨v,he,ho,hb⟩:=h
   rw [← hL3] at ho
   obtain ⟨ad,cc,rfl⟩:=ho.form
   exact ⟨ad,cc,he,ho.mono hW.1.size,hb⟩
 rw [← hL0,← hL1,← hL2,← hL3]
 clear hL0 hL1 hL2 hL3
 obtain ⟨R,hR⟩:∃ r,r=(dZ sh L0 L1 || dZ sh L2 L3):=⟨_,rfl⟩
 rw [← hR]
 have HR:=Lib.hid hR
 clear hR
 go_enter Tryz.func169,Tryz.ntmps169
 go_wp2_with fail
 go_step3
 go_wp2_with fail
 have SD:=S0.out.drew
 clear S0
 refine wp_region_held_drew (S:=fun w'=>aI w w' w.heap.size (w.heap.size+1) 27 (iaC st it a2 n2 c2 a3 n3 c3 a4 n4 c4 a5 n5 c5) (iaC su iu b2 m2 d2 b3 m3 d3 b4 m4 d4 b5 m5 d5)) (by kernel_rfl) SD (fun hHeld=>?_)
 change wpAnyH _ _ _ _ _ 21 (Array.replicate 21 false) _ _
 refine ag 0 17 (.slice ra rn rc) (fuel:=20) rfl rfl (by kernel_rfl) (fun _ _ _ h=>h) (by rfl) (fun w hSw=>by go_simp) hHeld ?_
 simp only [Act.put,sI0,sI1,sI2]
 refine ag 1 18 (.pointer (some ⟨w.heap.size,3,none⟩)) (fuel:=19) rfl rfl (by kernel_rfl) (fun _ _ _ h=>h) (by rfl) (fun w hSw=>by go_simp) hHeld ?_
 simp only [Act.put,sI0,sI1,sI2]
 refine ag 2 19 (.slice a3 n3 c3) (fuel:=18) rfl rfl (by kernel_rfl) (fun _ _ _ h=>h) (by rfl) (fun w hSw=>by have m:=hSw.2.1.cell (j:=3) (u:=.slice a3 n3 c3) rfl;go_simp) hHeld ?_
 simp only [Act.put,sI0,sI1,sI2]
 refine ag 4 21 (.slice rb rm rd) (fuel:=17) rfl rfl (by kernel_rfl) (fun _ _ _ h=>h) (by rfl) (fun w hSw=>by go_simp) hHeld ?_
 simp only [Act.put,sI0,sI1,sI2]
 refine ag 5 22 (.pointer (some ⟨w.heap.size+1,2,none⟩)) (fuel:=16) rfl rfl (by kernel_rfl) (fun _ _ _ h=>h) (by rfl) (fun w hSw=>by go_simp) hHeld ?_
 simp only [Act.put,sI0,sI1,sI2]
 refine ag 6 23 (.slice b2 m2 d2) (fuel:=15) rfl rfl (by kernel_rfl) (fun _ _ _ h=>h) (by rfl) (fun w hSw=>by have m:=hSw.2.2.cell (j:=2) (u:=.slice b2 m2 d2) rfl;go_simp) hHeld ?_
 simp only [Act.put,sI0,sI1,sI2]
 refine ag 9 26 (.slice rb rm rd) (fuel:=14) rfl rfl (by kernel_rfl) (fun _ _ _ h=>h) (by rfl) (fun w hSw=>by go_simp) hHeld ?_
 simp only [Act.put,sI0,sI1,sI2]
 refine ag 10 27 (.pointer (some ⟨w.heap.size+1,3,none⟩)) (fuel:=13) rfl rfl (by kernel_rfl) (fun _ _ _ h=>h) (by rfl) (fun w hSw=>by go_simp) hHeld ?_
 simp only [Act.put,sI0,sI1,sI2]
 refine ag 11 28 (.slice b3 m3 d3) (fuel:=12) rfl rfl (by kernel_rfl) (fun _ _ _ h=>h) (by rfl) (fun w hSw=>by have m:=hSw.2.2.cell (j:=3) (u:=.slice b3 m3 d3) rfl;go_simp) hHeld ?_
 simp only [Act.put,sI0,sI1,sI2]
 refine ag 13 30 (.slice ra rn rc) (fuel:=11) rfl rfl (by kernel_rfl) (fun _ _ _ h=>h) (by rfl) (fun w hSw=>by go_simp) hHeld ?_
 simp only [Act.put,sI0,sI1,sI2]
 refine ag 14 31 (.pointer (some ⟨w.heap.size,2,none⟩)) (fuel:=10) rfl rfl (by kernel_rfl) (fun _ _ _ h=>h) (by rfl) (fun w hSw=>by go_simp) hHeld ?_
 simp only [Act.put,sI0,sI1,sI2]
 refine ag 15 32 (.slice a2 n2 c2) (fuel:=9) rfl rfl (by kernel_rfl) (fun _ _ _ h=>h) (by rfl) (fun w hSw=>by have m:=hSw.2.1.cell (j:=2) (u:=.slice a2 n2 c2) rfl;go_simp) hHeld ?_
 simp only [Act.put,sI0,sI1,sI2]
 refine zO (ι:=Nat × Option Addr × Nat × Option Addr × Nat × Option Addr × Nat × Option Addr × Nat) (fun i=>⟨#[.agg #[.int .i64 st,.int .i64 it,.slice a2 n2 c2,.slice a3 n3 c3,.slice a4 n4 c4,.slice a5 n5 c5],.agg #[.int .i64 su,.int .i64 iu,.slice b2 m2 d2,.slice b3 m3 d3,.slice b4 m4 d4,.slice b5 m5 d5],.slice sa sn sc,.slice ra rn rc,.slice rb rm rd,.pointer (some ⟨w.heap.size,0,none⟩),.pointer (some ⟨w.heap.size+1,0,none⟩),undef,undef,undef,.bool false,.pointer (some ⟨i.1,0,none⟩),undef,undef,undef,undef,undef,.slice ra rn rc,.pointer (some ⟨w.heap.size,3,none⟩),.slice a3 n3 c3,.slice i.2.1 L0.length i.2.2.1,.slice rb rm rd,.pointer (some ⟨w.heap.size+1,2,none⟩),.slice b2 m2 d2,.slice i.2.2.2.1 L1.length i.2.2.2.2.1,.agg #[.slice i.2.1 L0.length i.2.2.1,.slice i.2.2.2.1 L1.length i.2.2.2.2.1],.slice rb rm rd,.pointer (some ⟨w.heap.size+1,3,none⟩),.slice b3 m3 d3,.slice i.2.2.2.2.2.1 L2.length i.2.2.2.2.2.2.1,.slice ra rn rc,.pointer (some ⟨w.heap.size,2,none⟩),.slice a2 n2 c2,.slice i.2.2.2.2.2.2.2.1 L3.length i.2.2.2.2.2.2.2.2,.agg #[.slice i.2.2.2.2.2.1 L2.length i.2.2.2.2.2.2.1,.slice i.2.2.2.2.2.2.2.1 L3.length i.2.2.2.2.2.2.2.2],.agg #[.slice i.2.1 L0.length i.2.2.1,.slice i.2.2.2.1 L1.length i.2.2.2.2.1,.slice i.2.2.2.2.2.1 L2.length i.2.2.2.2.2.2.1,.slice i.2.2.2.2.2.2.2.1 L3.length i.2.2.2.2.2.2.2.2],undef,undef,undef,undef,undef,undef,undef,undef,undef,undef,undef,undef,undef,undef,undef,undef,undef,undef,undef,undef,undef,undef,undef,undef],[]⟩) (fun i we=>Below w.heap.size w we∧i.1<we.heap.size∧we.rangeAt i.1 0 [.slice i.2.1 L0.length i.2.2.1,.slice i.2.2.2.1 L1.length i.2.2.2.2.1,.slice i.2.2.2.2.2.1 L2.length i.2.2.2.2.2.2.1,.slice i.2.2.2.2.2.2.2.1 L3.length i.2.2.2.2.2.2.2.2]∧aj we w.heap.size (.slice i.2.1 L0.length i.2.2.1) L0.length L0∧aj we w.heap.size (.slice i.2.2.2.1 L1.length i.2.2.2.2.1) L1.length L1∧aj we w.heap.size (.slice i.2.2.2.2.2.1 L2.length i.2.2.2.2.2.2.1) L2.length L2∧aj we w.heap.size (.slice i.2.2.2.2.2.2.2.1 L3.length i.2.2.2.2.2.2.2.2) L3.length L3) ?_ (fun REST=>?_)
 ·rintro ⟨bx,x0,y0,x1,y1,x2,y2,x3,y3⟩ we ⟨hB,hlt,hrg,o0,o1,o2,o3⟩
  simp only at hB hlt hrg o0 o1 o2 o3 ⊢
  clear hHeld SD
  have BE:=Lib.hid hB
  have RG:=Lib.hid hrg
  have P0:=Lib.hid o0.row.2.2.2
  have P1:=Lib.hid o1.row.2.2.2
  have P2:=Lib.hid o2.row.2.2.2
  have P3:=Lib.hid o3.row.2.2.2
  clear hB hrg o0 o1 o2 o3 CA2 CA3 CB2 CB3 R2 R3 R4 R5 Q2 Q3 Q4 Q5 RA RB
  go_wp2_with fail
  go_step3
  go_wp2_with (refine wpList_load_mid rfl _ _ rfl bx 0 rfl [.slice x0 L0.length y0,.slice x1 L1.length y1,.slice x2 L2.length y2,.slice x3 L3.length y3] _ RG.out Tryz.underlying207 rfl (by kernel_rfl) ?_)
  go_loopw [12,37] (fun fv iv wr=>∃ k:Nat,k≤2∧fv=.bool false∧iv=.int .i64 (k:Int)∧Hid (0<k→dZ sh L0 L1=false)∧Hid (1<k→dZ sh L2 L3=false)∧Hid (Below w.heap.size w wr)∧Hid (Below we.heap.size we wr)) (fun _ iv _=>2 - (intOf iv).toNat)
  case atStart=>exact ⟨0,by omega,rfl,rfl,fun h=>absurd h (by omega),fun h=>absurd h (by omega),BE.out,Below.refl _ _⟩
  case round =>
   obtain ⟨k,hk,rfl,rfl,HT0,HT1,HB,HBE⟩:=hrel
   by_cases hlt2:k<2
   ·have hall:∃ (xa:Option Addr) (xc:Nat) (X:List Int) (ya:Option Addr) (yc:Nat) (Y:List Int),(∀ W,(Instr.index 207 (.agg #[.slice x0 L0.length y0,.slice x1 L1.length y1,.slice x2 L2.length y2,.slice x3 L3.length y3]) (.int .i64 (k:Int))).run Tryz.prog W=.ok (.agg #[.slice xa X.length xc,.slice ya Y.length yc]) W)∧Row we xa X.length X∧Row we ya Y.length Y∧X.length≤400∧Y.length≤400∧(dZ sh X Y=true→R=true)∧(dZ sh X Y=false→(0<k+1→dZ sh L0 L1=false)∧(1<k+1→dZ sh L2 L3=false)):=by
     by_cases h0:k=0
     ·subst h0
      exact ⟨x0,y0,L0,x1,y1,L1,fun _=>rfl,P0.out,P1.out,hn0,hn1,fun h=>by rw [HR.out,h];rfl,fun h=>⟨fun _=>h,fun h1=>absurd h1 (by omega)⟩⟩
     ·obtain rfl:k=1:=by omega
      exact ⟨x2,y2,L2,x3,y3,L3,fun _=>rfl,P2.out,P3.out,hn2,hn3,fun h=>by rw [HR.out,h,Bool.or_true],fun h=>⟨fun _=>HT0.out (by omega),fun _=>h⟩⟩
    obtain ⟨xa,xc,X,ya,yc,Y,hix,rx,ry,lx,ly,hyes,hno⟩:=hall
    have RX:=Lib.hid (rx.below HBE.out)
    have RY:=Lib.hid (ry.below HBE.out)
    have HY:=Lib.hid hyes
    have HN:=Lib.hid hno
    obtain ⟨nx,hnx⟩:∃ n,n=X.length:=⟨_,rfl⟩
    rw [← hnx] at hix lx RX
    obtain ⟨ny,hny⟩:∃ n,n=Y.length:=⟨_,rfl⟩
    rw [← hny] at hix ly RY
    have HNX:=Lib.hid hnx
    have hk2:(k:Int)<2:=by omega
    clear rx ry hyes hno hnx hny
    have hW1:Below wr.heap.size wr (wr.alloc (.cells #[.slice xa nx xc,.slice ya ny yc] 206)):=(Below.refl _ _).alloc (Nat.le_refl _) _
    have V1:=ae.new wr #[.slice xa nx xc,.slice ya ny yc] 206 rfl
    have gy:=V1.cell (j:=1) (u:=.slice ya ny yc) rfl
    have RX1:=Lib.hid (RX.out.below hW1)
    have RY1:=Lib.hid (RY.out.below hW1)
    have RS1:=Lib.hid (RS.out.below (HB.out.trans (hW1.mono HB.out.size)))
    have HB1:Hid (Below w.heap.size w (wr.alloc (.cells #[.slice xa nx xc,.slice ya ny yc] 206))):=HB.out.trans (hW1.mono HB.out.size)
    have HBE1:Hid (Below we.heap.size we (wr.alloc (.cells #[.slice xa nx xc,.slice ya ny yc] 206))):=HBE.out.trans (hW1.mono HBE.out.size)
    clear hW1 V1 RX RY HB HBE
    go_wp2_with fail
    go_loopw [12,43] (fun fv jv wr2=>∃ j:Nat,j≤nx∧fv=.bool false∧jv=.int .i64 (j:Int)∧Hid (dZ sh (X.take j) Y=false)∧(wr.alloc (.cells #[.slice xa nx xc,.slice ya ny yc] 206))=wr2) (fun _ jv _=>nx - (intOf jv).toNat)
    case atStart=>exact ⟨0,Nat.zero_le _,rfl,rfl,rfl,rfl⟩
    case round =>
     obtain ⟨j,hj,rfl,rfl,HT,rfl⟩:=hrel
     by_cases wU:j<nx
     ·obtain ⟨b,off,rfl,hb,hcell⟩:=RX1.out.2 (by omega)
      have hjx:j<X.length:=by rw [RX1.out.1];exact wU
      obtain ⟨x,hx⟩:∃ x,x=X[j]:=⟨_,rfl⟩
      have g0:(wr.alloc (.cells #[.slice (some ⟨b,off,none⟩) nx xc,.slice ya ny yc] 206)).cell? ⟨b,off+j,none⟩=some (.int .i64 x):=by
       rw [hcell j wU,getD_eq X j hjx,hx]
      have HST:Hid (dZ sh (X.take (j+1)) Y=(hasB sh x&&!hasB Y x)):=by
       unfold Hid
       rw [List.take_succ_eq_append_getElem hjx,← hx,IQ,HT.out,Bool.false_or]
      have HM:Hid (x∈X):=by unfold Hid;rw [hx];exact List.getElem_mem hjx
      obtain ⟨p,hp⟩:∃ p,p=hasB sh x:=⟨_,rfl⟩
      obtain ⟨q,hq⟩:∃ q,q=hasB Y x:=⟨_,rfl⟩
      have C1:Hid (∀ W,Row W sa sn sh→Calls Tryz.prog 53 #[.slice sa sn sc,.int .i64 x] W fun e w'=>e=.returned (.bool p)∧W=w'):=fun W hW=>by
       rw [hp]
       exact (dB sa sn sc x sh W hW (by omega)).mono fun e w' h=>⟨h.1,h.2.symm⟩
      have C2:Hid (∀ W,Row W ya ny Y→Calls Tryz.prog 53 #[.slice ya ny yc,.int .i64 x] W fun e w'=>e=.returned (.bool q)∧W=w'):=fun W hW=>by
       rw [hq]
       exact (dB ya ny yc x Y W hW (by omega)).mono fun e w' h=>⟨h.1,h.2.symm⟩
      have HP:=Lib.hid hp
      have HQ:=Lib.hid hq
      clear hx hcell hp hq
      go_wp2_with fail
      refine (C1.out _ RS1.out).mono ?_
      rintro e w' ⟨rfl,rfl⟩
      cases p with
      | false =>
       have HS2:Hid (dZ sh (X.take (j+1)) Y=false):=by unfold Hid;rw [HST.out,← HP.out];rfl
       go_wp2_with fail
       go_roundw
       case rel=>exact ⟨j+1,by omega,rfl,by go_num,HS2.out,(by first|rfl|trivial)⟩
       case measure=>simp [intOf];omega
      | true =>
       go_wp2_with fail
       refine (C2.out _ RY1.out).mono ?_
       rintro e w' ⟨rfl,rfl⟩
       cases q with
       | true =>
        have HS2:Hid (dZ sh (X.take (j+1)) Y=false):=by unfold Hid;rw [HST.out,← HP.out,← HQ.out];rfl
        go_wp2_with fail
        go_roundw
        case rel=>exact ⟨j+1,by omega,rfl,by go_num,HS2.out,(by first|rfl|trivial)⟩
        case measure=>simp [intOf];omega
       | false =>
        have HS2:Hid (R=true):=HY.out (J9 HM.out HP.out.symm HQ.out.symm)
        go_wp2_with fail
        try rw [Exit.noGoto_ret]
        go_ret
        rw [HS2.out]
        exact ⟨rfl,HB1.out⟩
     ·have HE:Hid (dZ sh X Y=false):=by
       have:=HT.out
       rw [List.take_of_length_le (by rw [RX1.out.1];omega)] at this
       exact this
      go_wp2_with fail
      go_roundw
      case rel=>exact ⟨k+1,by omega,rfl,by go_num,(HN.out HE.out).1,(HN.out HE.out).2,HB1.out,HBE1.out⟩
      case measure=>simp [intOf];omega
   ·have HE:Hid (R=false):=by unfold Hid;rw [HR.out,HT0.out (by omega),HT1.out (by omega)];rfl
    go_wp2_with fail
    try rw [Exit.noGoto_ret]
    go_ret
    rw [HE.out]
    exact ⟨rfl,HB.out⟩
 refine wpAnyH_ready (rs:=[3,19]) (fuel:=8) (by kernel_rfl) (by simp) ?_
 refine AllReadyH.cons rfl (fun K hK=>?_) ?_
 ·go_simp
  refine (CA3.out _ hHeld).mono ?_
  rintro e wp1 ⟨bT,bU,rfl,ho,hb⟩
  have o01:Hid (aj wp1 w.heap.size (.slice bT L0.length bU) L0.length L0):=ho
  have hS1:=hHeld.below hb
  clear hb ho
  go_wp2_with fail
  refine hK.out _ _ hS1 (fun hHeld=>?_)
  clear hK K hS1
  refine wpAnyH_ready (rs:=[7,19]) (fuel:=7) (by kernel_rfl) (by simp) ?_
  refine AllReadyH.cons rfl (fun K hK=>?_) ?_
  ·go_simp
   refine (CB2.out _ hHeld).mono ?_
   rintro e wp2 ⟨dV,dW,rfl,ho,hb⟩
   have o02:Hid (aj wp2 w.heap.size (.slice bT L0.length bU) L0.length L0):=o01.out.below (hb)
   have o12:Hid (aj wp2 w.heap.size (.slice dV L1.length dW) L1.length L1):=ho
   have hS2:=hHeld.below hb
   clear hb ho
   go_wp2_with fail
   refine hK.out _ _ hS2 (fun hHeld=>?_)
   clear hK K hS2
   refine ag 8 25 (.agg #[.slice bT L0.length bU,.slice dV L1.length dW]) (fuel:=6) rfl rfl (by kernel_rfl) (fun _ _ _ h=>h) (by rfl) (fun w hSw=>by go_simp) hHeld ?_
   simp only [Act.put,sI0,sI1,sI2]
   refine wpAnyH_ready (rs:=[12,19]) (fuel:=5) (by kernel_rfl) (by simp) ?_
   refine AllReadyH.cons rfl (fun K hK=>?_) ?_
   ·go_simp
    refine (CB3.out _ hHeld).mono ?_
    rintro e wp3 ⟨iK,iL,rfl,ho,hb⟩
    have o03:Hid (aj wp3 w.heap.size (.slice bT L0.length bU) L0.length L0):=o02.out.below (hb)
    have o13:Hid (aj wp3 w.heap.size (.slice dV L1.length dW) L1.length L1):=o12.out.below (hb)
    have o23:Hid (aj wp3 w.heap.size (.slice iK L2.length iL) L2.length L2):=ho
    have hS3:=hHeld.below hb
    clear hb ho
    go_wp2_with fail
    refine hK.out _ _ hS3 (fun hHeld=>?_)
    clear hK K hS3
    refine wpAnyH_ready (rs:=[16,19]) (fuel:=4) (by kernel_rfl) (by simp) ?_
    refine AllReadyH.cons rfl (fun K hK=>?_) ?_
    ·go_simp
     refine (CA2.out _ hHeld).mono ?_
     rintro e wp4 ⟨sO,sQ,rfl,ho,hb⟩
     have o04:Hid (aj wp4 w.heap.size (.slice bT L0.length bU) L0.length L0):=o03.out.below (hb)
     have o14:Hid (aj wp4 w.heap.size (.slice dV L1.length dW) L1.length L1):=o13.out.below (hb)
     have o24:Hid (aj wp4 w.heap.size (.slice iK L2.length iL) L2.length L2):=o23.out.below (hb)
     have o34:Hid (aj wp4 w.heap.size (.slice sO L3.length sQ) L3.length L3):=ho
     have hS4:=hHeld.below hb
     clear hb ho
     go_wp2_with fail
     refine hK.out _ _ hS4 (fun hHeld=>?_)
     clear hK K hS4
     refine ag 17 34 (.agg #[.slice iK L2.length iL,.slice sO L3.length sQ]) (fuel:=3) rfl rfl (by kernel_rfl) (fun _ _ _ h=>h) (by rfl) (fun w hSw=>by go_simp) hHeld ?_
     simp only [Act.put,sI0,sI1,sI2]
     refine ag 18 35 (.agg #[.slice bT L0.length bU,.slice dV L1.length dW,.slice iK L2.length iL,.slice sO L3.length sQ]) (fuel:=2) rfl rfl (by kernel_rfl) (fun _ _ _ h=>h) (by rfl) (fun w hSw=>by go_simp) hHeld ?_
     simp only [Act.put,sI0,sI1,sI2]
     refine wpAnyH_ready (rs:=[19]) (fuel:=1) (by kernel_rfl) (by simp) ?_
     refine AllReadyH.cons rfl (fun K hK=>?_) AllReadyH.nil
     have o05:Hid (aj (wp4.alloc (.cells #[.slice none 0 0,.slice none 0 0,.slice none 0 0,.slice none 0 0] 207)) w.heap.size (.slice bT L0.length bU) L0.length L0):=o04.out.below ((Below.refl _ wp4).alloc (Nat.le_refl _) (.cells #[.slice none 0 0,.slice none 0 0,.slice none 0 0,.slice none 0 0] 207))
     have o15:Hid (aj (wp4.alloc (.cells #[.slice none 0 0,.slice none 0 0,.slice none 0 0,.slice none 0 0] 207)) w.heap.size (.slice dV L1.length dW) L1.length L1):=o14.out.below ((Below.refl _ wp4).alloc (Nat.le_refl _) (.cells #[.slice none 0 0,.slice none 0 0,.slice none 0 0,.slice none 0 0] 207))
     have o25:Hid (aj (wp4.alloc (.cells #[.slice none 0 0,.slice none 0 0,.slice none 0 0,.slice none 0 0] 207)) w.heap.size (.slice iK L2.length iL) L2.length L2):=o24.out.below ((Below.refl _ wp4).alloc (Nat.le_refl _) (.cells #[.slice none 0 0,.slice none 0 0,.slice none 0 0,.slice none 0 0] 207))
     have o35:Hid (aj (wp4.alloc (.cells #[.slice none 0 0,.slice none 0 0,.slice none 0 0,.slice none 0 0] 207)) w.heap.size (.slice sO L3.length sQ) L3.length L3):=o34.out.below ((Below.refl _ wp4).alloc (Nat.le_refl _) (.cells #[.slice none 0 0,.slice none 0 0,.slice none 0 0,.slice none 0 0] 207))
     have BL:Hid (w.heap.size+1<wp4.heap.size):=by have h1:=hHeld.2.2.lt;(try simp at h1);unfold Hid;omega
     have vn5:Hid (ae (wp4.alloc (.cells #[.slice none 0 0,.slice none 0 0,.slice none 0 0,.slice none 0 0] 207)) (wp4.heap.size) #[.slice none 0 0,.slice none 0 0,.slice none 0 0,.slice none 0 0] 207):=ae.new wp4 #[.slice none 0 0,.slice none 0 0,.slice none 0 0,.slice none 0 0] 207 (by simp)
     go_simp
     refine hK.out _ _ (hHeld.below ((Below.refl _ wp4).alloc (Nat.le_refl _) (.cells #[.slice none 0 0,.slice none 0 0,.slice none 0 0,.slice none 0 0] 207))) (fun hHeld=>?_)
     clear hK K
     try simp only [Act.put,sI0,sI1,sI2]
     have t1:Hid ((wp4.alloc (.cells #[.slice none 0 0,.slice none 0 0,.slice none 0 0,.slice none 0 0] 207)).there (wp4.heap.size) 0 4):=vn5.out.there rfl
     have g1:=Lib.hid (aA (wp4.heap.size) [.slice bT L0.length bU,.slice dV L1.length dW,.slice iK L2.length iL,.slice sO L3.length sQ] 0 (wp4.alloc (.cells #[.slice none 0 0,.slice none 0 0,.slice none 0 0,.slice none 0 0] 207)))
     have rg:Hid (((wp4.alloc (.cells #[.slice none 0 0,.slice none 0 0,.slice none 0 0,.slice none 0 0] 207)).setCells (wp4.heap.size) 0 [.slice bT L0.length bU,.slice dV L1.length dW,.slice iK L2.length iL,.slice sO L3.length sQ]).rangeAt (wp4.heap.size) 0 [.slice bT L0.length bU,.slice dV L1.length dW,.slice iK L2.length iL,.slice sO L3.length sQ]):=World.rangeAt_setCells_same (wp4.alloc (.cells #[.slice none 0 0,.slice none 0 0,.slice none 0 0,.slice none 0 0] 207)) (wp4.heap.size) 0 [.slice bT L0.length bU,.slice dV L1.length dW,.slice iK L2.length iL,.slice sO L3.length sQ] (by simpa using t1.out)
     have hS9:Hid (aI w ((wp4.alloc (.cells #[.slice none 0 0,.slice none 0 0,.slice none 0 0,.slice none 0 0] 207)).setCells (wp4.heap.size) 0 [.slice bT L0.length bU,.slice dV L1.length dW,.slice iK L2.length iL,.slice sO L3.length sQ]) w.heap.size (w.heap.size+1) 27 (iaC st it a2 n2 c2 a3 n3 c3 a4 n4 c4 a5 n5 c5) (iaC su iu b2 m2 d2 b3 m3 d3 b4 m4 d4 b5 m5 d5)):=⟨hHeld.1.grown g1.out hHeld.1.size (fun q hq=>by have h1:=Option.some.inj hq;have h2:=BL.out;omega),hHeld.2.1.grown g1.out (fun e=>by have h1:=Option.some.inj e;have h2:=BL.out;omega),hHeld.2.2.grown g1.out (fun e=>by have h1:=Option.some.inj e;have h2:=BL.out;omega)⟩
     have lt1:Hid ((wp4.heap.size)<((wp4.alloc (.cells #[.slice none 0 0,.slice none 0 0,.slice none 0 0,.slice none 0 0] 207)).setCells (wp4.heap.size) 0 [.slice bT L0.length bU,.slice dV L1.length dW,.slice iK L2.length iL,.slice sO L3.length sQ]).heap.size):=Nat.lt_of_lt_of_le vn5.out.lt g1.out.size
     have p0:=Lib.hid (o05.out.az vn5.out (by decide) g1.out)
     have p1:=Lib.hid (o15.out.az vn5.out (by decide) g1.out)
     have p2:=Lib.hid (o25.out.az vn5.out (by decide) g1.out)
     have p3:=Lib.hid (o35.out.az vn5.out (by decide) g1.out)
     refine wpAnyH_ready (rs:=[20]) (fuel:=0) (by kernel_rfl) (by simp) ?_
     refine AllReadyH.cons rfl (fun K hK=>?_) AllReadyH.nil
     rw [if_pos (by rfl)]
     refine wp_store_mid _ _ _ rfl (wp4.heap.size) 0 #[.slice bT L0.length bU,.slice dV L1.length dW,.slice iK L2.length iL,.slice sO L3.length sQ] rfl rfl t1.out (by kernel_rfl) (by simp [Value.oneCell'])  ?_
     refine hK.out _ _ hS9.out (fun hHeld=>?_)
     clear hK K
     refine wpAnyH_done (by kernel_rfl) ?_ _
     exact REST.out (wp4.heap.size,bT,bU,dV,dW,iK,iL,sO,sQ) _ ⟨hS9.out.1,lt1.out,rg.out,p0.out,p1.out,p2.out,p3.out⟩
    refine AllReadyH.cons rfl (fun K hK=>?_) AllReadyH.nil
    have o06:Hid (aj (wp3.alloc (.cells #[.slice none 0 0,.slice none 0 0,.slice none 0 0,.slice none 0 0] 207)) w.heap.size (.slice bT L0.length bU) L0.length L0):=o03.out.below ((Below.refl _ wp3).alloc (Nat.le_refl _) (.cells #[.slice none 0 0,.slice none 0 0,.slice none 0 0,.slice none 0 0] 207))
    have o16:Hid (aj (wp3.alloc (.cells #[.slice none 0 0,.slice none 0 0,.slice none 0 0,.slice none 0 0] 207)) w.heap.size (.slice dV L1.length dW) L1.length L1):=o13.out.below ((Below.refl _ wp3).alloc (Nat.le_refl _) (.cells #[.slice none 0 0,.slice none 0 0,.slice none 0 0,.slice none 0 0] 207))
    have o26:Hid (aj (wp3.alloc (.cells #[.slice none 0 0,.slice none 0 0,.slice none 0 0,.slice none 0 0] 207)) w.heap.size (.slice iK L2.length iL) L2.length L2):=o23.out.below ((Below.refl _ wp3).alloc (Nat.le_refl _) (.cells #[.slice none 0 0,.slice none 0 0,.slice none 0 0,.slice none 0 0] 207))
    have BL:Hid (w.heap.size+1<wp3.heap.size):=by have h1:=hHeld.2.2.lt;(try simp at h1);unfold Hid;omega
    have vn6:Hid (ae (wp3.alloc (.cells #[.slice none 0 0,.slice none 0 0,.slice none 0 0,.slice none 0 0] 207)) (wp3.heap.size) #[.slice none 0 0,.slice none 0 0,.slice none 0 0,.slice none 0 0] 207):=ae.new wp3 #[.slice none 0 0,.slice none 0 0,.slice none 0 0,.slice none 0 0] 207 (by simp)
    go_simp
    refine hK.out _ _ (hHeld.below ((Below.refl _ wp3).alloc (Nat.le_refl _) (.cells #[.slice none 0 0,.slice none 0 0,.slice none 0 0,.slice none 0 0] 207))) (fun hHeld=>?_)
    clear hK K
    try simp only [Act.put,sI0,sI1,sI2]
    refine wpAnyH_ready (rs:=[16]) (fuel:=3) (by kernel_rfl) (by simp) ?_
    refine AllReadyH.cons rfl (fun K hK=>?_) AllReadyH.nil
    go_simp
    refine (CA2.out _ hHeld).mono ?_
    rintro e wp7 ⟨uF,uG,rfl,ho,hb⟩
    have o07:Hid (aj wp7 w.heap.size (.slice bT L0.length bU) L0.length L0):=o06.out.below (hb)
    have o17:Hid (aj wp7 w.heap.size (.slice dV L1.length dW) L1.length L1):=o16.out.below (hb)
    have o27:Hid (aj wp7 w.heap.size (.slice iK L2.length iL) L2.length L2):=o26.out.below (hb)
    have v7:Hid (ae wp7 (wp3.heap.size) #[.slice none 0 0,.slice none 0 0,.slice none 0 0,.slice none 0 0] 207):=vn6.out.below (hb)
    have o37:Hid (aj wp7 w.heap.size (.slice uF L3.length uG) L3.length L3):=ho
    have hS7:=hHeld.below hb
    clear hb ho
    go_wp2_with fail
    refine hK.out _ _ hS7 (fun hHeld=>?_)
    clear hK K hS7
    refine ag 17 34 (.agg #[.slice iK L2.length iL,.slice uF L3.length uG]) (fuel:=2) rfl rfl (by kernel_rfl) (fun _ _ _ h=>h) (by rfl) (fun w hSw=>by go_simp) hHeld ?_
    simp only [Act.put,sI0,sI1,sI2]
    refine ag 18 35 (.agg #[.slice bT L0.length bU,.slice dV L1.length dW,.slice iK L2.length iL,.slice uF L3.length uG]) (fuel:=1) rfl rfl (by kernel_rfl) (fun _ _ _ h=>h) (by rfl) (fun w hSw=>by go_simp) hHeld ?_
    simp only [Act.put,sI0,sI1,sI2]
    have t1:Hid (wp7.there (wp3.heap.size) 0 4):=v7.out.there rfl
    have g1:=Lib.hid (aA (wp3.heap.size) [.slice bT L0.length bU,.slice dV L1.length dW,.slice iK L2.length iL,.slice uF L3.length uG] 0 wp7)
    have rg:Hid ((wp7.setCells (wp3.heap.size) 0 [.slice bT L0.length bU,.slice dV L1.length dW,.slice iK L2.length iL,.slice uF L3.length uG]).rangeAt (wp3.heap.size) 0 [.slice bT L0.length bU,.slice dV L1.length dW,.slice iK L2.length iL,.slice uF L3.length uG]):=World.rangeAt_setCells_same wp7 (wp3.heap.size) 0 [.slice bT L0.length bU,.slice dV L1.length dW,.slice iK L2.length iL,.slice uF L3.length uG] (by simpa using t1.out)
    have hS9:Hid (aI w (wp7.setCells (wp3.heap.size) 0 [.slice bT L0.length bU,.slice dV L1.length dW,.slice iK L2.length iL,.slice uF L3.length uG]) w.heap.size (w.heap.size+1) 27 (iaC st it a2 n2 c2 a3 n3 c3 a4 n4 c4 a5 n5 c5) (iaC su iu b2 m2 d2 b3 m3 d3 b4 m4 d4 b5 m5 d5)):=⟨hHeld.1.grown g1.out hHeld.1.size (fun q hq=>by have h1:=Option.some.inj hq;have h2:=BL.out;omega),hHeld.2.1.grown g1.out (fun e=>by have h1:=Option.some.inj e;have h2:=BL.out;omega),hHeld.2.2.grown g1.out (fun e=>by have h1:=Option.some.inj e;have h2:=BL.out;omega)⟩
    have lt1:Hid ((wp3.heap.size)<(wp7.setCells (wp3.heap.size) 0 [.slice bT L0.length bU,.slice dV L1.length dW,.slice iK L2.length iL,.slice uF L3.length uG]).heap.size):=Nat.lt_of_lt_of_le v7.out.lt g1.out.size
    have p0:=Lib.hid (o07.out.az v7.out (by decide) g1.out)
    have p1:=Lib.hid (o17.out.az v7.out (by decide) g1.out)
    have p2:=Lib.hid (o27.out.az v7.out (by decide) g1.out)
    have p3:=Lib.hid (o37.out.az v7.out (by decide) g1.out)
    refine wpAnyH_ready (rs:=[20]) (fuel:=0) (by kernel_rfl) (by simp) ?_
    refine AllReadyH.cons rfl (fun K hK=>?_) AllReadyH.nil
    rw [if_pos (by rfl)]
    refine wp_store_mid _ _ _ rfl (wp3.heap.size) 0 #[.slice bT L0.length bU,.slice dV L1.length dW,.slice iK L2.length iL,.slice uF L3.length uG] rfl rfl t1.out (by kernel_rfl) (by simp [Value.oneCell'])  ?_
    refine hK.out _ _ hS9.out (fun hHeld=>?_)
    clear hK K
    refine wpAnyH_done (by kernel_rfl) ?_ _
    exact REST.out (wp3.heap.size,bT,bU,dV,dW,iK,iL,uF,uG) _ ⟨hS9.out.1,lt1.out,rg.out,p0.out,p1.out,p2.out,p3.out⟩
   refine AllReadyH.cons rfl (fun K hK=>?_) AllReadyH.nil
   have o08:Hid (aj (wp2.alloc (.cells #[.slice none 0 0,.slice none 0 0,.slice none 0 0,.slice none 0 0] 207)) w.heap.size (.slice bT L0.length bU) L0.length L0):=o02.out.below ((Below.refl _ wp2).alloc (Nat.le_refl _) (.cells #[.slice none 0 0,.slice none 0 0,.slice none 0 0,.slice none 0 0] 207))
   have o18:Hid (aj (wp2.alloc (.cells #[.slice none 0 0,.slice none 0 0,.slice none 0 0,.slice none 0 0] 207)) w.heap.size (.slice dV L1.length dW) L1.length L1):=o12.out.below ((Below.refl _ wp2).alloc (Nat.le_refl _) (.cells #[.slice none 0 0,.slice none 0 0,.slice none 0 0,.slice none 0 0] 207))
   have BL:Hid (w.heap.size+1<wp2.heap.size):=by have h1:=hHeld.2.2.lt;(try simp at h1);unfold Hid;omega
   have vn8:Hid (ae (wp2.alloc (.cells #[.slice none 0 0,.slice none 0 0,.slice none 0 0,.slice none 0 0] 207)) (wp2.heap.size) #[.slice none 0 0,.slice none 0 0,.slice none 0 0,.slice none 0 0] 207):=ae.new wp2 #[.slice none 0 0,.slice none 0 0,.slice none 0 0,.slice none 0 0] 207 (by simp)
   go_simp
   refine hK.out _ _ (hHeld.below ((Below.refl _ wp2).alloc (Nat.le_refl _) (.cells #[.slice none 0 0,.slice none 0 0,.slice none 0 0,.slice none 0 0] 207))) (fun hHeld=>?_)
   clear hK K
   try simp only [Act.put,sI0,sI1,sI2]
   refine wpAnyH_ready (rs:=[12]) (fuel:=4) (by kernel_rfl) (by simp) ?_
   refine AllReadyH.cons rfl (fun K hK=>?_) AllReadyH.nil
   go_simp
   refine (CB3.out _ hHeld).mono ?_
   rintro e wp9 ⟨sS,sU,rfl,ho,hb⟩
   have o09:Hid (aj wp9 w.heap.size (.slice bT L0.length bU) L0.length L0):=o08.out.below (hb)
   have o19:Hid (aj wp9 w.heap.size (.slice dV L1.length dW) L1.length L1):=o18.out.below (hb)
   have v9:Hid (ae wp9 (wp2.heap.size) #[.slice none 0 0,.slice none 0 0,.slice none 0 0,.slice none 0 0] 207):=vn8.out.below (hb)
   have o29:Hid (aj wp9 w.heap.size (.slice sS L2.length sU) L2.length L2):=ho
   have hS9:=hHeld.below hb
   clear hb ho
   go_wp2_with fail
   refine hK.out _ _ hS9 (fun hHeld=>?_)
   clear hK K hS9
   refine wpAnyH_ready (rs:=[16]) (fuel:=3) (by kernel_rfl) (by simp) ?_
   refine AllReadyH.cons rfl (fun K hK=>?_) AllReadyH.nil
   go_simp
   refine (CA2.out _ hHeld).mono ?_
   rintro e uH ⟨qL,qM,rfl,ho,hb⟩
   have o010:Hid (aj uH w.heap.size (.slice bT L0.length bU) L0.length L0):=o09.out.below (hb)
   have o110:Hid (aj uH w.heap.size (.slice dV L1.length dW) L1.length L1):=o19.out.below (hb)
   have v10:Hid (ae uH (wp2.heap.size) #[.slice none 0 0,.slice none 0 0,.slice none 0 0,.slice none 0 0] 207):=v9.out.below (hb)
   have o210:Hid (aj uH w.heap.size (.slice sS L2.length sU) L2.length L2):=o29.out.below (hb)
   have o310:Hid (aj uH w.heap.size (.slice qL L3.length qM) L3.length L3):=ho
   have BI:=hHeld.below hb
   clear hb ho
   go_wp2_with fail
   refine hK.out _ _ BI (fun hHeld=>?_)
   clear hK K BI
   refine ag 17 34 (.agg #[.slice sS L2.length sU,.slice qL L3.length qM]) (fuel:=2) rfl rfl (by kernel_rfl) (fun _ _ _ h=>h) (by rfl) (fun w hSw=>by go_simp) hHeld ?_
   simp only [Act.put,sI0,sI1,sI2]
   refine ag 18 35 (.agg #[.slice bT L0.length bU,.slice dV L1.length dW,.slice sS L2.length sU,.slice qL L3.length qM]) (fuel:=1) rfl rfl (by kernel_rfl) (fun _ _ _ h=>h) (by rfl) (fun w hSw=>by go_simp) hHeld ?_
   simp only [Act.put,sI0,sI1,sI2]
   have t1:Hid (uH.there (wp2.heap.size) 0 4):=v10.out.there rfl
   have g1:=Lib.hid (aA (wp2.heap.size) [.slice bT L0.length bU,.slice dV L1.length dW,.slice sS L2.length sU,.slice qL L3.length qM] 0 uH)
   have rg:Hid ((uH.setCells (wp2.heap.size) 0 [.slice bT L0.length bU,.slice dV L1.length dW,.slice sS L2.length sU,.slice qL L3.length qM]).rangeAt (wp2.heap.size) 0 [.slice bT L0.length bU,.slice dV L1.length dW,.slice sS L2.length sU,.slice qL L3.length qM]):=World.rangeAt_setCells_same uH (wp2.heap.size) 0 [.slice bT L0.length bU,.slice dV L1.length dW,.slice sS L2.length sU,.slice qL L3.length qM] (by simpa using t1.out)
   have hS9:Hid (aI w (uH.setCells (wp2.heap.size) 0 [.slice bT L0.length bU,.slice dV L1.length dW,.slice sS L2.length sU,.slice qL L3.length qM]) w.heap.size (w.heap.size+1) 27 (iaC st it a2 n2 c2 a3 n3 c3 a4 n4 c4 a5 n5 c5) (iaC su iu b2 m2 d2 b3 m3 d3 b4 m4 d4 b5 m5 d5)):=⟨hHeld.1.grown g1.out hHeld.1.size (fun q hq=>by have h1:=Option.some.inj hq;have h2:=BL.out;omega),hHeld.2.1.grown g1.out (fun e=>by have h1:=Option.some.inj e;have h2:=BL.out;omega),hHeld.2.2.grown g1.out (fun e=>by have h1:=Option.some.inj e;have h2:=BL.out;omega)⟩
   have lt1:Hid ((wp2.heap.size)<(uH.setCells (wp2.heap.size) 0 [.slice bT L0.length bU,.slice dV L1.length dW,.slice sS L2.length sU,.slice qL L3.length qM]).heap.size):=Nat.lt_of_lt_of_le v10.out.lt g1.out.size
   have p0:=Lib.hid (o010.out.az v10.out (by decide) g1.out)
   have p1:=Lib.hid (o110.out.az v10.out (by decide) g1.out)
   have p2:=Lib.hid (o210.out.az v10.out (by decide) g1.out)
   have p3:=Lib.hid (o310.out.az v10.out (by decide) g1.out)
   refine wpAnyH_ready (rs:=[20]) (fuel:=0) (by kernel_rfl) (by simp) ?_
   refine AllReadyH.cons rfl (fun K hK=>?_) AllReadyH.nil
   rw [if_pos (by rfl)]
   refine wp_store_mid _ _ _ rfl (wp2.heap.size) 0 #[.slice bT L0.length bU,.slice dV L1.length dW,.slice sS L2.length sU,.slice qL L3.length qM] rfl rfl t1.out (by kernel_rfl) (by simp [Value.oneCell'])  ?_
   refine hK.out _ _ hS9.out (fun hHeld=>?_)
   clear hK K
   refine wpAnyH_done (by kernel_rfl) ?_ _
   exact REST.out (wp2.heap.size,bT,bU,dV,dW,sS,sU,qL,qM) _ ⟨hS9.out.1,lt1.out,rg.out,p0.out,p1.out,p2.out,p3.out⟩
  refine AllReadyH.cons rfl (fun K hK=>?_) AllReadyH.nil
  have o011:Hid (aj (wp1.alloc (.cells #[.slice none 0 0,.slice none 0 0,.slice none 0 0,.slice none 0 0] 207)) w.heap.size (.slice bT L0.length bU) L0.length L0):=o01.out.below ((Below.refl _ wp1).alloc (Nat.le_refl _) (.cells #[.slice none 0 0,.slice none 0 0,.slice none 0 0,.slice none 0 0] 207))
  have BL:Hid (w.heap.size+1<wp1.heap.size):=by have h1:=hHeld.2.2.lt;(try simp at h1);unfold Hid;omega
  have vn11:Hid (ae (wp1.alloc (.cells #[.slice none 0 0,.slice none 0 0,.slice none 0 0,.slice none 0 0] 207)) (wp1.heap.size) #[.slice none 0 0,.slice none 0 0,.slice none 0 0,.slice none 0 0] 207):=ae.new wp1 #[.slice none 0 0,.slice none 0 0,.slice none 0 0,.slice none 0 0] 207 (by simp)
  go_simp
  refine hK.out _ _ (hHeld.below ((Below.refl _ wp1).alloc (Nat.le_refl _) (.cells #[.slice none 0 0,.slice none 0 0,.slice none 0 0,.slice none 0 0] 207))) (fun hHeld=>?_)
  clear hK K
  try simp only [Act.put,sI0,sI1,sI2]
  refine wpAnyH_ready (rs:=[7]) (fuel:=6) (by kernel_rfl) (by simp) ?_
  refine AllReadyH.cons rfl (fun K hK=>?_) AllReadyH.nil
  go_simp
  refine (CB2.out _ hHeld).mono ?_
  rintro e iI ⟨nV,nX,rfl,ho,hb⟩
  have o012:Hid (aj iI w.heap.size (.slice bT L0.length bU) L0.length L0):=o011.out.below (hb)
  have v12:Hid (ae iI (wp1.heap.size) #[.slice none 0 0,.slice none 0 0,.slice none 0 0,.slice none 0 0] 207):=vn11.out.below (hb)
  have o112:Hid (aj iI w.heap.size (.slice nV L1.length nX) L1.length L1):=ho
  have rD:=hHeld.below hb
  clear hb ho
  go_wp2_with fail
  refine hK.out _ _ rD (fun hHeld=>?_)
  clear hK K rD
  refine ag 8 25 (.agg #[.slice bT L0.length bU,.slice nV L1.length nX]) (fuel:=5) rfl rfl (by kernel_rfl) (fun _ _ _ h=>h) (by rfl) (fun w hSw=>by go_simp) hHeld ?_
  simp only [Act.put,sI0,sI1,sI2]
  refine wpAnyH_ready (rs:=[12]) (fuel:=4) (by kernel_rfl) (by simp) ?_
  refine AllReadyH.cons rfl (fun K hK=>?_) AllReadyH.nil
  go_simp
  refine (CB3.out _ hHeld).mono ?_
  rintro e bf ⟨oZ,pg,rfl,ho,hb⟩
  have o013:Hid (aj bf w.heap.size (.slice bT L0.length bU) L0.length L0):=o012.out.below (hb)
  have v13:Hid (ae bf (wp1.heap.size) #[.slice none 0 0,.slice none 0 0,.slice none 0 0,.slice none 0 0] 207):=v12.out.below (hb)
  have o113:Hid (aj bf w.heap.size (.slice nV L1.length nX) L1.length L1):=o112.out.below (hb)
  have o213:Hid (aj bf w.heap.size (.slice oZ L2.length pg) L2.length L2):=ho
  have rE:=hHeld.below hb
  clear hb ho
  go_wp2_with fail
  refine hK.out _ _ rE (fun hHeld=>?_)
  clear hK K rE
  refine wpAnyH_ready (rs:=[16]) (fuel:=3) (by kernel_rfl) (by simp) ?_
  refine AllReadyH.cons rfl (fun K hK=>?_) AllReadyH.nil
  go_simp
  refine (CA2.out _ hHeld).mono ?_
  rintro e kC ⟨qN,qO,rfl,ho,hb⟩
  have o014:Hid (aj kC w.heap.size (.slice bT L0.length bU) L0.length L0):=o013.out.below (hb)
  have v14:Hid (ae kC (wp1.heap.size) #[.slice none 0 0,.slice none 0 0,.slice none 0 0,.slice none 0 0] 207):=v13.out.below (hb)
  have o114:Hid (aj kC w.heap.size (.slice nV L1.length nX) L1.length L1):=o113.out.below (hb)
  have o214:Hid (aj kC w.heap.size (.slice oZ L2.length pg) L2.length L2):=o213.out.below (hb)
  have o314:Hid (aj kC w.heap.size (.slice qN L3.length qO) L3.length L3):=ho
  have zN:=hHeld.below hb
  clear hb ho
  go_wp2_with fail
  refine hK.out _ _ zN (fun hHeld=>?_)
  clear hK K zN
  refine ag 17 34 (.agg #[.slice oZ L2.length pg,.slice qN L3.length qO]) (fuel:=2) rfl rfl (by kernel_rfl) (fun _ _ _ h=>h) (by rfl) (fun w hSw=>by go_simp) hHeld ?_
  simp only [Act.put,sI0,sI1,sI2]
  refine ag 18 35 (.agg #[.slice bT L0.length bU,.slice nV L1.length nX,.slice oZ L2.length pg,.slice qN L3.length qO]) (fuel:=1) rfl rfl (by kernel_rfl) (fun _ _ _ h=>h) (by rfl) (fun w hSw=>by go_simp) hHeld ?_
  simp only [Act.put,sI0,sI1,sI2]
  have t1:Hid (kC.there (wp1.heap.size) 0 4):=v14.out.there rfl
  have g1:=Lib.hid (aA (wp1.heap.size) [.slice bT L0.length bU,.slice nV L1.length nX,.slice oZ L2.length pg,.slice qN L3.length qO] 0 kC)
  have rg:Hid ((kC.setCells (wp1.heap.size) 0 [.slice bT L0.length bU,.slice nV L1.length nX,.slice oZ L2.length pg,.slice qN L3.length qO]).rangeAt (wp1.heap.size) 0 [.slice bT L0.length bU,.slice nV L1.length nX,.slice oZ L2.length pg,.slice qN L3.length qO]):=World.rangeAt_setCells_same kC (wp1.heap.size) 0 [.slice bT L0.length bU,.slice nV L1.length nX,.slice oZ L2.length pg,.slice qN L3.length qO] (by simpa using t1.out)
  have hS9:Hid (aI w (kC.setCells (wp1.heap.size) 0 [.slice bT L0.length bU,.slice nV L1.length nX,.slice oZ L2.length pg,.slice qN L3.length qO]) w.heap.size (w.heap.size+1) 27 (iaC st it a2 n2 c2 a3 n3 c3 a4 n4 c4 a5 n5 c5) (iaC su iu b2 m2 d2 b3 m3 d3 b4 m4 d4 b5 m5 d5)):=⟨hHeld.1.grown g1.out hHeld.1.size (fun q hq=>by have h1:=Option.some.inj hq;have h2:=BL.out;omega),hHeld.2.1.grown g1.out (fun e=>by have h1:=Option.some.inj e;have h2:=BL.out;omega),hHeld.2.2.grown g1.out (fun e=>by have h1:=Option.some.inj e;have h2:=BL.out;omega)⟩
  have lt1:Hid ((wp1.heap.size)<(kC.setCells (wp1.heap.size) 0 [.slice bT L0.length bU,.slice nV L1.length nX,.slice oZ L2.length pg,.slice qN L3.length qO]).heap.size):=Nat.lt_of_lt_of_le v14.out.lt g1.out.size
  have p0:=Lib.hid (o014.out.az v14.out (by decide) g1.out)
  have p1:=Lib.hid (o114.out.az v14.out (by decide) g1.out)
  have p2:=Lib.hid (o214.out.az v14.out (by decide) g1.out)
  have p3:=Lib.hid (o314.out.az v14.out (by decide) g1.out)
  refine wpAnyH_ready (rs:=[20]) (fuel:=0) (by kernel_rfl) (by simp) ?_
  refine AllReadyH.cons rfl (fun K hK=>?_) AllReadyH.nil
  rw [if_pos (by rfl)]
  refine wp_store_mid _ _ _ rfl (wp1.heap.size) 0 #[.slice bT L0.length bU,.slice nV L1.length nX,.slice oZ L2.length pg,.slice qN L3.length qO] rfl rfl t1.out (by kernel_rfl) (by simp [Value.oneCell'])  ?_
  refine hK.out _ _ hS9.out (fun hHeld=>?_)
  clear hK K
  refine wpAnyH_done (by kernel_rfl) ?_ _
  exact REST.out (wp1.heap.size,bT,bU,nV,nX,oZ,pg,qN,qO) _ ⟨hS9.out.1,lt1.out,rg.out,p0.out,p1.out,p2.out,p3.out⟩
 refine AllReadyH.cons rfl (fun K hK=>?_) AllReadyH.nil
 have BL:Hid (w.heap.size+1<w.heap.size+1+1):=by have h1:=hHeld.2.2.lt;(try simp at h1);unfold Hid;omega
 have vn15:Hid (ae (((w.alloc (.cells #[.int .i64 st,.int .i64 it,.slice a2 n2 c2,.slice a3 n3 c3,.slice a4 n4 c4,.slice a5 n5 c5] 27)).alloc (.cells #[.int .i64 su,.int .i64 iu,.slice b2 m2 d2,.slice b3 m3 d3,.slice b4 m4 d4,.slice b5 m5 d5] 27)).drew.alloc (.cells #[.slice none 0 0,.slice none 0 0,.slice none 0 0,.slice none 0 0] 207)) (w.heap.size+1+1) #[.slice none 0 0,.slice none 0 0,.slice none 0 0,.slice none 0 0] 207):=ae.new ((w.alloc (.cells #[.int .i64 st,.int .i64 it,.slice a2 n2 c2,.slice a3 n3 c3,.slice a4 n4 c4,.slice a5 n5 c5] 27)).alloc (.cells #[.int .i64 su,.int .i64 iu,.slice b2 m2 d2,.slice b3 m3 d3,.slice b4 m4 d4,.slice b5 m5 d5] 27)).drew #[.slice none 0 0,.slice none 0 0,.slice none 0 0,.slice none 0 0] 207 (by simp)
 go_simp
 refine hK.out _ _ (hHeld.below ((Below.refl _ ((w.alloc (.cells #[.int .i64 st,.int .i64 it,.slice a2 n2 c2,.slice a3 n3 c3,.slice a4 n4 c4,.slice a5 n5 c5] 27)).alloc (.cells #[.int .i64 su,.int .i64 iu,.slice b2 m2 d2,.slice b3 m3 d3,.slice b4 m4 d4,.slice b5 m5 d5] 27)).drew).alloc (Nat.le_refl _) (.cells #[.slice none 0 0,.slice none 0 0,.slice none 0 0,.slice none 0 0] 207))) (fun hHeld=>?_)
 clear hK K
 try simp only [Act.put,sI0,sI1,sI2]
 refine wpAnyH_ready (rs:=[3]) (fuel:=7) (by kernel_rfl) (by simp) ?_
 refine AllReadyH.cons rfl (fun K hK=>?_) AllReadyH.nil
 go_simp
 refine (CA3.out _ hHeld).mono ?_
 rintro e eu ⟨kV,kW,rfl,ho,hb⟩
 have v16:Hid (ae eu (w.heap.size+1+1) #[.slice none 0 0,.slice none 0 0,.slice none 0 0,.slice none 0 0] 207):=vn15.out.below (hb)
 have o016:Hid (aj eu w.heap.size (.slice kV L0.length kW) L0.length L0):=ho
 have yw:=hHeld.below hb
 clear hb ho
 go_wp2_with fail
 refine hK.out _ _ yw (fun hHeld=>?_)
 clear hK K yw
 refine wpAnyH_ready (rs:=[7]) (fuel:=6) (by kernel_rfl) (by simp) ?_
 refine AllReadyH.cons rfl (fun K hK=>?_) AllReadyH.nil
 go_simp
 refine (CB2.out _ hHeld).mono ?_
 rintro e wp17 ⟨nY,nZ,rfl,ho,hb⟩
 have v17:Hid (ae wp17 (w.heap.size+1+1) #[.slice none 0 0,.slice none 0 0,.slice none 0 0,.slice none 0 0] 207):=v16.out.below (hb)
 have o017:Hid (aj wp17 w.heap.size (.slice kV L0.length kW) L0.length L0):=o016.out.below (hb)
 have o117:Hid (aj wp17 w.heap.size (.slice nY L1.length nZ) L1.length L1):=ho
 have hS17:=hHeld.below hb
 clear hb ho
 go_wp2_with fail
 refine hK.out _ _ hS17 (fun hHeld=>?_)
 clear hK K hS17
 refine ag 8 25 (.agg #[.slice kV L0.length kW,.slice nY L1.length nZ]) (fuel:=5) rfl rfl (by kernel_rfl) (fun _ _ _ h=>h) (by rfl) (fun w hSw=>by go_simp) hHeld ?_
 simp only [Act.put,sI0,sI1,sI2]
 refine wpAnyH_ready (rs:=[12]) (fuel:=4) (by kernel_rfl) (by simp) ?_
 refine AllReadyH.cons rfl (fun K hK=>?_) AllReadyH.nil
 go_simp
 refine (CB3.out _ hHeld).mono ?_
 rintro e dL ⟨pq,pG,rfl,ho,hb⟩
 have v18:Hid (ae dL (w.heap.size+1+1) #[.slice none 0 0,.slice none 0 0,.slice none 0 0,.slice none 0 0] 207):=v17.out.below (hb)
 have o018:Hid (aj dL w.heap.size (.slice kV L0.length kW) L0.length L0):=o017.out.below (hb)
 have o118:Hid (aj dL w.heap.size (.slice nY L1.length nZ) L1.length L1):=o117.out.below (hb)
 have o218:Hid (aj dL w.heap.size (.slice pq L2.length pG) L2.length L2):=ho
 have yx:=hHeld.below hb
 clear hb ho
 go_wp2_with fail
 refine hK.out _ _ yx (fun hHeld=>?_)
 clear hK K yx
 refine wpAnyH_ready (rs:=[16]) (fuel:=3) (by kernel_rfl) (by simp) ?_
 refine AllReadyH.cons rfl (fun K hK=>?_) AllReadyH.nil
 go_simp
 refine (CA2.out _ hHeld).mono ?_
 rintro e bC ⟨qP,qQ,rfl,ho,hb⟩
 have v19:Hid (ae bC (w.heap.size+1+1) #[.slice none 0 0,.slice none 0 0,.slice none 0 0,.slice none 0 0] 207):=v18.out.below (hb)
 have o019:Hid (aj bC w.heap.size (.slice kV L0.length kW) L0.length L0):=o018.out.below (hb)
 have o119:Hid (aj bC w.heap.size (.slice nY L1.length nZ) L1.length L1):=o118.out.below (hb)
 have o219:Hid (aj bC w.heap.size (.slice pq L2.length pG) L2.length L2):=o218.out.below (hb)
 have o319:Hid (aj bC w.heap.size (.slice qP L3.length qQ) L3.length L3):=ho
 have yz:=hHeld.below hb
 clear hb ho
 go_wp2_with fail
 refine hK.out _ _ yz (fun hHeld=>?_)
 clear hK K yz
 refine ag 17 34 (.agg #[.slice pq L2.length pG,.slice qP L3.length qQ]) (fuel:=2) rfl rfl (by kernel_rfl) (fun _ _ _ h=>h) (by rfl) (fun w hSw=>by go_simp) hHeld ?_
 simp only [Act.put,sI0,sI1,sI2]
 refine ag 18 35 (.agg #[.slice kV L0.length kW,.slice nY L1.length nZ,.slice pq L2.length pG,.slice qP L3.length qQ]) (fuel:=1) rfl rfl (by kernel_rfl) (fun _ _ _ h=>h) (by rfl) (fun w hSw=>by go_simp) hHeld ?_
 simp only [Act.put,sI0,sI1,sI2]
 have t1:Hid (bC.there (w.heap.size+1+1) 0 4):=v19.out.there rfl
 have g1:=Lib.hid (aA (w.heap.size+1+1) [.slice kV L0.length kW,.slice nY L1.length nZ,.slice pq L2.length pG,.slice qP L3.length qQ] 0 bC)
 have rg:Hid ((bC.setCells (w.heap.size+1+1) 0 [.slice kV L0.length kW,.slice nY L1.length nZ,.slice pq L2.length pG,.slice qP L3.length qQ]).rangeAt (w.heap.size+1+1) 0 [.slice kV L0.length kW,.slice nY L1.length nZ,.slice pq L2.length pG,.slice qP L3.length qQ]):=World.rangeAt_setCells_same bC (w.heap.size+1+1) 0 [.slice kV L0.length kW,.slice nY L1.length nZ,.slice pq L2.length pG,.slice qP L3.length qQ] (by simpa using t1.out)
 have hS9:Hid (aI w (bC.setCells (w.heap.size+1+1) 0 [.slice kV L0.length kW,.slice nY L1.length nZ,.slice pq L2.length pG,.slice qP L3.length qQ]) w.heap.size (w.heap.size+1) 27 (iaC st it a2 n2 c2 a3 n3 c3 a4 n4 c4 a5 n5 c5) (iaC su iu b2 m2 d2 b3 m3 d3 b4 m4 d4 b5 m5 d5)):=⟨hHeld.1.grown g1.out hHeld.1.size (fun q hq=>by have h1:=Option.some.inj hq;have h2:=BL.out;omega),hHeld.2.1.grown g1.out (fun e=>by have h1:=Option.some.inj e;have h2:=BL.out;omega),hHeld.2.2.grown g1.out (fun e=>by have h1:=Option.some.inj e;have h2:=BL.out;omega)⟩
 have lt1:Hid ((w.heap.size+1+1)<(bC.setCells (w.heap.size+1+1) 0 [.slice kV L0.length kW,.slice nY L1.length nZ,.slice pq L2.length pG,.slice qP L3.length qQ]).heap.size):=Nat.lt_of_lt_of_le v19.out.lt g1.out.size
 have p0:=Lib.hid (o019.out.az v19.out (by decide) g1.out)
 have p1:=Lib.hid (o119.out.az v19.out (by decide) g1.out)
 have p2:=Lib.hid (o219.out.az v19.out (by decide) g1.out)
 have p3:=Lib.hid (o319.out.az v19.out (by decide) g1.out)
 refine wpAnyH_ready (rs:=[20]) (fuel:=0) (by kernel_rfl) (by simp) ?_
 refine AllReadyH.cons rfl (fun K hK=>?_) AllReadyH.nil
 rw [if_pos (by rfl)]
 refine wp_store_mid _ _ _ rfl (w.heap.size+1+1) 0 #[.slice kV L0.length kW,.slice nY L1.length nZ,.slice pq L2.length pG,.slice qP L3.length qQ] rfl rfl t1.out (by kernel_rfl) (by simp [Value.oneCell'])  ?_
 refine hK.out _ _ hS9.out (fun hHeld=>?_)
 clear hK K
 refine wpAnyH_done (by kernel_rfl) ?_ _
 exact REST.out (w.heap.size+1+1,kV,kW,nY,nZ,pq,pG,qP,qQ) _ ⟨hS9.out.1,lt1.out,rg.out,p0.out,p1.out,p2.out,p3.out⟩
open Go.RowKit
def af:Array Value:=#[.slice none 0 0,.slice none 0 0,.slice none 0 0,.slice none 0 0,.slice none 0 0,.slice none 0 0,.slice none 0 0,.slice none 0 0,.slice none 0 0,.slice none 0 0,.slice none 0 0,.slice none 0 0,.slice none 0 0,.slice none 0 0,.slice none 0 0,.slice none 0 0,.slice none 0 0,.slice none 0 0,.slice none 0 0,.slice none 0 0,.slice none 0 0,.slice none 0 0,.slice none 0 0,.slice none 0 0,.slice none 0 0,.slice none 0 0,.slice none 0 0,.slice none 0 0,.slice none 0 0,.slice none 0 0,.slice none 0 0,.slice none 0 0,.slice none 0 0,.slice none 0 0,.slice none 0 0,.slice none 0 0,.slice none 0 0,.slice none 0 0,.slice none 0 0,.slice none 0 0]
theorem Jg (C:Int→Int→Bool) (m k j:Nat) (h:C k j=true):Bi (fP C m k j) k j=fP C m k (j+1):=by
 funext p q
 unfold Bi
 by_cases e:p=k∧q=j
 ·rw [if_pos e]
  obtain ⟨rfl,rfl⟩:=e
  unfold fP
  rw [h,decide_eq_true (p:=((k:Int)=k∧0≤(j:Int)∧(j:Int)<((j+1:Nat):Int))) (by omega)]
  simp
 ·rw [if_neg e]
  unfold fP
  congr 1
  rw [Bool.eq_iff_iff]
  simp only [Bool.or_eq_true,decide_eq_true_eq]
  omega
theorem yM (a b:IaD) (v u:Value) (w:World) (h:aB w a v) (k:aB w b u) (fa:Small a) (fb:Small b) (oka:aJ a=true) (okb:aJ b=true) :
  Calls Tryz.prog 120 #[v,u] w fun e w'=>∃ M n,e=.returned (.map (some M))∧eQ w' M n (fP (iV a b) b.states.toNat a.states.toNat 0)∧w.heap.size≤M∧n≤1600∧Below w.heap.size w w':=by
 have CSH:Hid (∀ W,Below w.heap.size w W→Calls Tryz.prog 60 #[v,u] W (bY W W.heap.size (aY a b))):=fun W hW=>vV a b v u W (h.below hW) (k.below hW) fa fb
 have CCL:Hid (∀ W sa sn sc sh ra rn rc rowA rb rm rd rowB,Below w.heap.size w W→Row W sa sn sh→sn≤1048576→eP W ra rn rowA→rn≤400→eP W rb rm rowB→rm≤400→Calls Tryz.prog 169 #[v,u,.slice sa sn sc,.slice ra rn rc,.slice rb rm rd] W fun e w'=>e=.returned (.bool (dZ sh (Lib.compact (dM rowA a.outs)) (Lib.compact (dM rowB b.ins)) || dZ sh (Lib.compact (dM rowB b.outs)) (Lib.compact (dM rowA a.ins))))∧Below W.heap.size W w'):=fun W sa sn sc sh ra rn rc rowA rb rm rd rowB hW h1 h2 h3 h4 h5 h6=>Jf a b v u W (h.below hW) (k.below hW) fa fb sa sn sc sh h1 h2 ra rn rc rowA h3 h4 rb rm rd rowB h5 h6
 have sA:=aN oka
 have sB:=aN okb
 have HEA:Hid (∀ s set,Lib.compact (dM (rowL a.steps s) set)=ofL a.steps s set):=fun s set=>DL oka s set
 have HEB:Hid (∀ s set,Lib.compact (dM (rowL b.steps s) set)=ofL b.steps s set):=fun s set=>DL okb s set
 have lA:=dD oka
 have lB:=dD okb
 have HLA:=Lib.hid (zC oka)
 have HLB:=Lib.hid (zC okb)
 have lsh:(aY a b).length≤2097152:=by have h1:=IG a b;obtain ⟨h2,h3,_⟩:=fa;omega
 have lsh2:(aY a b).length≤1048576:=Nat.le_trans (DW oka) (by omega)
 clear oka okb
 obtain ⟨a2,n2,c2,a3,n3,c3,a4,n4,c4,a5,n5,c5,rfl,r2,r3,r4,r5⟩:=h
 obtain ⟨b2,m2,d2,b3,m3,d3,b4,m4,d4,b5,m5,d5,rfl,q2,q3,q4,q5⟩:=k
 obtain ⟨st,it,ins,outs,ah,steps⟩:=a
 obtain ⟨su,iu,jns,aF,aG,ax⟩:=b
 obtain ⟨f2,f3,f4,f5⟩:=fa
 obtain ⟨g2,g3,g4,g5⟩:=fb
 simp only at r2 r3 r4 r5 q2 q3 q4 q5 f2 f3 f4 f5 g2 g3 g4 g5
 have HA:Hid (∀ W,Below w.heap.size w W→aB W ⟨st,it,ins,outs,ah,steps⟩ (.agg #[.int .i64 st,.int .i64 it,.slice a2 n2 c2,.slice a3 n3 c3,.slice a4 n4 c4,.slice a5 n5 c5])):=fun W hW=>aB.below ⟨a2,n2,c2,a3,n3,c3,a4,n4,c4,a5,n5,c5,rfl,r2,r3,r4,r5⟩ hW
 have HB:Hid (∀ W,Below w.heap.size w W→aB W ⟨su,iu,jns,aF,aG,ax⟩ (.agg #[.int .i64 su,.int .i64 iu,.slice b2 m2 d2,.slice b3 m3 d3,.slice b4 m4 d4,.slice b5 m5 d5])):=fun W hW=>aB.below ⟨b2,m2,d2,b3,m3,d3,b4,m4,d4,b5,m5,d5,rfl,q2,q3,q4,q5⟩ hW
 have S0:=Lib.hid (aI.start w (iaC st it a2 n2 c2 a3 n3 c3 a4 n4 c4 a5 n5 c5) (iaC su iu b2 m2 d2 b3 m3 d3 b4 m4 d4 b5 m5 d5) 27)
 have e2:=r2.1
 have e3:=r3.1
 have e4:=r4.1
 have k2:=q2.1
 have k3:=q3.1
 have k4:=q4.1
 rw [e2] at f2
 rw [e3] at f3
 rw [e4] at f4
 rw [k2] at g2
 rw [k3] at g3
 rw [k4] at g4
 have R2:=Lib.hid r2
 have R3:=Lib.hid r3
 have R4:=Lib.hid r4
 have R5:=Lib.hid r5
 have Q2:=Lib.hid q2
 have Q3:=Lib.hid q3
 have Q4:=Lib.hid q4
 have Q5:=Lib.hid q5
 clear r2 r3 r4 r5 q2 q3 q4 q5
 obtain ⟨C,hC⟩:∃ C,C=iV ⟨st,it,ins,outs,ah,steps⟩ ⟨su,iu,jns,aF,aG,ax⟩:=⟨_,rfl⟩
 rw [← hC]
 have HCC:=Lib.hid hC
 clear hC HA HB
 simp only at sA sB lA lB HEA HEB HLA HLB CCL CSH lsh lsh2 ⊢
 obtain ⟨nA,hnA⟩:∃ n:Nat,st=(n:Int):=⟨st.toNat,by omega⟩
 obtain ⟨nB,hnB⟩:∃ n:Nat,su=(n:Int):=⟨su.toNat,by omega⟩
 have e1:st.toNat=nA:=by omega
 have e2':su.toNat=nB:=by omega
 rw [e1,e2']
 clear e1 e2'
 have DY:nA≤40:=by omega
 have Bv:nB≤40:=by omega
 have HNA:=Lib.hid hnA
 have HNB:=Lib.hid hnB
 clear hnA hnB
 obtain ⟨L,hL⟩:∃ L,L=aY ⟨st,it,ins,outs,ah,steps⟩ ⟨su,iu,jns,aF,aG,ax⟩:=⟨_,rfl⟩
 rw [← hL] at CSH lsh lsh2
 have HL:=Lib.hid hL
 clear hL
 obtain ⟨sn,hsn⟩:∃ n,n=L.length:=⟨_,rfl⟩
 have CSX:Hid (∀ W,Below w.heap.size w W→Calls Tryz.prog 60 #[.agg #[.int .i64 st,.int .i64 it,.slice a2 n2 c2,.slice a3 n3 c3,.slice a4 n4 c4,.slice a5 n5 c5],.agg #[.int .i64 su,.int .i64 iu,.slice b2 m2 d2,.slice b3 m3 d3,.slice b4 m4 d4,.slice b5 m5 d5]] W fun e w'=>∃ ad cc,e=.returned (.slice ad sn cc)∧aj w' w.heap.size (.slice ad sn cc) sn L∧Below W.heap.size W w'):=fun W hW =>
  (CSH.out W hW).mono fun e w' h=>by
   obtain ⟨v,he,ho,hb⟩:=h
   rw [← hsn] at ho
   obtain ⟨ad,cc,rfl⟩:=ho.form
   exact ⟨ad,cc,he,ho.mono hW.size,hb⟩
 rw [← hsn] at lsh lsh2
 clear hsn CSH
 have CRA:Hid (∀ W,aI w W w.heap.size (w.heap.size+1) 27 (iaC st it a2 n2 c2 a3 n3 c3 a4 n4 c4 a5 n5 c5) (iaC su iu b2 m2 d2 b3 m3 d3 b4 m4 d4 b5 m5 d5)→Calls Tryz.prog 148 #[.agg #[.int .i64 st,.int .i64 it,.slice a2 n2 c2,.slice a3 n3 c3,.slice a4 n4 c4,.slice a5 n5 c5]] W fun e w'=>∃ C,e=.returned (.agg C)∧RowsAt w' w.heap.size C steps∧Below W.heap.size W w'):=fun W hW =>
  (wJ st it _ _ _ a5 n5 c5 steps W (R5.out.below hW.1) (by have h1:=R5.out.1;omega) HLA.out).mono fun e w' h=>by
   obtain ⟨C,he,hC,hb⟩:=h
   exact ⟨C,he,hC.mono hW.1.size,hb⟩
 have CRB:Hid (∀ W,aI w W w.heap.size (w.heap.size+1) 27 (iaC st it a2 n2 c2 a3 n3 c3 a4 n4 c4 a5 n5 c5) (iaC su iu b2 m2 d2 b3 m3 d3 b4 m4 d4 b5 m5 d5)→Calls Tryz.prog 148 #[.agg #[.int .i64 su,.int .i64 iu,.slice b2 m2 d2,.slice b3 m3 d3,.slice b4 m4 d4,.slice b5 m5 d5]] W fun e w'=>∃ C,e=.returned (.agg C)∧RowsAt w' w.heap.size C ax∧Below W.heap.size W w'):=fun W hW =>
  (wJ su iu _ _ _ b5 m5 d5 ax W (Q5.out.below hW.1) (by have h1:=Q5.out.1;omega) HLB.out).mono fun e w' h=>by
   obtain ⟨C,he,hC,hb⟩:=h
   exact ⟨C,he,hC.mono hW.1.size,hb⟩
 clear R2 R3 R4 R5 Q2 Q3 Q4 Q5 HLA HLB
 have hmm:=@run_makeMap Tryz.prog
 obtain ⟨ca0,ca1,ca2,ca3,ca4,ca5⟩:=S0.out.2.1.aO
 obtain ⟨cb0,cb1,cb2,cb3,cb4,cb5⟩:=S0.out.2.2.aO
 go_enter Tryz.func120,Tryz.ntmps120
 go_wp2_with fail
 clear ca0 ca1 ca2 ca3 ca4 ca5 cb0 cb1 cb2 cb3 cb4 cb5
 refine (CSX.out _ S0.out.1).mono ?_
 rintro e w1 ⟨sa,sc,rfl,ho,hb⟩
 have S1:=Lib.hid (S0.out.below hb)
 have HS:=Lib.hid ho
 clear hb S0 ho
 go_wp2_with fail
 have SD:=S1.out.drew
 have HSD:Hid (aj w1.drew w.heap.size (.slice sa sn sc) sn L):=HS.out
 clear S1
 refine wp_region_held_drew (S:=fun w'=>aI w w' w.heap.size (w.heap.size+1) 27 (iaC st it a2 n2 c2 a3 n3 c3 a4 n4 c4 a5 n5 c5) (iaC su iu b2 m2 d2 b3 m3 d3 b4 m4 d4 b5 m5 d5)) (by kernel_rfl) SD (fun hHeld=>?_)
 change wpAnyH _ _ _ _ _ 8 (Array.replicate 8 false) _ _
 refine aX 0 14 (.agg #[.int .i64 st,.int .i64 it,.slice a2 n2 c2,.slice a3 n3 c3,.slice a4 n4 c4,.slice a5 n5 c5]) (fuel:=7) rfl rfl (by kernel_rfl) (fun _ _ _ h=>h) (yieldsIf_load_mid (by rfl) _ _ rfl (w.heap.size) 0 rfl (iaC st it a2 n2 c2 a3 n3 c3 a4 n4 c4 a5 n5 c5).toList _ (fun w hw=>hw.2.1.range) Tryz.underlying27 rfl (by kernel_rfl)) hHeld ?_
 simp only [Act.put,sI0,sI1,sI2]
 refine aX 2 16 (.agg #[.int .i64 su,.int .i64 iu,.slice b2 m2 d2,.slice b3 m3 d3,.slice b4 m4 d4,.slice b5 m5 d5]) (fuel:=6) rfl rfl (by kernel_rfl) (fun _ _ _ h=>h) (yieldsIf_load_mid (by rfl) _ _ rfl (w.heap.size+1) 0 rfl (iaC su iu b2 m2 d2 b3 m3 d3 b4 m4 d4 b5 m5 d5).toList _ (fun w hw=>hw.2.2.range) Tryz.underlying27 rfl (by kernel_rfl)) hHeld ?_
 simp only [Act.put,sI0,sI1,sI2]
 refine zO (ι:=Nat × Nat × Array Value × Array Value) (fun i=>⟨#[.agg #[.int .i64 st,.int .i64 it,.slice a2 n2 c2,.slice a3 n3 c3,.slice a4 n4 c4,.slice a5 n5 c5],.agg #[.int .i64 su,.int .i64 iu,.slice b2 m2 d2,.slice b3 m3 d3,.slice b4 m4 d4,.slice b5 m5 d5],.pointer (some ⟨w.heap.size,0,none⟩),.pointer (some ⟨w.heap.size+1,0,none⟩),.map none,.slice sa sn sc,.pointer (some ⟨i.1,0,none⟩),.pointer (some ⟨i.2.1,0,none⟩),undef,undef,undef,.agg #[.int .i64 st,.int .i64 it,.slice a2 n2 c2,.slice a3 n3 c3,.slice a4 n4 c4,.slice a5 n5 c5],.agg #[.int .i64 su,.int .i64 iu,.slice b2 m2 d2,.slice b3 m3 d3,.slice b4 m4 d4,.slice b5 m5 d5],.slice sa sn sc,.agg #[.int .i64 st,.int .i64 it,.slice a2 n2 c2,.slice a3 n3 c3,.slice a4 n4 c4,.slice a5 n5 c5],.agg i.2.2.1,.agg #[.int .i64 su,.int .i64 iu,.slice b2 m2 d2,.slice b3 m3 d3,.slice b4 m4 d4,.slice b5 m5 d5],.agg i.2.2.2,undef,undef,undef,undef,undef,undef,undef,undef,undef,undef,undef,undef,undef,undef,undef,undef,undef,undef,undef,undef,undef,undef,undef,undef,undef,undef,undef,undef],[]⟩) (fun i we=>aI w we w.heap.size (w.heap.size+1) 27 (iaC st it a2 n2 c2 a3 n3 c3 a4 n4 c4 a5 n5 c5) (iaC su iu b2 m2 d2 b3 m3 d3 b4 m4 d4 b5 m5 d5)∧i.1<we.heap.size∧we.rangeAt i.1 0 i.2.2.1.toList∧i.2.1<we.heap.size∧we.rangeAt i.2.1 0 i.2.2.2.toList∧RowsAt we w.heap.size i.2.2.1 steps∧RowsAt we w.heap.size i.2.2.2 ax∧aj we w.heap.size (.slice sa sn sc) sn L) ?_ (fun REST=>?_)
 ·rintro ⟨b6,b7,CA,CB⟩ we ⟨hS,hlt6,hrg6,hlt7,hrg7,hr6,hr7,hsh⟩
  simp only at hS hlt6 hrg6 hlt7 hrg7 hr6 hr7 hsh ⊢
  clear hHeld SD CRA CRB CSX HS HSD
  have SE:=Lib.hid hS
  have RG6:=Lib.hid hrg6
  have RG7:=Lib.hid hrg7
  have R6:=Lib.hid hr6
  have R7:=Lib.hid hr7
  have RS:=Lib.hid hsh.row.2.2.2
  have c0:=(SE.out.alloc (.map #[] 0)).2.1.cell (j:=0) (u:=.int .i64 st) rfl
  clear hS hrg6 hrg7 hr6 hr7 hsh
  have HM0:Hid (eQ (we.alloc (.map #[] 0)) we.heap.size 0 (fP C nB 0 0)):=by unfold Hid;rw [FB];exact eQ.made we
  have BA:Hid (Below we.heap.size we (we.alloc (.map #[] 0))):=(Below.refl _ _).alloc (Nat.le_refl _) _
  go_wp2_with fail
  clear c0
  go_loopw [21] (fun iv wr=>∃ k n:Nat,k≤nA∧iv=.int .i64 (k:Int)∧Hid (eQ wr we.heap.size n (fP C nB k 0))∧n≤k*nB∧Hid (Below we.heap.size we wr)) (fun iv _=>nA - (intOf iv).toNat)
  case atStart=>exact ⟨0,0,Nat.zero_le _,rfl,HM0.out,by omega,BA.out⟩
  case round =>
   obtain ⟨k,n,hk,rfl,HM,hn,HB⟩:=hrel
   clear HM0 BA
   by_cases hlt:(k:Int)<st
   ·have hkn:k<nA:=by have h1:=HNA.out;omega
    have c0:=(SE.out.below HB.out).2.2.cell (j:=0) (u:=.int .i64 su) rfl
    go_wp2_with fail
    clear c0
    go_loopw [26] (fun jv wr=>∃ j nt:Nat,j≤nB∧jv=.int .i64 (j:Int)∧Hid (eQ wr we.heap.size nt (fP C nB k j))∧nt≤k*nB+j∧Hid (Below we.heap.size we wr)) (fun jv _=>nB - (intOf jv).toNat)
    case atStart=>exact ⟨0,n,Nat.zero_le _,rfl,HM.out,by omega,HB.out⟩
    case round =>
     obtain ⟨j,nt,hj,rfl,HM2,hnt,HB2⟩:=hrel
     by_cases wU:(j:Int)<su
     ·have hk40:(k:Int)<40:=by omega
      have DZ:(j:Int)<40:=by omega
      have hjn:j<nB:=by have h1:=HNB.out;omega
      have hcap:nt≤1600:=by
       have a1:(k+1)*nB≤40*40:=Nat.mul_le_mul (by omega) (by omega)
       rw [Nat.succ_mul] at a1
       omega
      obtain ⟨ra,rc,hCA,hoA⟩:=R6.out.2.1 k (by omega)
      obtain ⟨rb,rd,hCB,hoB⟩:=R7.out.2.1 j (by omega)
      obtain ⟨rn,hrn⟩:∃ n,n=(rowL steps (k:Int)).length:=⟨_,rfl⟩
      obtain ⟨rm,hrm⟩:∃ n,n=(rowL ax (j:Int)).length:=⟨_,rfl⟩
      rw [← hrn] at hCA hoA
      rw [← hrm] at hCB hoB
      have h6:we.cell? ⟨b6,k,none⟩=some (.slice ra rn rc):=by
       have:=RG6.out k (.slice ra rn rc) (by simpa using hCA)
       rwa [Nat.zero_add] at this
      have h7:we.cell? ⟨b7,j,none⟩=some (.slice rb rm rd):=by
       have:=RG7.out j (.slice rb rm rd) (by simpa using hCB)
       rwa [Nat.zero_add] at this
      have hrn4:rn≤400:=by have h1:=rowL_len steps (k:Int);omega
      have hrm4:rm≤400:=by have h1:=rowL_len ax (j:Int);omega
      obtain ⟨q,hq⟩:∃ q,q=C k j:=⟨_,rfl⟩
      have CC:Hid (∀ W,aI w W w.heap.size (w.heap.size+1) 27 (iaC st it a2 n2 c2 a3 n3 c3 a4 n4 c4 a5 n5 c5) (iaC su iu b2 m2 d2 b3 m3 d3 b4 m4 d4 b5 m5 d5)→Below we.heap.size we W→Calls Tryz.prog 169 #[.agg #[.int .i64 st,.int .i64 it,.slice a2 n2 c2,.slice a3 n3 c3,.slice a4 n4 c4,.slice a5 n5 c5],.agg #[.int .i64 su,.int .i64 iu,.slice b2 m2 d2,.slice b3 m3 d3,.slice b4 m4 d4,.slice b5 m5 d5],.slice sa sn sc,.slice ra rn rc,.slice rb rm rd] W fun e w'=>e=.returned (.bool q)∧Below W.heap.size W w'):=fun W hW hWe=>by
       have:=CCL.out W sa sn sc L ra rn rc (rowL steps (k:Int)) rb rm rd (rowL ax (j:Int)) hW.1 (RS.out.below hWe) (by omega) (hoA.row.2.2.2.below hWe) hrn4 (hoB.row.2.2.2.below hWe) hrm4
       rw [HEA.out,HEA.out,HEB.out,HEB.out,HL.out] at this
       rw [hq,HCC.out]
       exact this
      have SD2:aI w wr.drew w.heap.size (w.heap.size+1) 27 (iaC st it a2 n2 c2 a3 n3 c3 a4 n4 c4 a5 n5 c5) (iaC su iu b2 m2 d2 b3 m3 d3 b4 m4 d4 b5 m5 d5)∧wr.drew.cell? ⟨b6,k,none⟩=some (.slice ra rn rc)∧wr.drew.cell? ⟨b7,j,none⟩=some (.slice rb rm rd):=⟨(SE.out.below HB2.out).drew,(HB2.out.cell (p:=⟨b6,k,none⟩) hlt6).trans h6,(HB2.out.cell (p:=⟨b7,j,none⟩) hlt7).trans h7⟩
      have HQ:=Lib.hid hq
      clear hq hCA hoA hCB hoB hrn hrm h6 h7
      have HB3:Hid (Below we.heap.size we wr.drew):=HB2.out.drew
      go_wp2_with fail
      refine wp_region_held_drew (S:=fun w'=>aI w w' w.heap.size (w.heap.size+1) 27 (iaC st it a2 n2 c2 a3 n3 c3 a4 n4 c4 a5 n5 c5) (iaC su iu b2 m2 d2 b3 m3 d3 b4 m4 d4 b5 m5 d5)∧w'.cell? ⟨b6,k,none⟩=some (.slice ra rn rc)∧w'.cell? ⟨b7,j,none⟩=some (.slice rb rm rd)) (by kernel_rfl) SD2 (fun hHeld=>?_)
      change wpAnyH _ _ _ _ _ 10 (Array.replicate 10 false) _ _
      refine aX 0 29 (.agg #[.int .i64 st,.int .i64 it,.slice a2 n2 c2,.slice a3 n3 c3,.slice a4 n4 c4,.slice a5 n5 c5]) (fuel:=9) rfl rfl (by kernel_rfl) (fun _ _ _ h=>h) (yieldsIf_load_mid (by rfl) _ _ rfl (w.heap.size) 0 rfl (iaC st it a2 n2 c2 a3 n3 c3 a4 n4 c4 a5 n5 c5).toList _ (fun w hw=>hw.1.2.1.range) Tryz.underlying27 rfl (by kernel_rfl)) hHeld ?_
      simp only [Act.put,sI0,sI1,sI2]
      refine aX 1 30 (.agg #[.int .i64 su,.int .i64 iu,.slice b2 m2 d2,.slice b3 m3 d3,.slice b4 m4 d4,.slice b5 m5 d5]) (fuel:=8) rfl rfl (by kernel_rfl) (fun _ _ _ h=>h) (yieldsIf_load_mid (by rfl) _ _ rfl (w.heap.size+1) 0 rfl (iaC su iu b2 m2 d2 b3 m3 d3 b4 m4 d4 b5 m5 d5).toList _ (fun w hw=>hw.1.2.2.range) Tryz.underlying27 rfl (by kernel_rfl)) hHeld ?_
      simp only [Act.put,sI0,sI1,sI2]
      refine ag 2 31 (.slice sa sn sc) (fuel:=7) rfl rfl (by kernel_rfl) (fun _ _ _ h=>h) (by rfl) (fun w hSw=>by go_simp) hHeld ?_
      simp only [Act.put,sI0,sI1,sI2]
      refine ag 3 32 (.int .i64 (k:Int)) (fuel:=6) rfl rfl (by kernel_rfl) (fun _ _ _ h=>h) (by rfl) (fun w hSw=>by go_simp) hHeld ?_
      simp only [Act.put,sI0,sI1,sI2]
      refine ag 4 33 (.pointer (some ⟨b6,k,none⟩)) (fuel:=5) rfl rfl (by kernel_rfl) (fun _ _ _ h=>h) (by rfl) (fun w hSw=>by have h1:(k:Int)<40:=hk40;go_simp) hHeld ?_
      simp only [Act.put,sI0,sI1,sI2]
      refine ag 5 34 (.slice ra rn rc) (fuel:=4) rfl rfl (by kernel_rfl) (fun _ _ _ h=>h) (by rfl) (fun w hSw=>by have m:=hSw.2.1;go_simp) hHeld ?_
      simp only [Act.put,sI0,sI1,sI2]
      refine ag 6 35 (.int .i64 (j:Int)) (fuel:=3) rfl rfl (by kernel_rfl) (fun _ _ _ h=>h) (by rfl) (fun w hSw=>by go_simp) hHeld ?_
      simp only [Act.put,sI0,sI1,sI2]
      refine ag 7 36 (.pointer (some ⟨b7,j,none⟩)) (fuel:=2) rfl rfl (by kernel_rfl) (fun _ _ _ h=>h) (by rfl) (fun w hSw=>by have h1:(j:Int)<40:=DZ;go_simp) hHeld ?_
      simp only [Act.put,sI0,sI1,sI2]
      refine ag 8 37 (.slice rb rm rd) (fuel:=1) rfl rfl (by kernel_rfl) (fun _ _ _ h=>h) (by rfl) (fun w hSw=>by have m:=hSw.2.2;go_simp) hHeld ?_
      simp only [Act.put,sI0,sI1,sI2]
      refine wpAnyH_ready (rs:=[9]) (fuel:=0) (by kernel_rfl) (by simp) ?_
      refine AllReadyH.cons rfl (fun K hK=>?_) AllReadyH.nil
      go_simp
      refine (CC.out _ hHeld.1 HB3.out).mono ?_
      rintro e w5 ⟨rfl,hb⟩
      have hS5:=hHeld.1.below hb
      have BB5:=Lib.hid hb
      have HB5:Hid (Below we.heap.size we w5):=HB3.out.trans (hb.mono HB3.out.size)
      clear hb
      go_wp2_with fail
      refine hK.out _ _ ⟨hS5,(BB5.out.cell (p:=⟨b6,k,none⟩) (Nat.lt_of_lt_of_le hlt6 HB3.out.size)).trans hHeld.2.1,(BB5.out.cell (p:=⟨b7,j,none⟩) (Nat.lt_of_lt_of_le hlt7 HB3.out.size)).trans hHeld.2.2⟩ (fun hHeld=>?_)
      clear hK K
      refine wpAnyH_done (by kernel_rfl) ?_ _
      cases q with
      | false =>
       have HM5:Hid (eQ w5 we.heap.size nt (fP C nB k (j+1))):=by have:=HM2.out.drew.below BB5.out;rw [JA C nB k j HQ.out.symm] at this;exact this
       go_wp2_with fail
       go_roundw
       case rel=>exact ⟨j+1,nt,by omega,by go_num,HM5.out,by omega,HB5.out⟩
       case measure=>simp [intOf];omega
      | true =>
       have HM5:eQ w5 we.heap.size nt (fP C nB k j):=HM2.out.drew.below BB5.out
       have HM6:=Lib.hid HM5
       have wfk:=iC (x:=(k:Int)) (by omega) (by omega)
       have wfj:=iC (x:=(j:Int)) (by omega) (by omega)
       clear HM5
       go_wp2_with (at_mapUpdate;refine yQ rfl _ _ _ rfl we.heap.size nt (fP C nB k j) rfl HM6.out (by unfold maxLen;omega) (k:Int) (j:Int) rfl rfl wfk wfj ?_)
       intro w6 hm6 hg6
       have HM7:Hid (eQ w6 we.heap.size (nt+1) (fP C nB k (j+1))):=by rw [Jg C nB k j HQ.out.symm] at hm6;exact hm6
       have HB6:Hid (Below we.heap.size we w6):=HB5.out.grown hg6 HB5.out.size (fun q hq=>by have h1:=Option.some.inj hq;omega)
       clear hm6 hg6
       go_wp2_with fail
       go_roundw
       case rel=>exact ⟨j+1,nt+1,by omega,by go_num,HM7.out,by omega,HB6.out⟩
       case measure=>simp [intOf];omega
     ·obtain rfl:j=nB:=by have h1:=HNB.out;omega
      have HM3:Hid (eQ wr we.heap.size nt (fP C j (k+1) 0)):=by have:=HM2.out;rw [IU] at this;exact this
      go_wp2_with fail
      go_roundw
      case rel=>exact ⟨k+1,nt,by omega,by go_num,HM3.out,by rw [Nat.succ_mul];omega,HB2.out⟩
      case measure=>simp [intOf];omega
   ·obtain rfl:k=nA:=by have h1:=HNA.out;omega
    have hcap:n≤1600:=by
     have a1:k*nB≤40*40:=Nat.mul_le_mul (by omega) (by omega)
     omega
    go_wp2_with fail
    go_ret
    exact ⟨_,rfl,n,HM.out,SE.out.1.size,hcap,SE.out.1.trans (HB.out.mono SE.out.1.size)⟩
 refine wpAnyH_ready (rs:=[1,4,5]) (fuel:=5) (by kernel_rfl) (by simp) ?_
 refine AllReadyH.cons rfl (fun K hK=>?_) ?_
 ·go_simp
  refine (CRA.out _ hHeld).mono ?_
  rintro e wp1 ⟨aK,rfl,hC,hb⟩
  have s1:Hid (aj wp1 w.heap.size (.slice sa sn sc) sn L):=HSD.out.below (hb)
  have rCA1:Hid (RowsAt wp1 w.heap.size aK steps):=hC
  have hS1:=hHeld.below hb
  clear hb hC
  go_wp2_with fail
  refine hK.out _ _ hS1 (fun hHeld=>?_)
  clear hK K hS1
  refine wpAnyH_ready (rs:=[3,4,5]) (fuel:=4) (by kernel_rfl) (by simp) ?_
  refine AllReadyH.cons rfl (fun K hK=>?_) ?_
  ·go_simp
   refine (CRB.out _ hHeld).mono ?_
   rintro e wp2 ⟨fV,rfl,hC,hb⟩
   have s2:Hid (aj wp2 w.heap.size (.slice sa sn sc) sn L):=s1.out.below (hb)
   have rCA2:Hid (RowsAt wp2 w.heap.size aK steps):=rCA1.out.below (hb)
   have rCB2:Hid (RowsAt wp2 w.heap.size fV ax):=hC
   have hS2:=hHeld.below hb
   clear hb hC
   go_wp2_with fail
   refine hK.out _ _ hS2 (fun hHeld=>?_)
   clear hK K hS2
   refine wpAnyH_ready (rs:=[4,5]) (fuel:=3) (by kernel_rfl) (by simp) ?_
   refine AllReadyH.cons rfl (fun K hK=>?_) ?_
   ·have s3:Hid (aj (wp2.alloc (.cells af 170)) w.heap.size (.slice sa sn sc) sn L):=s2.out.below ((Below.refl _ wp2).alloc (Nat.le_refl _) (.cells af 170))
    have rCA3:Hid (RowsAt (wp2.alloc (.cells af 170)) w.heap.size aK steps):=rCA2.out.below ((Below.refl _ wp2).alloc (Nat.le_refl _) (.cells af 170))
    have rCB3:Hid (RowsAt (wp2.alloc (.cells af 170)) w.heap.size fV ax):=rCB2.out.below ((Below.refl _ wp2).alloc (Nat.le_refl _) (.cells af 170))
    have BL6:Hid (w.heap.size+1<wp2.heap.size):=by have h1:=hHeld.2.2.lt;(try simp at h1);unfold Hid;omega
    have vn3:Hid (ae (wp2.alloc (.cells af 170)) (wp2.heap.size) af 170):=ae.new wp2 af 170 (by simp)
    go_simp
    refine hK.out _ _ (hHeld.below ((Below.refl _ wp2).alloc (Nat.le_refl _) (.cells af 170))) (fun hHeld=>?_)
    clear hK K
    try simp only [Act.put,sI0,sI1,sI2]
    refine wpAnyH_ready (rs:=[5]) (fuel:=2) (by kernel_rfl) (by simp) ?_
    refine AllReadyH.cons rfl (fun K hK=>?_) AllReadyH.nil
    have s4:Hid (aj ((wp2.alloc (.cells af 170)).alloc (.cells af 170)) w.heap.size (.slice sa sn sc) sn L):=s3.out.below ((Below.refl _ (wp2.alloc (.cells af 170))).alloc (Nat.le_refl _) (.cells af 170))
    have rCA4:Hid (RowsAt ((wp2.alloc (.cells af 170)).alloc (.cells af 170)) w.heap.size aK steps):=rCA3.out.below ((Below.refl _ (wp2.alloc (.cells af 170))).alloc (Nat.le_refl _) (.cells af 170))
    have rCB4:Hid (RowsAt ((wp2.alloc (.cells af 170)).alloc (.cells af 170)) w.heap.size fV ax):=rCB3.out.below ((Below.refl _ (wp2.alloc (.cells af 170))).alloc (Nat.le_refl _) (.cells af 170))
    have v64:Hid (ae ((wp2.alloc (.cells af 170)).alloc (.cells af 170)) (wp2.heap.size) af 170):=vn3.out.below ((Below.refl _ (wp2.alloc (.cells af 170))).alloc (Nat.le_refl _) (.cells af 170))
    have NE:Hid (wp2.heap.size≠wp2.heap.size+1):=by have h1:=vn3.out.lt;(try simp at h1);unfold Hid;omega
    have BL7:Hid (w.heap.size+1<wp2.heap.size+1):=by have h1:=hHeld.2.2.lt;(try simp at h1);unfold Hid;omega
    have vn4:Hid (ae ((wp2.alloc (.cells af 170)).alloc (.cells af 170)) (wp2.heap.size+1) af 170):=ae.new (wp2.alloc (.cells af 170)) af 170 (by simp)
    go_simp
    refine hK.out _ _ (hHeld.below ((Below.refl _ (wp2.alloc (.cells af 170))).alloc (Nat.le_refl _) (.cells af 170))) (fun hHeld=>?_)
    clear hK K
    try simp only [Act.put,sI0,sI1,sI2]
    have eF:(wp2.heap.size)≠(wp2.heap.size+1):=by have h1:=NE.out;exact fun e=>h1 (by first|exact e|exact e.symm)
    have HLR:Hid (aK.toList.length=40):=by have:=rCA4.out.1;simpa [Hid] using this
    have HLH:Hid (fV.toList.length=40):=by have:=rCB4.out.1;simpa [Hid] using this
    have t6:Hid (((wp2.alloc (.cells af 170)).alloc (.cells af 170)).there (wp2.heap.size) 0 aK.toList.toArray.size):=v64.out.there (by rw [List.size_toArray,HLR.out];rfl)
    have g6:=Lib.hid (aA (wp2.heap.size) aK.toList 0 ((wp2.alloc (.cells af 170)).alloc (.cells af 170)))
    have on6:Hid (aK.toList.toArray.all (·.oneCell')=true):=all_oneCell_toArray (fun u hu=>rCA4.out.one u (by simpa using hu))
    have on7:Hid (fV.toList.toArray.all (·.oneCell')=true):=all_oneCell_toArray (fun u hu=>rCB4.out.one u (by simpa using hu))
    have v7':=Lib.hid (vn4.out.grown g6.out (fun e=>eF (Option.some.inj e).symm))
    have t7:Hid ((((wp2.alloc (.cells af 170)).alloc (.cells af 170)).setCells (wp2.heap.size) 0 aK.toList).there (wp2.heap.size+1) 0 fV.toList.toArray.size):=v7'.out.there (by rw [List.size_toArray,HLH.out];rfl)
    have g7:=Lib.hid (aA (wp2.heap.size+1) fV.toList 0 (((wp2.alloc (.cells af 170)).alloc (.cells af 170)).setCells (wp2.heap.size) 0 aK.toList))
    have rg6:Hid ((((wp2.alloc (.cells af 170)).alloc (.cells af 170)).setCells (wp2.heap.size) 0 aK.toList).rangeAt (wp2.heap.size) 0 aK.toList):=World.rangeAt_setCells_same ((wp2.alloc (.cells af 170)).alloc (.cells af 170)) (wp2.heap.size) 0 aK.toList (by simpa using t6.out)
    have rg7:Hid (((((wp2.alloc (.cells af 170)).alloc (.cells af 170)).setCells (wp2.heap.size) 0 aK.toList).setCells (wp2.heap.size+1) 0 fV.toList).rangeAt (wp2.heap.size+1) 0 fV.toList):=World.rangeAt_setCells_same (((wp2.alloc (.cells af 170)).alloc (.cells af 170)).setCells (wp2.heap.size) 0 aK.toList) (wp2.heap.size+1) 0 fV.toList (by simpa using t7.out)
    have iW:Hid (((((wp2.alloc (.cells af 170)).alloc (.cells af 170)).setCells (wp2.heap.size) 0 aK.toList).setCells (wp2.heap.size+1) 0 fV.toList).rangeAt (wp2.heap.size) 0 aK.toList):=eH rg6.out g7.out eF
    have hS6:Hid (aI w (((wp2.alloc (.cells af 170)).alloc (.cells af 170)).setCells (wp2.heap.size) 0 aK.toList) w.heap.size (w.heap.size+1) 27 (iaC st it a2 n2 c2 a3 n3 c3 a4 n4 c4 a5 n5 c5) (iaC su iu b2 m2 d2 b3 m3 d3 b4 m4 d4 b5 m5 d5)):=⟨hHeld.1.grown g6.out hHeld.1.size (fun q hq=>by have h1:=Option.some.inj hq;have h2:=BL6.out;omega),hHeld.2.1.grown g6.out (fun e=>by have h1:=Option.some.inj e;have h2:=BL6.out;omega),hHeld.2.2.grown g6.out (fun e=>by have h1:=Option.some.inj e;have h2:=BL6.out;omega)⟩
    have hS7:Hid (aI w ((((wp2.alloc (.cells af 170)).alloc (.cells af 170)).setCells (wp2.heap.size) 0 aK.toList).setCells (wp2.heap.size+1) 0 fV.toList) w.heap.size (w.heap.size+1) 27 (iaC st it a2 n2 c2 a3 n3 c3 a4 n4 c4 a5 n5 c5) (iaC su iu b2 m2 d2 b3 m3 d3 b4 m4 d4 b5 m5 d5)):=⟨hS6.out.1.grown g7.out hS6.out.1.size (fun q hq=>by have h1:=Option.some.inj hq;have h2:=BL7.out;omega),hS6.out.2.1.grown g7.out (fun e=>by have h1:=Option.some.inj e;have h2:=BL7.out;omega),hS6.out.2.2.grown g7.out (fun e=>by have h1:=Option.some.inj e;have h2:=BL7.out;omega)⟩
    have r6:=Lib.hid ((rCA4.out.az v64.out (by decide) g6.out).az v7'.out (by decide) g7.out)
    have r7:=Lib.hid ((rCB4.out.az v64.out (by decide) g6.out).az v7'.out (by decide) g7.out)
    have s7:=Lib.hid ((s4.out.az v64.out (by decide) g6.out).az v7'.out (by decide) g7.out)
    have lt6:(wp2.heap.size)<((((wp2.alloc (.cells af 170)).alloc (.cells af 170)).setCells (wp2.heap.size) 0 aK.toList).setCells (wp2.heap.size+1) 0 fV.toList).heap.size:=Nat.lt_of_lt_of_le (Nat.lt_of_lt_of_le v64.out.lt g6.out.size) g7.out.size
    have lt7:(wp2.heap.size+1)<((((wp2.alloc (.cells af 170)).alloc (.cells af 170)).setCells (wp2.heap.size) 0 aK.toList).setCells (wp2.heap.size+1) 0 fV.toList).heap.size:=Nat.lt_of_lt_of_le v7'.out.lt g7.out.size
    refine wpAnyH_ready (rs:=[6]) (fuel:=1) (by kernel_rfl) (by simp) ?_
    refine AllReadyH.cons rfl (fun K hK=>?_) AllReadyH.nil
    rw [if_pos (by rfl)]
    refine wp_store_mid _ _ _ rfl (wp2.heap.size) 0 aK.toList.toArray rfl rfl t6.out (by rw [List.size_toArray,HLR.out];kernel_rfl) on6.out ?_
    refine hK.out _ _ hS6.out (fun hHeld=>?_)
    clear hK K
    refine wpAnyH_ready (rs:=[7]) (fuel:=0) (by kernel_rfl) (by simp) ?_
    refine AllReadyH.cons rfl (fun K hK=>?_) AllReadyH.nil
    rw [if_pos (by rfl)]
    refine wp_store_mid _ _ _ rfl (wp2.heap.size+1) 0 fV.toList.toArray rfl rfl t7.out (by rw [List.size_toArray,HLH.out];kernel_rfl) on7.out ?_
    refine hK.out _ _ hS7.out (fun hHeld=>?_)
    clear hK K
    refine wpAnyH_done (by kernel_rfl) ?_ _
    exact REST.out ((wp2.heap.size),(wp2.heap.size+1),aK,fV) _ ⟨hS7.out,lt6,iW.out,lt7,rg7.out,r6.out,r7.out,s7.out⟩
   refine AllReadyH.cons rfl (fun K hK=>?_) AllReadyH.nil
   have s5:Hid (aj (wp2.alloc (.cells af 170)) w.heap.size (.slice sa sn sc) sn L):=s2.out.below ((Below.refl _ wp2).alloc (Nat.le_refl _) (.cells af 170))
   have rCA5:Hid (RowsAt (wp2.alloc (.cells af 170)) w.heap.size aK steps):=rCA2.out.below ((Below.refl _ wp2).alloc (Nat.le_refl _) (.cells af 170))
   have rCB5:Hid (RowsAt (wp2.alloc (.cells af 170)) w.heap.size fV ax):=rCB2.out.below ((Below.refl _ wp2).alloc (Nat.le_refl _) (.cells af 170))
   have BL7:Hid (w.heap.size+1<wp2.heap.size):=by have h1:=hHeld.2.2.lt;(try simp at h1);unfold Hid;omega
   have vn5:Hid (ae (wp2.alloc (.cells af 170)) (wp2.heap.size) af 170):=ae.new wp2 af 170 (by simp)
   go_simp
   refine hK.out _ _ (hHeld.below ((Below.refl _ wp2).alloc (Nat.le_refl _) (.cells af 170))) (fun hHeld=>?_)
   clear hK K
   try simp only [Act.put,sI0,sI1,sI2]
   refine wpAnyH_ready (rs:=[4]) (fuel:=2) (by kernel_rfl) (by simp) ?_
   refine AllReadyH.cons rfl (fun K hK=>?_) AllReadyH.nil
   have s6:Hid (aj ((wp2.alloc (.cells af 170)).alloc (.cells af 170)) w.heap.size (.slice sa sn sc) sn L):=s5.out.below ((Below.refl _ (wp2.alloc (.cells af 170))).alloc (Nat.le_refl _) (.cells af 170))
   have rCA6:Hid (RowsAt ((wp2.alloc (.cells af 170)).alloc (.cells af 170)) w.heap.size aK steps):=rCA5.out.below ((Below.refl _ (wp2.alloc (.cells af 170))).alloc (Nat.le_refl _) (.cells af 170))
   have rCB6:Hid (RowsAt ((wp2.alloc (.cells af 170)).alloc (.cells af 170)) w.heap.size fV ax):=rCB5.out.below ((Below.refl _ (wp2.alloc (.cells af 170))).alloc (Nat.le_refl _) (.cells af 170))
   have v76:Hid (ae ((wp2.alloc (.cells af 170)).alloc (.cells af 170)) (wp2.heap.size) af 170):=vn5.out.below ((Below.refl _ (wp2.alloc (.cells af 170))).alloc (Nat.le_refl _) (.cells af 170))
   have NE:Hid (wp2.heap.size≠wp2.heap.size+1):=by have h1:=vn5.out.lt;(try simp at h1);unfold Hid;omega
   have BL6:Hid (w.heap.size+1<wp2.heap.size+1):=by have h1:=hHeld.2.2.lt;(try simp at h1);unfold Hid;omega
   have vn6:Hid (ae ((wp2.alloc (.cells af 170)).alloc (.cells af 170)) (wp2.heap.size+1) af 170):=ae.new (wp2.alloc (.cells af 170)) af 170 (by simp)
   go_simp
   refine hK.out _ _ (hHeld.below ((Below.refl _ (wp2.alloc (.cells af 170))).alloc (Nat.le_refl _) (.cells af 170))) (fun hHeld=>?_)
   clear hK K
   try simp only [Act.put,sI0,sI1,sI2]
   have eF:(wp2.heap.size+1)≠(wp2.heap.size):=by have h1:=NE.out;exact fun e=>h1 (by first|exact e|exact e.symm)
   have HLR:Hid (aK.toList.length=40):=by have:=rCA6.out.1;simpa [Hid] using this
   have HLH:Hid (fV.toList.length=40):=by have:=rCB6.out.1;simpa [Hid] using this
   have t6:Hid (((wp2.alloc (.cells af 170)).alloc (.cells af 170)).there (wp2.heap.size+1) 0 aK.toList.toArray.size):=vn6.out.there (by rw [List.size_toArray,HLR.out];rfl)
   have g6:=Lib.hid (aA (wp2.heap.size+1) aK.toList 0 ((wp2.alloc (.cells af 170)).alloc (.cells af 170)))
   have on6:Hid (aK.toList.toArray.all (·.oneCell')=true):=all_oneCell_toArray (fun u hu=>rCA6.out.one u (by simpa using hu))
   have on7:Hid (fV.toList.toArray.all (·.oneCell')=true):=all_oneCell_toArray (fun u hu=>rCB6.out.one u (by simpa using hu))
   have v7':=Lib.hid (v76.out.grown g6.out (fun e=>eF (Option.some.inj e).symm))
   have t7:Hid ((((wp2.alloc (.cells af 170)).alloc (.cells af 170)).setCells (wp2.heap.size+1) 0 aK.toList).there (wp2.heap.size) 0 fV.toList.toArray.size):=v7'.out.there (by rw [List.size_toArray,HLH.out];rfl)
   have g7:=Lib.hid (aA (wp2.heap.size) fV.toList 0 (((wp2.alloc (.cells af 170)).alloc (.cells af 170)).setCells (wp2.heap.size+1) 0 aK.toList))
   have rg6:Hid ((((wp2.alloc (.cells af 170)).alloc (.cells af 170)).setCells (wp2.heap.size+1) 0 aK.toList).rangeAt (wp2.heap.size+1) 0 aK.toList):=World.rangeAt_setCells_same ((wp2.alloc (.cells af 170)).alloc (.cells af 170)) (wp2.heap.size+1) 0 aK.toList (by simpa using t6.out)
   have rg7:Hid (((((wp2.alloc (.cells af 170)).alloc (.cells af 170)).setCells (wp2.heap.size+1) 0 aK.toList).setCells (wp2.heap.size) 0 fV.toList).rangeAt (wp2.heap.size) 0 fV.toList):=World.rangeAt_setCells_same (((wp2.alloc (.cells af 170)).alloc (.cells af 170)).setCells (wp2.heap.size+1) 0 aK.toList) (wp2.heap.size) 0 fV.toList (by simpa using t7.out)
   have iW:Hid (((((wp2.alloc (.cells af 170)).alloc (.cells af 170)).setCells (wp2.heap.size+1) 0 aK.toList).setCells (wp2.heap.size) 0 fV.toList).rangeAt (wp2.heap.size+1) 0 aK.toList):=eH rg6.out g7.out eF
   have hS6:Hid (aI w (((wp2.alloc (.cells af 170)).alloc (.cells af 170)).setCells (wp2.heap.size+1) 0 aK.toList) w.heap.size (w.heap.size+1) 27 (iaC st it a2 n2 c2 a3 n3 c3 a4 n4 c4 a5 n5 c5) (iaC su iu b2 m2 d2 b3 m3 d3 b4 m4 d4 b5 m5 d5)):=⟨hHeld.1.grown g6.out hHeld.1.size (fun q hq=>by have h1:=Option.some.inj hq;have h2:=BL6.out;omega),hHeld.2.1.grown g6.out (fun e=>by have h1:=Option.some.inj e;have h2:=BL6.out;omega),hHeld.2.2.grown g6.out (fun e=>by have h1:=Option.some.inj e;have h2:=BL6.out;omega)⟩
   have hS7:Hid (aI w ((((wp2.alloc (.cells af 170)).alloc (.cells af 170)).setCells (wp2.heap.size+1) 0 aK.toList).setCells (wp2.heap.size) 0 fV.toList) w.heap.size (w.heap.size+1) 27 (iaC st it a2 n2 c2 a3 n3 c3 a4 n4 c4 a5 n5 c5) (iaC su iu b2 m2 d2 b3 m3 d3 b4 m4 d4 b5 m5 d5)):=⟨hS6.out.1.grown g7.out hS6.out.1.size (fun q hq=>by have h1:=Option.some.inj hq;have h2:=BL7.out;omega),hS6.out.2.1.grown g7.out (fun e=>by have h1:=Option.some.inj e;have h2:=BL7.out;omega),hS6.out.2.2.grown g7.out (fun e=>by have h1:=Option.some.inj e;have h2:=BL7.out;omega)⟩
   have r6:=Lib.hid ((rCA6.out.az vn6.out (by decide) g6.out).az v7'.out (by decide) g7.out)
   have r7:=Lib.hid ((rCB6.out.az vn6.out (by decide) g6.out).az v7'.out (by decide) g7.out)
   have s7:=Lib.hid ((s6.out.az vn6.out (by decide) g6.out).az v7'.out (by decide) g7.out)
   have lt6:(wp2.heap.size+1)<((((wp2.alloc (.cells af 170)).alloc (.cells af 170)).setCells (wp2.heap.size+1) 0 aK.toList).setCells (wp2.heap.size) 0 fV.toList).heap.size:=Nat.lt_of_lt_of_le (Nat.lt_of_lt_of_le vn6.out.lt g6.out.size) g7.out.size
   have lt7:(wp2.heap.size)<((((wp2.alloc (.cells af 170)).alloc (.cells af 170)).setCells (wp2.heap.size+1) 0 aK.toList).setCells (wp2.heap.size) 0 fV.toList).heap.size:=Nat.lt_of_lt_of_le v7'.out.lt g7.out.size
   refine wpAnyH_ready (rs:=[6]) (fuel:=1) (by kernel_rfl) (by simp) ?_
   refine AllReadyH.cons rfl (fun K hK=>?_) AllReadyH.nil
   rw [if_pos (by rfl)]
   refine wp_store_mid _ _ _ rfl (wp2.heap.size+1) 0 aK.toList.toArray rfl rfl t6.out (by rw [List.size_toArray,HLR.out];kernel_rfl) on6.out ?_
   refine hK.out _ _ hS6.out (fun hHeld=>?_)
   clear hK K
   refine wpAnyH_ready (rs:=[7]) (fuel:=0) (by kernel_rfl) (by simp) ?_
   refine AllReadyH.cons rfl (fun K hK=>?_) AllReadyH.nil
   rw [if_pos (by rfl)]
   refine wp_store_mid _ _ _ rfl (wp2.heap.size) 0 fV.toList.toArray rfl rfl t7.out (by rw [List.size_toArray,HLH.out];kernel_rfl) on7.out ?_
   refine hK.out _ _ hS7.out (fun hHeld=>?_)
   clear hK K
   refine wpAnyH_done (by kernel_rfl) ?_ _
   exact REST.out ((wp2.heap.size+1),(wp2.heap.size),aK,fV) _ ⟨hS7.out,lt6,iW.out,lt7,rg7.out,r6.out,r7.out,s7.out⟩
  refine AllReadyH.cons rfl (fun K hK=>?_) ?_
  ·have s7:Hid (aj (wp1.alloc (.cells af 170)) w.heap.size (.slice sa sn sc) sn L):=s1.out.below ((Below.refl _ wp1).alloc (Nat.le_refl _) (.cells af 170))
   have rCA7:Hid (RowsAt (wp1.alloc (.cells af 170)) w.heap.size aK steps):=rCA1.out.below ((Below.refl _ wp1).alloc (Nat.le_refl _) (.cells af 170))
   have BL6:Hid (w.heap.size+1<wp1.heap.size):=by have h1:=hHeld.2.2.lt;(try simp at h1);unfold Hid;omega
   have vn7:Hid (ae (wp1.alloc (.cells af 170)) (wp1.heap.size) af 170):=ae.new wp1 af 170 (by simp)
   go_simp
   refine hK.out _ _ (hHeld.below ((Below.refl _ wp1).alloc (Nat.le_refl _) (.cells af 170))) (fun hHeld=>?_)
   clear hK K
   try simp only [Act.put,sI0,sI1,sI2]
   refine wpAnyH_ready (rs:=[3,5]) (fuel:=3) (by kernel_rfl) (by simp) ?_
   refine AllReadyH.cons rfl (fun K hK=>?_) ?_
   ·go_simp
    refine (CRB.out _ hHeld).mono ?_
    rintro e wp8 ⟨pO,rfl,hC,hb⟩
    have s8:Hid (aj wp8 w.heap.size (.slice sa sn sc) sn L):=s7.out.below (hb)
    have rCA8:Hid (RowsAt wp8 w.heap.size aK steps):=rCA7.out.below (hb)
    have v68:Hid (ae wp8 (wp1.heap.size) af 170):=vn7.out.below (hb)
    have rCB8:Hid (RowsAt wp8 w.heap.size pO ax):=hC
    have hS8:=hHeld.below hb
    clear hb hC
    go_wp2_with fail
    refine hK.out _ _ hS8 (fun hHeld=>?_)
    clear hK K hS8
    refine wpAnyH_ready (rs:=[5]) (fuel:=2) (by kernel_rfl) (by simp) ?_
    refine AllReadyH.cons rfl (fun K hK=>?_) AllReadyH.nil
    have s9:Hid (aj (wp8.alloc (.cells af 170)) w.heap.size (.slice sa sn sc) sn L):=s8.out.below ((Below.refl _ wp8).alloc (Nat.le_refl _) (.cells af 170))
    have rCA9:Hid (RowsAt (wp8.alloc (.cells af 170)) w.heap.size aK steps):=rCA8.out.below ((Below.refl _ wp8).alloc (Nat.le_refl _) (.cells af 170))
    have v69:Hid (ae (wp8.alloc (.cells af 170)) (wp1.heap.size) af 170):=v68.out.below ((Below.refl _ wp8).alloc (Nat.le_refl _) (.cells af 170))
    have rCB9:Hid (RowsAt (wp8.alloc (.cells af 170)) w.heap.size pO ax):=rCB8.out.below ((Below.refl _ wp8).alloc (Nat.le_refl _) (.cells af 170))
    have NE:Hid (wp1.heap.size≠wp8.heap.size):=by have h1:=v68.out.lt;(try simp at h1);unfold Hid;omega
    have BL7:Hid (w.heap.size+1<wp8.heap.size):=by have h1:=hHeld.2.2.lt;(try simp at h1);unfold Hid;omega
    have vn9:Hid (ae (wp8.alloc (.cells af 170)) (wp8.heap.size) af 170):=ae.new wp8 af 170 (by simp)
    go_simp
    refine hK.out _ _ (hHeld.below ((Below.refl _ wp8).alloc (Nat.le_refl _) (.cells af 170))) (fun hHeld=>?_)
    clear hK K
    try simp only [Act.put,sI0,sI1,sI2]
    have eF:(wp1.heap.size)≠(wp8.heap.size):=by have h1:=NE.out;exact fun e=>h1 (by first|exact e|exact e.symm)
    have HLR:Hid (aK.toList.length=40):=by have:=rCA9.out.1;simpa [Hid] using this
    have HLH:Hid (pO.toList.length=40):=by have:=rCB9.out.1;simpa [Hid] using this
    have t6:Hid ((wp8.alloc (.cells af 170)).there (wp1.heap.size) 0 aK.toList.toArray.size):=v69.out.there (by rw [List.size_toArray,HLR.out];rfl)
    have g6:=Lib.hid (aA (wp1.heap.size) aK.toList 0 (wp8.alloc (.cells af 170)))
    have on6:Hid (aK.toList.toArray.all (·.oneCell')=true):=all_oneCell_toArray (fun u hu=>rCA9.out.one u (by simpa using hu))
    have on7:Hid (pO.toList.toArray.all (·.oneCell')=true):=all_oneCell_toArray (fun u hu=>rCB9.out.one u (by simpa using hu))
    have v7':=Lib.hid (vn9.out.grown g6.out (fun e=>eF (Option.some.inj e).symm))
    have t7:Hid (((wp8.alloc (.cells af 170)).setCells (wp1.heap.size) 0 aK.toList).there (wp8.heap.size) 0 pO.toList.toArray.size):=v7'.out.there (by rw [List.size_toArray,HLH.out];rfl)
    have g7:=Lib.hid (aA (wp8.heap.size) pO.toList 0 ((wp8.alloc (.cells af 170)).setCells (wp1.heap.size) 0 aK.toList))
    have rg6:Hid (((wp8.alloc (.cells af 170)).setCells (wp1.heap.size) 0 aK.toList).rangeAt (wp1.heap.size) 0 aK.toList):=World.rangeAt_setCells_same (wp8.alloc (.cells af 170)) (wp1.heap.size) 0 aK.toList (by simpa using t6.out)
    have rg7:Hid ((((wp8.alloc (.cells af 170)).setCells (wp1.heap.size) 0 aK.toList).setCells (wp8.heap.size) 0 pO.toList).rangeAt (wp8.heap.size) 0 pO.toList):=World.rangeAt_setCells_same ((wp8.alloc (.cells af 170)).setCells (wp1.heap.size) 0 aK.toList) (wp8.heap.size) 0 pO.toList (by simpa using t7.out)
    have iW:Hid ((((wp8.alloc (.cells af 170)).setCells (wp1.heap.size) 0 aK.toList).setCells (wp8.heap.size) 0 pO.toList).rangeAt (wp1.heap.size) 0 aK.toList):=eH rg6.out g7.out eF
    have hS6:Hid (aI w ((wp8.alloc (.cells af 170)).setCells (wp1.heap.size) 0 aK.toList) w.heap.size (w.heap.size+1) 27 (iaC st it a2 n2 c2 a3 n3 c3 a4 n4 c4 a5 n5 c5) (iaC su iu b2 m2 d2 b3 m3 d3 b4 m4 d4 b5 m5 d5)):=⟨hHeld.1.grown g6.out hHeld.1.size (fun q hq=>by have h1:=Option.some.inj hq;have h2:=BL6.out;omega),hHeld.2.1.grown g6.out (fun e=>by have h1:=Option.some.inj e;have h2:=BL6.out;omega),hHeld.2.2.grown g6.out (fun e=>by have h1:=Option.some.inj e;have h2:=BL6.out;omega)⟩
    have hS7:Hid (aI w (((wp8.alloc (.cells af 170)).setCells (wp1.heap.size) 0 aK.toList).setCells (wp8.heap.size) 0 pO.toList) w.heap.size (w.heap.size+1) 27 (iaC st it a2 n2 c2 a3 n3 c3 a4 n4 c4 a5 n5 c5) (iaC su iu b2 m2 d2 b3 m3 d3 b4 m4 d4 b5 m5 d5)):=⟨hS6.out.1.grown g7.out hS6.out.1.size (fun q hq=>by have h1:=Option.some.inj hq;have h2:=BL7.out;omega),hS6.out.2.1.grown g7.out (fun e=>by have h1:=Option.some.inj e;have h2:=BL7.out;omega),hS6.out.2.2.grown g7.out (fun e=>by have h1:=Option.some.inj e;have h2:=BL7.out;omega)⟩
    have r6:=Lib.hid ((rCA9.out.az v69.out (by decide) g6.out).az v7'.out (by decide) g7.out)
    have r7:=Lib.hid ((rCB9.out.az v69.out (by decide) g6.out).az v7'.out (by decide) g7.out)
    have s7:=Lib.hid ((s9.out.az v69.out (by decide) g6.out).az v7'.out (by decide) g7.out)
    have lt6:(wp1.heap.size)<(((wp8.alloc (.cells af 170)).setCells (wp1.heap.size) 0 aK.toList).setCells (wp8.heap.size) 0 pO.toList).heap.size:=Nat.lt_of_lt_of_le (Nat.lt_of_lt_of_le v69.out.lt g6.out.size) g7.out.size
    have lt7:(wp8.heap.size)<(((wp8.alloc (.cells af 170)).setCells (wp1.heap.size) 0 aK.toList).setCells (wp8.heap.size) 0 pO.toList).heap.size:=Nat.lt_of_lt_of_le v7'.out.lt g7.out.size
    refine wpAnyH_ready (rs:=[6]) (fuel:=1) (by kernel_rfl) (by simp) ?_
    refine AllReadyH.cons rfl (fun K hK=>?_) AllReadyH.nil
    rw [if_pos (by rfl)]
    refine wp_store_mid _ _ _ rfl (wp1.heap.size) 0 aK.toList.toArray rfl rfl t6.out (by rw [List.size_toArray,HLR.out];kernel_rfl) on6.out ?_
    refine hK.out _ _ hS6.out (fun hHeld=>?_)
    clear hK K
    refine wpAnyH_ready (rs:=[7]) (fuel:=0) (by kernel_rfl) (by simp) ?_
    refine AllReadyH.cons rfl (fun K hK=>?_) AllReadyH.nil
    rw [if_pos (by rfl)]
    refine wp_store_mid _ _ _ rfl (wp8.heap.size) 0 pO.toList.toArray rfl rfl t7.out (by rw [List.size_toArray,HLH.out];kernel_rfl) on7.out ?_
    refine hK.out _ _ hS7.out (fun hHeld=>?_)
    clear hK K
    refine wpAnyH_done (by kernel_rfl) ?_ _
    exact REST.out ((wp1.heap.size),(wp8.heap.size),aK,pO) _ ⟨hS7.out,lt6,iW.out,lt7,rg7.out,r6.out,r7.out,s7.out⟩
   refine AllReadyH.cons rfl (fun K hK=>?_) AllReadyH.nil
   have s10:Hid (aj ((wp1.alloc (.cells af 170)).alloc (.cells af 170)) w.heap.size (.slice sa sn sc) sn L):=s7.out.below ((Below.refl _ (wp1.alloc (.cells af 170))).alloc (Nat.le_refl _) (.cells af 170))
   have rCA10:Hid (RowsAt ((wp1.alloc (.cells af 170)).alloc (.cells af 170)) w.heap.size aK steps):=rCA7.out.below ((Below.refl _ (wp1.alloc (.cells af 170))).alloc (Nat.le_refl _) (.cells af 170))
   have v610:Hid (ae ((wp1.alloc (.cells af 170)).alloc (.cells af 170)) (wp1.heap.size) af 170):=vn7.out.below ((Below.refl _ (wp1.alloc (.cells af 170))).alloc (Nat.le_refl _) (.cells af 170))
   have NE:Hid (wp1.heap.size≠wp1.heap.size+1):=by have h1:=vn7.out.lt;(try simp at h1);unfold Hid;omega
   have BL7:Hid (w.heap.size+1<wp1.heap.size+1):=by have h1:=hHeld.2.2.lt;(try simp at h1);unfold Hid;omega
   have zU:Hid (ae ((wp1.alloc (.cells af 170)).alloc (.cells af 170)) (wp1.heap.size+1) af 170):=ae.new (wp1.alloc (.cells af 170)) af 170 (by simp)
   go_simp
   refine hK.out _ _ (hHeld.below ((Below.refl _ (wp1.alloc (.cells af 170))).alloc (Nat.le_refl _) (.cells af 170))) (fun hHeld=>?_)
   clear hK K
   try simp only [Act.put,sI0,sI1,sI2]
   refine wpAnyH_ready (rs:=[3]) (fuel:=2) (by kernel_rfl) (by simp) ?_
   refine AllReadyH.cons rfl (fun K hK=>?_) AllReadyH.nil
   go_simp
   refine (CRB.out _ hHeld).mono ?_
   rintro e fD ⟨kX,rfl,hC,hb⟩
   have s11:Hid (aj fD w.heap.size (.slice sa sn sc) sn L):=s10.out.below (hb)
   have Hz:Hid (RowsAt fD w.heap.size aK steps):=rCA10.out.below (hb)
   have EC:Hid (ae fD (wp1.heap.size) af 170):=v610.out.below (hb)
   have v711:Hid (ae fD (wp1.heap.size+1) af 170):=zU.out.below (hb)
   have H5:Hid (RowsAt fD w.heap.size kX ax):=hC
   have rC:=hHeld.below hb
   clear hb hC
   go_wp2_with fail
   refine hK.out _ _ rC (fun hHeld=>?_)
   clear hK K rC
   have eF:(wp1.heap.size)≠(wp1.heap.size+1):=by have h1:=NE.out;exact fun e=>h1 (by first|exact e|exact e.symm)
   have HLR:Hid (aK.toList.length=40):=by have:=Hz.out.1;simpa [Hid] using this
   have HLH:Hid (kX.toList.length=40):=by have:=H5.out.1;simpa [Hid] using this
   have t6:Hid (fD.there (wp1.heap.size) 0 aK.toList.toArray.size):=EC.out.there (by rw [List.size_toArray,HLR.out];rfl)
   have g6:=Lib.hid (aA (wp1.heap.size) aK.toList 0 fD)
   have on6:Hid (aK.toList.toArray.all (·.oneCell')=true):=all_oneCell_toArray (fun u hu=>Hz.out.one u (by simpa using hu))
   have on7:Hid (kX.toList.toArray.all (·.oneCell')=true):=all_oneCell_toArray (fun u hu=>H5.out.one u (by simpa using hu))
   have v7':=Lib.hid (v711.out.grown g6.out (fun e=>eF (Option.some.inj e).symm))
   have t7:Hid ((fD.setCells (wp1.heap.size) 0 aK.toList).there (wp1.heap.size+1) 0 kX.toList.toArray.size):=v7'.out.there (by rw [List.size_toArray,HLH.out];rfl)
   have g7:=Lib.hid (aA (wp1.heap.size+1) kX.toList 0 (fD.setCells (wp1.heap.size) 0 aK.toList))
   have rg6:Hid ((fD.setCells (wp1.heap.size) 0 aK.toList).rangeAt (wp1.heap.size) 0 aK.toList):=World.rangeAt_setCells_same fD (wp1.heap.size) 0 aK.toList (by simpa using t6.out)
   have rg7:Hid (((fD.setCells (wp1.heap.size) 0 aK.toList).setCells (wp1.heap.size+1) 0 kX.toList).rangeAt (wp1.heap.size+1) 0 kX.toList):=World.rangeAt_setCells_same (fD.setCells (wp1.heap.size) 0 aK.toList) (wp1.heap.size+1) 0 kX.toList (by simpa using t7.out)
   have iW:Hid (((fD.setCells (wp1.heap.size) 0 aK.toList).setCells (wp1.heap.size+1) 0 kX.toList).rangeAt (wp1.heap.size) 0 aK.toList):=eH rg6.out g7.out eF
   have hS6:Hid (aI w (fD.setCells (wp1.heap.size) 0 aK.toList) w.heap.size (w.heap.size+1) 27 (iaC st it a2 n2 c2 a3 n3 c3 a4 n4 c4 a5 n5 c5) (iaC su iu b2 m2 d2 b3 m3 d3 b4 m4 d4 b5 m5 d5)):=⟨hHeld.1.grown g6.out hHeld.1.size (fun q hq=>by have h1:=Option.some.inj hq;have h2:=BL6.out;omega),hHeld.2.1.grown g6.out (fun e=>by have h1:=Option.some.inj e;have h2:=BL6.out;omega),hHeld.2.2.grown g6.out (fun e=>by have h1:=Option.some.inj e;have h2:=BL6.out;omega)⟩
   have hS7:Hid (aI w ((fD.setCells (wp1.heap.size) 0 aK.toList).setCells (wp1.heap.size+1) 0 kX.toList) w.heap.size (w.heap.size+1) 27 (iaC st it a2 n2 c2 a3 n3 c3 a4 n4 c4 a5 n5 c5) (iaC su iu b2 m2 d2 b3 m3 d3 b4 m4 d4 b5 m5 d5)):=⟨hS6.out.1.grown g7.out hS6.out.1.size (fun q hq=>by have h1:=Option.some.inj hq;have h2:=BL7.out;omega),hS6.out.2.1.grown g7.out (fun e=>by have h1:=Option.some.inj e;have h2:=BL7.out;omega),hS6.out.2.2.grown g7.out (fun e=>by have h1:=Option.some.inj e;have h2:=BL7.out;omega)⟩
   have r6:=Lib.hid ((Hz.out.az EC.out (by decide) g6.out).az v7'.out (by decide) g7.out)
   have r7:=Lib.hid ((H5.out.az EC.out (by decide) g6.out).az v7'.out (by decide) g7.out)
   have s7:=Lib.hid ((s11.out.az EC.out (by decide) g6.out).az v7'.out (by decide) g7.out)
   have lt6:(wp1.heap.size)<((fD.setCells (wp1.heap.size) 0 aK.toList).setCells (wp1.heap.size+1) 0 kX.toList).heap.size:=Nat.lt_of_lt_of_le (Nat.lt_of_lt_of_le EC.out.lt g6.out.size) g7.out.size
   have lt7:(wp1.heap.size+1)<((fD.setCells (wp1.heap.size) 0 aK.toList).setCells (wp1.heap.size+1) 0 kX.toList).heap.size:=Nat.lt_of_lt_of_le v7'.out.lt g7.out.size
   refine wpAnyH_ready (rs:=[6]) (fuel:=1) (by kernel_rfl) (by simp) ?_
   refine AllReadyH.cons rfl (fun K hK=>?_) AllReadyH.nil
   rw [if_pos (by rfl)]
   refine wp_store_mid _ _ _ rfl (wp1.heap.size) 0 aK.toList.toArray rfl rfl t6.out (by rw [List.size_toArray,HLR.out];kernel_rfl) on6.out ?_
   refine hK.out _ _ hS6.out (fun hHeld=>?_)
   clear hK K
   refine wpAnyH_ready (rs:=[7]) (fuel:=0) (by kernel_rfl) (by simp) ?_
   refine AllReadyH.cons rfl (fun K hK=>?_) AllReadyH.nil
   rw [if_pos (by rfl)]
   refine wp_store_mid _ _ _ rfl (wp1.heap.size+1) 0 kX.toList.toArray rfl rfl t7.out (by rw [List.size_toArray,HLH.out];kernel_rfl) on7.out ?_
   refine hK.out _ _ hS7.out (fun hHeld=>?_)
   clear hK K
   refine wpAnyH_done (by kernel_rfl) ?_ _
   exact REST.out ((wp1.heap.size),(wp1.heap.size+1),aK,kX) _ ⟨hS7.out,lt6,iW.out,lt7,rg7.out,r6.out,r7.out,s7.out⟩
  refine AllReadyH.cons rfl (fun K hK=>?_) AllReadyH.nil
  have s12:Hid (aj (wp1.alloc (.cells af 170)) w.heap.size (.slice sa sn sc) sn L):=s1.out.below ((Below.refl _ wp1).alloc (Nat.le_refl _) (.cells af 170))
  have JI:Hid (RowsAt (wp1.alloc (.cells af 170)) w.heap.size aK steps):=rCA1.out.below ((Below.refl _ wp1).alloc (Nat.le_refl _) (.cells af 170))
  have BL7:Hid (w.heap.size+1<wp1.heap.size):=by have h1:=hHeld.2.2.lt;(try simp at h1);unfold Hid;omega
  have vn12:Hid (ae (wp1.alloc (.cells af 170)) (wp1.heap.size) af 170):=ae.new wp1 af 170 (by simp)
  go_simp
  refine hK.out _ _ (hHeld.below ((Below.refl _ wp1).alloc (Nat.le_refl _) (.cells af 170))) (fun hHeld=>?_)
  clear hK K
  try simp only [Act.put,sI0,sI1,sI2]
  refine wpAnyH_ready (rs:=[3,4]) (fuel:=3) (by kernel_rfl) (by simp) ?_
  refine AllReadyH.cons rfl (fun K hK=>?_) ?_
  ·go_simp
   refine (CRB.out _ hHeld).mono ?_
   rintro e bf ⟨kD,rfl,hC,hb⟩
   have s13:Hid (aj bf w.heap.size (.slice sa sn sc) sn L):=s12.out.below (hb)
   have rCA13:Hid (RowsAt bf w.heap.size aK steps):=JI.out.below (hb)
   have v713:Hid (ae bf (wp1.heap.size) af 170):=vn12.out.below (hb)
   have rCB13:Hid (RowsAt bf w.heap.size kD ax):=hC
   have rE:=hHeld.below hb
   clear hb hC
   go_wp2_with fail
   refine hK.out _ _ rE (fun hHeld=>?_)
   clear hK K rE
   refine wpAnyH_ready (rs:=[4]) (fuel:=2) (by kernel_rfl) (by simp) ?_
   refine AllReadyH.cons rfl (fun K hK=>?_) AllReadyH.nil
   have s14:Hid (aj (bf.alloc (.cells af 170)) w.heap.size (.slice sa sn sc) sn L):=s13.out.below ((Below.refl _ bf).alloc (Nat.le_refl _) (.cells af 170))
   have H6:Hid (RowsAt (bf.alloc (.cells af 170)) w.heap.size aK steps):=rCA13.out.below ((Below.refl _ bf).alloc (Nat.le_refl _) (.cells af 170))
   have v714:Hid (ae (bf.alloc (.cells af 170)) (wp1.heap.size) af 170):=v713.out.below ((Below.refl _ bf).alloc (Nat.le_refl _) (.cells af 170))
   have H7:Hid (RowsAt (bf.alloc (.cells af 170)) w.heap.size kD ax):=rCB13.out.below ((Below.refl _ bf).alloc (Nat.le_refl _) (.cells af 170))
   have NE:Hid (wp1.heap.size≠bf.heap.size):=by have h1:=v713.out.lt;(try simp at h1);unfold Hid;omega
   have BL6:Hid (w.heap.size+1<bf.heap.size):=by have h1:=hHeld.2.2.lt;(try simp at h1);unfold Hid;omega
   have ED:Hid (ae (bf.alloc (.cells af 170)) (bf.heap.size) af 170):=ae.new bf af 170 (by simp)
   go_simp
   refine hK.out _ _ (hHeld.below ((Below.refl _ bf).alloc (Nat.le_refl _) (.cells af 170))) (fun hHeld=>?_)
   clear hK K
   try simp only [Act.put,sI0,sI1,sI2]
   have eF:(bf.heap.size)≠(wp1.heap.size):=by have h1:=NE.out;exact fun e=>h1 (by first|exact e|exact e.symm)
   have HLR:Hid (aK.toList.length=40):=by have:=H6.out.1;simpa [Hid] using this
   have HLH:Hid (kD.toList.length=40):=by have:=H7.out.1;simpa [Hid] using this
   have t6:Hid ((bf.alloc (.cells af 170)).there (bf.heap.size) 0 aK.toList.toArray.size):=ED.out.there (by rw [List.size_toArray,HLR.out];rfl)
   have g6:=Lib.hid (aA (bf.heap.size) aK.toList 0 (bf.alloc (.cells af 170)))
   have on6:Hid (aK.toList.toArray.all (·.oneCell')=true):=all_oneCell_toArray (fun u hu=>H6.out.one u (by simpa using hu))
   have on7:Hid (kD.toList.toArray.all (·.oneCell')=true):=all_oneCell_toArray (fun u hu=>H7.out.one u (by simpa using hu))
   have v7':=Lib.hid (v714.out.grown g6.out (fun e=>eF (Option.some.inj e).symm))
   have t7:Hid (((bf.alloc (.cells af 170)).setCells (bf.heap.size) 0 aK.toList).there (wp1.heap.size) 0 kD.toList.toArray.size):=v7'.out.there (by rw [List.size_toArray,HLH.out];rfl)
   have g7:=Lib.hid (aA (wp1.heap.size) kD.toList 0 ((bf.alloc (.cells af 170)).setCells (bf.heap.size) 0 aK.toList))
   have rg6:Hid (((bf.alloc (.cells af 170)).setCells (bf.heap.size) 0 aK.toList).rangeAt (bf.heap.size) 0 aK.toList):=World.rangeAt_setCells_same (bf.alloc (.cells af 170)) (bf.heap.size) 0 aK.toList (by simpa using t6.out)
   have rg7:Hid ((((bf.alloc (.cells af 170)).setCells (bf.heap.size) 0 aK.toList).setCells (wp1.heap.size) 0 kD.toList).rangeAt (wp1.heap.size) 0 kD.toList):=World.rangeAt_setCells_same ((bf.alloc (.cells af 170)).setCells (bf.heap.size) 0 aK.toList) (wp1.heap.size) 0 kD.toList (by simpa using t7.out)
   have iW:Hid ((((bf.alloc (.cells af 170)).setCells (bf.heap.size) 0 aK.toList).setCells (wp1.heap.size) 0 kD.toList).rangeAt (bf.heap.size) 0 aK.toList):=eH rg6.out g7.out eF
   have hS6:Hid (aI w ((bf.alloc (.cells af 170)).setCells (bf.heap.size) 0 aK.toList) w.heap.size (w.heap.size+1) 27 (iaC st it a2 n2 c2 a3 n3 c3 a4 n4 c4 a5 n5 c5) (iaC su iu b2 m2 d2 b3 m3 d3 b4 m4 d4 b5 m5 d5)):=⟨hHeld.1.grown g6.out hHeld.1.size (fun q hq=>by have h1:=Option.some.inj hq;have h2:=BL6.out;omega),hHeld.2.1.grown g6.out (fun e=>by have h1:=Option.some.inj e;have h2:=BL6.out;omega),hHeld.2.2.grown g6.out (fun e=>by have h1:=Option.some.inj e;have h2:=BL6.out;omega)⟩
   have hS7:Hid (aI w (((bf.alloc (.cells af 170)).setCells (bf.heap.size) 0 aK.toList).setCells (wp1.heap.size) 0 kD.toList) w.heap.size (w.heap.size+1) 27 (iaC st it a2 n2 c2 a3 n3 c3 a4 n4 c4 a5 n5 c5) (iaC su iu b2 m2 d2 b3 m3 d3 b4 m4 d4 b5 m5 d5)):=⟨hS6.out.1.grown g7.out hS6.out.1.size (fun q hq=>by have h1:=Option.some.inj hq;have h2:=BL7.out;omega),hS6.out.2.1.grown g7.out (fun e=>by have h1:=Option.some.inj e;have h2:=BL7.out;omega),hS6.out.2.2.grown g7.out (fun e=>by have h1:=Option.some.inj e;have h2:=BL7.out;omega)⟩
   have r6:=Lib.hid ((H6.out.az ED.out (by decide) g6.out).az v7'.out (by decide) g7.out)
   have r7:=Lib.hid ((H7.out.az ED.out (by decide) g6.out).az v7'.out (by decide) g7.out)
   have s7:=Lib.hid ((s14.out.az ED.out (by decide) g6.out).az v7'.out (by decide) g7.out)
   have lt6:(bf.heap.size)<(((bf.alloc (.cells af 170)).setCells (bf.heap.size) 0 aK.toList).setCells (wp1.heap.size) 0 kD.toList).heap.size:=Nat.lt_of_lt_of_le (Nat.lt_of_lt_of_le ED.out.lt g6.out.size) g7.out.size
   have lt7:(wp1.heap.size)<(((bf.alloc (.cells af 170)).setCells (bf.heap.size) 0 aK.toList).setCells (wp1.heap.size) 0 kD.toList).heap.size:=Nat.lt_of_lt_of_le v7'.out.lt g7.out.size
   refine wpAnyH_ready (rs:=[6]) (fuel:=1) (by kernel_rfl) (by simp) ?_
   refine AllReadyH.cons rfl (fun K hK=>?_) AllReadyH.nil
   rw [if_pos (by rfl)]
   refine wp_store_mid _ _ _ rfl (bf.heap.size) 0 aK.toList.toArray rfl rfl t6.out (by rw [List.size_toArray,HLR.out];kernel_rfl) on6.out ?_
   refine hK.out _ _ hS6.out (fun hHeld=>?_)
   clear hK K
   refine wpAnyH_ready (rs:=[7]) (fuel:=0) (by kernel_rfl) (by simp) ?_
   refine AllReadyH.cons rfl (fun K hK=>?_) AllReadyH.nil
   rw [if_pos (by rfl)]
   refine wp_store_mid _ _ _ rfl (wp1.heap.size) 0 kD.toList.toArray rfl rfl t7.out (by rw [List.size_toArray,HLH.out];kernel_rfl) on7.out ?_
   refine hK.out _ _ hS7.out (fun hHeld=>?_)
   clear hK K
   refine wpAnyH_done (by kernel_rfl) ?_ _
   exact REST.out ((bf.heap.size),(wp1.heap.size),aK,kD) _ ⟨hS7.out,lt6,iW.out,lt7,rg7.out,r6.out,r7.out,s7.out⟩
  refine AllReadyH.cons rfl (fun K hK=>?_) AllReadyH.nil
  have s15:Hid (aj ((wp1.alloc (.cells af 170)).alloc (.cells af 170)) w.heap.size (.slice sa sn sc) sn L):=s12.out.below ((Below.refl _ (wp1.alloc (.cells af 170))).alloc (Nat.le_refl _) (.cells af 170))
  have rCA15:Hid (RowsAt ((wp1.alloc (.cells af 170)).alloc (.cells af 170)) w.heap.size aK steps):=JI.out.below ((Below.refl _ (wp1.alloc (.cells af 170))).alloc (Nat.le_refl _) (.cells af 170))
  have v715:Hid (ae ((wp1.alloc (.cells af 170)).alloc (.cells af 170)) (wp1.heap.size) af 170):=vn12.out.below ((Below.refl _ (wp1.alloc (.cells af 170))).alloc (Nat.le_refl _) (.cells af 170))
  have NE:Hid (wp1.heap.size≠wp1.heap.size+1):=by have h1:=vn12.out.lt;(try simp at h1);unfold Hid;omega
  have BL6:Hid (w.heap.size+1<wp1.heap.size+1):=by have h1:=hHeld.2.2.lt;(try simp at h1);unfold Hid;omega
  have vn15:Hid (ae ((wp1.alloc (.cells af 170)).alloc (.cells af 170)) (wp1.heap.size+1) af 170):=ae.new (wp1.alloc (.cells af 170)) af 170 (by simp)
  go_simp
  refine hK.out _ _ (hHeld.below ((Below.refl _ (wp1.alloc (.cells af 170))).alloc (Nat.le_refl _) (.cells af 170))) (fun hHeld=>?_)
  clear hK K
  try simp only [Act.put,sI0,sI1,sI2]
  refine wpAnyH_ready (rs:=[3]) (fuel:=2) (by kernel_rfl) (by simp) ?_
  refine AllReadyH.cons rfl (fun K hK=>?_) AllReadyH.nil
  go_simp
  refine (CRB.out _ hHeld).mono ?_
  rintro e eu ⟨kY,rfl,hC,hb⟩
  have s16:Hid (aj eu w.heap.size (.slice sa sn sc) sn L):=s15.out.below (hb)
  have H9:Hid (RowsAt eu w.heap.size aK steps):=rCA15.out.below (hb)
  have v716:Hid (ae eu (wp1.heap.size) af 170):=v715.out.below (hb)
  have EE:Hid (ae eu (wp1.heap.size+1) af 170):=vn15.out.below (hb)
  have Ia:Hid (RowsAt eu w.heap.size kY ax):=hC
  have yw:=hHeld.below hb
  clear hb hC
  go_wp2_with fail
  refine hK.out _ _ yw (fun hHeld=>?_)
  clear hK K yw
  have eF:(wp1.heap.size+1)≠(wp1.heap.size):=by have h1:=NE.out;exact fun e=>h1 (by first|exact e|exact e.symm)
  have HLR:Hid (aK.toList.length=40):=by have:=H9.out.1;simpa [Hid] using this
  have HLH:Hid (kY.toList.length=40):=by have:=Ia.out.1;simpa [Hid] using this
  have t6:Hid (eu.there (wp1.heap.size+1) 0 aK.toList.toArray.size):=EE.out.there (by rw [List.size_toArray,HLR.out];rfl)
  have g6:=Lib.hid (aA (wp1.heap.size+1) aK.toList 0 eu)
  have on6:Hid (aK.toList.toArray.all (·.oneCell')=true):=all_oneCell_toArray (fun u hu=>H9.out.one u (by simpa using hu))
  have on7:Hid (kY.toList.toArray.all (·.oneCell')=true):=all_oneCell_toArray (fun u hu=>Ia.out.one u (by simpa using hu))
  have v7':=Lib.hid (v716.out.grown g6.out (fun e=>eF (Option.some.inj e).symm))
  have t7:Hid ((eu.setCells (wp1.heap.size+1) 0 aK.toList).there (wp1.heap.size) 0 kY.toList.toArray.size):=v7'.out.there (by rw [List.size_toArray,HLH.out];rfl)
  have g7:=Lib.hid (aA (wp1.heap.size) kY.toList 0 (eu.setCells (wp1.heap.size+1) 0 aK.toList))
  have rg6:Hid ((eu.setCells (wp1.heap.size+1) 0 aK.toList).rangeAt (wp1.heap.size+1) 0 aK.toList):=World.rangeAt_setCells_same eu (wp1.heap.size+1) 0 aK.toList (by simpa using t6.out)
  have rg7:Hid (((eu.setCells (wp1.heap.size+1) 0 aK.toList).setCells (wp1.heap.size) 0 kY.toList).rangeAt (wp1.heap.size) 0 kY.toList):=World.rangeAt_setCells_same (eu.setCells (wp1.heap.size+1) 0 aK.toList) (wp1.heap.size) 0 kY.toList (by simpa using t7.out)
  have iW:Hid (((eu.setCells (wp1.heap.size+1) 0 aK.toList).setCells (wp1.heap.size) 0 kY.toList).rangeAt (wp1.heap.size+1) 0 aK.toList):=eH rg6.out g7.out eF
  have hS6:Hid (aI w (eu.setCells (wp1.heap.size+1) 0 aK.toList) w.heap.size (w.heap.size+1) 27 (iaC st it a2 n2 c2 a3 n3 c3 a4 n4 c4 a5 n5 c5) (iaC su iu b2 m2 d2 b3 m3 d3 b4 m4 d4 b5 m5 d5)):=⟨hHeld.1.grown g6.out hHeld.1.size (fun q hq=>by have h1:=Option.some.inj hq;have h2:=BL6.out;omega),hHeld.2.1.grown g6.out (fun e=>by have h1:=Option.some.inj e;have h2:=BL6.out;omega),hHeld.2.2.grown g6.out (fun e=>by have h1:=Option.some.inj e;have h2:=BL6.out;omega)⟩
  have hS7:Hid (aI w ((eu.setCells (wp1.heap.size+1) 0 aK.toList).setCells (wp1.heap.size) 0 kY.toList) w.heap.size (w.heap.size+1) 27 (iaC st it a2 n2 c2 a3 n3 c3 a4 n4 c4 a5 n5 c5) (iaC su iu b2 m2 d2 b3 m3 d3 b4 m4 d4 b5 m5 d5)):=⟨hS6.out.1.grown g7.out hS6.out.1.size (fun q hq=>by have h1:=Option.some.inj hq;have h2:=BL7.out;omega),hS6.out.2.1.grown g7.out (fun e=>by have h1:=Option.some.inj e;have h2:=BL7.out;omega),hS6.out.2.2.grown g7.out (fun e=>by have h1:=Option.some.inj e;have h2:=BL7.out;omega)⟩
  have r6:=Lib.hid ((H9.out.az EE.out (by decide) g6.out).az v7'.out (by decide) g7.out)
  have r7:=Lib.hid ((Ia.out.az EE.out (by decide) g6.out).az v7'.out (by decide) g7.out)
  have s7:=Lib.hid ((s16.out.az EE.out (by decide) g6.out).az v7'.out (by decide) g7.out)
  have lt6:(wp1.heap.size+1)<((eu.setCells (wp1.heap.size+1) 0 aK.toList).setCells (wp1.heap.size) 0 kY.toList).heap.size:=Nat.lt_of_lt_of_le (Nat.lt_of_lt_of_le EE.out.lt g6.out.size) g7.out.size
  have lt7:(wp1.heap.size)<((eu.setCells (wp1.heap.size+1) 0 aK.toList).setCells (wp1.heap.size) 0 kY.toList).heap.size:=Nat.lt_of_lt_of_le v7'.out.lt g7.out.size
  refine wpAnyH_ready (rs:=[6]) (fuel:=1) (by kernel_rfl) (by simp) ?_
  refine AllReadyH.cons rfl (fun K hK=>?_) AllReadyH.nil
  rw [if_pos (by rfl)]
  refine wp_store_mid _ _ _ rfl (wp1.heap.size+1) 0 aK.toList.toArray rfl rfl t6.out (by rw [List.size_toArray,HLR.out];kernel_rfl) on6.out ?_
  refine hK.out _ _ hS6.out (fun hHeld=>?_)
  clear hK K
  refine wpAnyH_ready (rs:=[7]) (fuel:=0) (by kernel_rfl) (by simp) ?_
  refine AllReadyH.cons rfl (fun K hK=>?_) AllReadyH.nil
  rw [if_pos (by rfl)]
  refine wp_store_mid _ _ _ rfl (wp1.heap.size) 0 kY.toList.toArray rfl rfl t7.out (by rw [List.size_toArray,HLH.out];kernel_rfl) on7.out ?_
  refine hK.out _ _ hS7.out (fun hHeld=>?_)
  clear hK K
  refine wpAnyH_done (by kernel_rfl) ?_ _
  exact REST.out ((wp1.heap.size+1),(wp1.heap.size),aK,kY) _ ⟨hS7.out,lt6,iW.out,lt7,rg7.out,r6.out,r7.out,s7.out⟩
 refine AllReadyH.cons rfl (fun K hK=>?_) ?_
 ·have s17:Hid (aj (w1.drew.alloc (.cells af 170)) w.heap.size (.slice sa sn sc) sn L):=HSD.out.below ((Below.refl _ w1.drew).alloc (Nat.le_refl _) (.cells af 170))
  have BL6:Hid (w.heap.size+1<w1.heap.size):=by have h1:=hHeld.2.2.lt;(try simp at h1);unfold Hid;omega
  have En:Hid (ae (w1.drew.alloc (.cells af 170)) (w1.heap.size) af 170):=ae.new w1.drew af 170 (by simp)
  go_simp
  refine hK.out _ _ (hHeld.below ((Below.refl _ w1.drew).alloc (Nat.le_refl _) (.cells af 170))) (fun hHeld=>?_)
  clear hK K
  try simp only [Act.put,sI0,sI1,sI2]
  refine wpAnyH_ready (rs:=[1,5]) (fuel:=4) (by kernel_rfl) (by simp) ?_
  refine AllReadyH.cons rfl (fun K hK=>?_) ?_
  ·go_simp
   refine (CRA.out _ hHeld).mono ?_
   rintro e dL ⟨bP,rfl,hC,hb⟩
   have s18:Hid (aj dL w.heap.size (.slice sa sn sc) sn L):=s17.out.below (hb)
   have v618:Hid (ae dL (w1.heap.size) af 170):=En.out.below (hb)
   have JJ:Hid (RowsAt dL w.heap.size bP steps):=hC
   have yx:=hHeld.below hb
   clear hb hC
   go_wp2_with fail
   refine hK.out _ _ yx (fun hHeld=>?_)
   clear hK K yx
   refine wpAnyH_ready (rs:=[3,5]) (fuel:=3) (by kernel_rfl) (by simp) ?_
   refine AllReadyH.cons rfl (fun K hK=>?_) ?_
   ·go_simp
    refine (CRB.out _ hHeld).mono ?_
    rintro e bC ⟨kE,rfl,hC,hb⟩
    have s19:Hid (aj bC w.heap.size (.slice sa sn sc) sn L):=s18.out.below (hb)
    have v619:Hid (ae bC (w1.heap.size) af 170):=v618.out.below (hb)
    have rCA19:Hid (RowsAt bC w.heap.size bP steps):=JJ.out.below (hb)
    have rCB19:Hid (RowsAt bC w.heap.size kE ax):=hC
    have yz:=hHeld.below hb
    clear hb hC
    go_wp2_with fail
    refine hK.out _ _ yz (fun hHeld=>?_)
    clear hK K yz
    refine wpAnyH_ready (rs:=[5]) (fuel:=2) (by kernel_rfl) (by simp) ?_
    refine AllReadyH.cons rfl (fun K hK=>?_) AllReadyH.nil
    have s20:Hid (aj (bC.alloc (.cells af 170)) w.heap.size (.slice sa sn sc) sn L):=s19.out.below ((Below.refl _ bC).alloc (Nat.le_refl _) (.cells af 170))
    have EF:Hid (ae (bC.alloc (.cells af 170)) (w1.heap.size) af 170):=v619.out.below ((Below.refl _ bC).alloc (Nat.le_refl _) (.cells af 170))
    have Ib:Hid (RowsAt (bC.alloc (.cells af 170)) w.heap.size bP steps):=rCA19.out.below ((Below.refl _ bC).alloc (Nat.le_refl _) (.cells af 170))
    have Ic:Hid (RowsAt (bC.alloc (.cells af 170)) w.heap.size kE ax):=rCB19.out.below ((Below.refl _ bC).alloc (Nat.le_refl _) (.cells af 170))
    have NE:Hid (w1.heap.size≠bC.heap.size):=by have h1:=v619.out.lt;(try simp at h1);unfold Hid;omega
    have BL7:Hid (w.heap.size+1<bC.heap.size):=by have h1:=hHeld.2.2.lt;(try simp at h1);unfold Hid;omega
    have vn20:Hid (ae (bC.alloc (.cells af 170)) (bC.heap.size) af 170):=ae.new bC af 170 (by simp)
    go_simp
    refine hK.out _ _ (hHeld.below ((Below.refl _ bC).alloc (Nat.le_refl _) (.cells af 170))) (fun hHeld=>?_)
    clear hK K
    try simp only [Act.put,sI0,sI1,sI2]
    have eF:(w1.heap.size)≠(bC.heap.size):=by have h1:=NE.out;exact fun e=>h1 (by first|exact e|exact e.symm)
    have HLR:Hid (bP.toList.length=40):=by have:=Ib.out.1;simpa [Hid] using this
    have HLH:Hid (kE.toList.length=40):=by have:=Ic.out.1;simpa [Hid] using this
    have t6:Hid ((bC.alloc (.cells af 170)).there (w1.heap.size) 0 bP.toList.toArray.size):=EF.out.there (by rw [List.size_toArray,HLR.out];rfl)
    have g6:=Lib.hid (aA (w1.heap.size) bP.toList 0 (bC.alloc (.cells af 170)))
    have on6:Hid (bP.toList.toArray.all (·.oneCell')=true):=all_oneCell_toArray (fun u hu=>Ib.out.one u (by simpa using hu))
    have on7:Hid (kE.toList.toArray.all (·.oneCell')=true):=all_oneCell_toArray (fun u hu=>Ic.out.one u (by simpa using hu))
    have v7':=Lib.hid (vn20.out.grown g6.out (fun e=>eF (Option.some.inj e).symm))
    have t7:Hid (((bC.alloc (.cells af 170)).setCells (w1.heap.size) 0 bP.toList).there (bC.heap.size) 0 kE.toList.toArray.size):=v7'.out.there (by rw [List.size_toArray,HLH.out];rfl)
    have g7:=Lib.hid (aA (bC.heap.size) kE.toList 0 ((bC.alloc (.cells af 170)).setCells (w1.heap.size) 0 bP.toList))
    have rg6:Hid (((bC.alloc (.cells af 170)).setCells (w1.heap.size) 0 bP.toList).rangeAt (w1.heap.size) 0 bP.toList):=World.rangeAt_setCells_same (bC.alloc (.cells af 170)) (w1.heap.size) 0 bP.toList (by simpa using t6.out)
    have rg7:Hid ((((bC.alloc (.cells af 170)).setCells (w1.heap.size) 0 bP.toList).setCells (bC.heap.size) 0 kE.toList).rangeAt (bC.heap.size) 0 kE.toList):=World.rangeAt_setCells_same ((bC.alloc (.cells af 170)).setCells (w1.heap.size) 0 bP.toList) (bC.heap.size) 0 kE.toList (by simpa using t7.out)
    have iW:Hid ((((bC.alloc (.cells af 170)).setCells (w1.heap.size) 0 bP.toList).setCells (bC.heap.size) 0 kE.toList).rangeAt (w1.heap.size) 0 bP.toList):=eH rg6.out g7.out eF
    have hS6:Hid (aI w ((bC.alloc (.cells af 170)).setCells (w1.heap.size) 0 bP.toList) w.heap.size (w.heap.size+1) 27 (iaC st it a2 n2 c2 a3 n3 c3 a4 n4 c4 a5 n5 c5) (iaC su iu b2 m2 d2 b3 m3 d3 b4 m4 d4 b5 m5 d5)):=⟨hHeld.1.grown g6.out hHeld.1.size (fun q hq=>by have h1:=Option.some.inj hq;have h2:=BL6.out;omega),hHeld.2.1.grown g6.out (fun e=>by have h1:=Option.some.inj e;have h2:=BL6.out;omega),hHeld.2.2.grown g6.out (fun e=>by have h1:=Option.some.inj e;have h2:=BL6.out;omega)⟩
    have hS7:Hid (aI w (((bC.alloc (.cells af 170)).setCells (w1.heap.size) 0 bP.toList).setCells (bC.heap.size) 0 kE.toList) w.heap.size (w.heap.size+1) 27 (iaC st it a2 n2 c2 a3 n3 c3 a4 n4 c4 a5 n5 c5) (iaC su iu b2 m2 d2 b3 m3 d3 b4 m4 d4 b5 m5 d5)):=⟨hS6.out.1.grown g7.out hS6.out.1.size (fun q hq=>by have h1:=Option.some.inj hq;have h2:=BL7.out;omega),hS6.out.2.1.grown g7.out (fun e=>by have h1:=Option.some.inj e;have h2:=BL7.out;omega),hS6.out.2.2.grown g7.out (fun e=>by have h1:=Option.some.inj e;have h2:=BL7.out;omega)⟩
    have r6:=Lib.hid ((Ib.out.az EF.out (by decide) g6.out).az v7'.out (by decide) g7.out)
    have r7:=Lib.hid ((Ic.out.az EF.out (by decide) g6.out).az v7'.out (by decide) g7.out)
    have s7:=Lib.hid ((s20.out.az EF.out (by decide) g6.out).az v7'.out (by decide) g7.out)
    have lt6:(w1.heap.size)<(((bC.alloc (.cells af 170)).setCells (w1.heap.size) 0 bP.toList).setCells (bC.heap.size) 0 kE.toList).heap.size:=Nat.lt_of_lt_of_le (Nat.lt_of_lt_of_le EF.out.lt g6.out.size) g7.out.size
    have lt7:(bC.heap.size)<(((bC.alloc (.cells af 170)).setCells (w1.heap.size) 0 bP.toList).setCells (bC.heap.size) 0 kE.toList).heap.size:=Nat.lt_of_lt_of_le v7'.out.lt g7.out.size
    refine wpAnyH_ready (rs:=[6]) (fuel:=1) (by kernel_rfl) (by simp) ?_
    refine AllReadyH.cons rfl (fun K hK=>?_) AllReadyH.nil
    rw [if_pos (by rfl)]
    refine wp_store_mid _ _ _ rfl (w1.heap.size) 0 bP.toList.toArray rfl rfl t6.out (by rw [List.size_toArray,HLR.out];kernel_rfl) on6.out ?_
    refine hK.out _ _ hS6.out (fun hHeld=>?_)
    clear hK K
    refine wpAnyH_ready (rs:=[7]) (fuel:=0) (by kernel_rfl) (by simp) ?_
    refine AllReadyH.cons rfl (fun K hK=>?_) AllReadyH.nil
    rw [if_pos (by rfl)]
    refine wp_store_mid _ _ _ rfl (bC.heap.size) 0 kE.toList.toArray rfl rfl t7.out (by rw [List.size_toArray,HLH.out];kernel_rfl) on7.out ?_
    refine hK.out _ _ hS7.out (fun hHeld=>?_)
    clear hK K
    refine wpAnyH_done (by kernel_rfl) ?_ _
    exact REST.out ((w1.heap.size),(bC.heap.size),bP,kE) _ ⟨hS7.out,lt6,iW.out,lt7,rg7.out,r6.out,r7.out,s7.out⟩
   refine AllReadyH.cons rfl (fun K hK=>?_) AllReadyH.nil
   have s21:Hid (aj (dL.alloc (.cells af 170)) w.heap.size (.slice sa sn sc) sn L):=s18.out.below ((Below.refl _ dL).alloc (Nat.le_refl _) (.cells af 170))
   have v621:Hid (ae (dL.alloc (.cells af 170)) (w1.heap.size) af 170):=v618.out.below ((Below.refl _ dL).alloc (Nat.le_refl _) (.cells af 170))
   have rCA21:Hid (RowsAt (dL.alloc (.cells af 170)) w.heap.size bP steps):=JJ.out.below ((Below.refl _ dL).alloc (Nat.le_refl _) (.cells af 170))
   have NE:Hid (w1.heap.size≠dL.heap.size):=by have h1:=v618.out.lt;(try simp at h1);unfold Hid;omega
   have BL7:Hid (w.heap.size+1<dL.heap.size):=by have h1:=hHeld.2.2.lt;(try simp at h1);unfold Hid;omega
   have vn21:Hid (ae (dL.alloc (.cells af 170)) (dL.heap.size) af 170):=ae.new dL af 170 (by simp)
   go_simp
   refine hK.out _ _ (hHeld.below ((Below.refl _ dL).alloc (Nat.le_refl _) (.cells af 170))) (fun hHeld=>?_)
   clear hK K
   try simp only [Act.put,sI0,sI1,sI2]
   refine wpAnyH_ready (rs:=[3]) (fuel:=2) (by kernel_rfl) (by simp) ?_
   refine AllReadyH.cons rfl (fun K hK=>?_) AllReadyH.nil
   go_simp
   refine (CRB.out _ hHeld).mono ?_
   rintro e kS ⟨kZ,rfl,hC,hb⟩
   have s22:Hid (aj kS w.heap.size (.slice sa sn sc) sn L):=s21.out.below (hb)
   have EG:Hid (ae kS (w1.heap.size) af 170):=v621.out.below (hb)
   have Ie:Hid (RowsAt kS w.heap.size bP steps):=rCA21.out.below (hb)
   have v722:Hid (ae kS (dL.heap.size) af 170):=vn21.out.below (hb)
   have Ig:Hid (RowsAt kS w.heap.size kZ ax):=hC
   have hS22:=hHeld.below hb
   clear hb hC
   go_wp2_with fail
   refine hK.out _ _ hS22 (fun hHeld=>?_)
   clear hK K hS22
   have eF:(w1.heap.size)≠(dL.heap.size):=by have h1:=NE.out;exact fun e=>h1 (by first|exact e|exact e.symm)
   have HLR:Hid (bP.toList.length=40):=by have:=Ie.out.1;simpa [Hid] using this
   have HLH:Hid (kZ.toList.length=40):=by have:=Ig.out.1;simpa [Hid] using this
   have t6:Hid (kS.there (w1.heap.size) 0 bP.toList.toArray.size):=EG.out.there (by rw [List.size_toArray,HLR.out];rfl)
   have g6:=Lib.hid (aA (w1.heap.size) bP.toList 0 kS)
   have on6:Hid (bP.toList.toArray.all (·.oneCell')=true):=all_oneCell_toArray (fun u hu=>Ie.out.one u (by simpa using hu))
   have on7:Hid (kZ.toList.toArray.all (·.oneCell')=true):=all_oneCell_toArray (fun u hu=>Ig.out.one u (by simpa using hu))
   have v7':=Lib.hid (v722.out.grown g6.out (fun e=>eF (Option.some.inj e).symm))
   have t7:Hid ((kS.setCells (w1.heap.size) 0 bP.toList).there (dL.heap.size) 0 kZ.toList.toArray.size):=v7'.out.there (by rw [List.size_toArray,HLH.out];rfl)
   have g7:=Lib.hid (aA (dL.heap.size) kZ.toList 0 (kS.setCells (w1.heap.size) 0 bP.toList))
   have rg6:Hid ((kS.setCells (w1.heap.size) 0 bP.toList).rangeAt (w1.heap.size) 0 bP.toList):=World.rangeAt_setCells_same kS (w1.heap.size) 0 bP.toList (by simpa using t6.out)
   have rg7:Hid (((kS.setCells (w1.heap.size) 0 bP.toList).setCells (dL.heap.size) 0 kZ.toList).rangeAt (dL.heap.size) 0 kZ.toList):=World.rangeAt_setCells_same (kS.setCells (w1.heap.size) 0 bP.toList) (dL.heap.size) 0 kZ.toList (by simpa using t7.out)
   have iW:Hid (((kS.setCells (w1.heap.size) 0 bP.toList).setCells (dL.heap.size) 0 kZ.toList).rangeAt (w1.heap.size) 0 bP.toList):=eH rg6.out g7.out eF
   have hS6:Hid (aI w (kS.setCells (w1.heap.size) 0 bP.toList) w.heap.size (w.heap.size+1) 27 (iaC st it a2 n2 c2 a3 n3 c3 a4 n4 c4 a5 n5 c5) (iaC su iu b2 m2 d2 b3 m3 d3 b4 m4 d4 b5 m5 d5)):=⟨hHeld.1.grown g6.out hHeld.1.size (fun q hq=>by have h1:=Option.some.inj hq;have h2:=BL6.out;omega),hHeld.2.1.grown g6.out (fun e=>by have h1:=Option.some.inj e;have h2:=BL6.out;omega),hHeld.2.2.grown g6.out (fun e=>by have h1:=Option.some.inj e;have h2:=BL6.out;omega)⟩
   have hS7:Hid (aI w ((kS.setCells (w1.heap.size) 0 bP.toList).setCells (dL.heap.size) 0 kZ.toList) w.heap.size (w.heap.size+1) 27 (iaC st it a2 n2 c2 a3 n3 c3 a4 n4 c4 a5 n5 c5) (iaC su iu b2 m2 d2 b3 m3 d3 b4 m4 d4 b5 m5 d5)):=⟨hS6.out.1.grown g7.out hS6.out.1.size (fun q hq=>by have h1:=Option.some.inj hq;have h2:=BL7.out;omega),hS6.out.2.1.grown g7.out (fun e=>by have h1:=Option.some.inj e;have h2:=BL7.out;omega),hS6.out.2.2.grown g7.out (fun e=>by have h1:=Option.some.inj e;have h2:=BL7.out;omega)⟩
   have r6:=Lib.hid ((Ie.out.az EG.out (by decide) g6.out).az v7'.out (by decide) g7.out)
   have r7:=Lib.hid ((Ig.out.az EG.out (by decide) g6.out).az v7'.out (by decide) g7.out)
   have s7:=Lib.hid ((s22.out.az EG.out (by decide) g6.out).az v7'.out (by decide) g7.out)
   have lt6:(w1.heap.size)<((kS.setCells (w1.heap.size) 0 bP.toList).setCells (dL.heap.size) 0 kZ.toList).heap.size:=Nat.lt_of_lt_of_le (Nat.lt_of_lt_of_le EG.out.lt g6.out.size) g7.out.size
   have lt7:(dL.heap.size)<((kS.setCells (w1.heap.size) 0 bP.toList).setCells (dL.heap.size) 0 kZ.toList).heap.size:=Nat.lt_of_lt_of_le v7'.out.lt g7.out.size
   refine wpAnyH_ready (rs:=[6]) (fuel:=1) (by kernel_rfl) (by simp) ?_
   refine AllReadyH.cons rfl (fun K hK=>?_) AllReadyH.nil
   rw [if_pos (by rfl)]
   refine wp_store_mid _ _ _ rfl (w1.heap.size) 0 bP.toList.toArray rfl rfl t6.out (by rw [List.size_toArray,HLR.out];kernel_rfl) on6.out ?_
   refine hK.out _ _ hS6.out (fun hHeld=>?_)
   clear hK K
   refine wpAnyH_ready (rs:=[7]) (fuel:=0) (by kernel_rfl) (by simp) ?_
   refine AllReadyH.cons rfl (fun K hK=>?_) AllReadyH.nil
   rw [if_pos (by rfl)]
   refine wp_store_mid _ _ _ rfl (dL.heap.size) 0 kZ.toList.toArray rfl rfl t7.out (by rw [List.size_toArray,HLH.out];kernel_rfl) on7.out ?_
   refine hK.out _ _ hS7.out (fun hHeld=>?_)
   clear hK K
   refine wpAnyH_done (by kernel_rfl) ?_ _
   exact REST.out ((w1.heap.size),(dL.heap.size),bP,kZ) _ ⟨hS7.out,lt6,iW.out,lt7,rg7.out,r6.out,r7.out,s7.out⟩
  refine AllReadyH.cons rfl (fun K hK=>?_) AllReadyH.nil
  have s23:Hid (aj ((w1.drew.alloc (.cells af 170)).alloc (.cells af 170)) w.heap.size (.slice sa sn sc) sn L):=s17.out.below ((Below.refl _ (w1.drew.alloc (.cells af 170))).alloc (Nat.le_refl _) (.cells af 170))
  have v623:Hid (ae ((w1.drew.alloc (.cells af 170)).alloc (.cells af 170)) (w1.heap.size) af 170):=En.out.below ((Below.refl _ (w1.drew.alloc (.cells af 170))).alloc (Nat.le_refl _) (.cells af 170))
  have NE:Hid (w1.heap.size≠w1.heap.size+1):=by have h1:=En.out.lt;(try simp at h1);unfold Hid;omega
  have BL7:Hid (w.heap.size+1<w1.heap.size+1):=by have h1:=hHeld.2.2.lt;(try simp at h1);unfold Hid;omega
  have vn23:Hid (ae ((w1.drew.alloc (.cells af 170)).alloc (.cells af 170)) (w1.heap.size+1) af 170):=ae.new (w1.drew.alloc (.cells af 170)) af 170 (by simp)
  go_simp
  refine hK.out _ _ (hHeld.below ((Below.refl _ (w1.drew.alloc (.cells af 170))).alloc (Nat.le_refl _) (.cells af 170))) (fun hHeld=>?_)
  clear hK K
  try simp only [Act.put,sI0,sI1,sI2]
  refine wpAnyH_ready (rs:=[1]) (fuel:=3) (by kernel_rfl) (by simp) ?_
  refine AllReadyH.cons rfl (fun K hK=>?_) AllReadyH.nil
  go_simp
  refine (CRA.out _ hHeld).mono ?_
  rintro e uD ⟨ik,rfl,hC,hb⟩
  have s24:Hid (aj uD w.heap.size (.slice sa sn sc) sn L):=s23.out.below (hb)
  have v624:Hid (ae uD (w1.heap.size) af 170):=v623.out.below (hb)
  have v724:Hid (ae uD (w1.heap.size+1) af 170):=vn23.out.below (hb)
  have rCA24:Hid (RowsAt uD w.heap.size ik steps):=hC
  have Ep:=hHeld.below hb
  clear hb hC
  go_wp2_with fail
  refine hK.out _ _ Ep (fun hHeld=>?_)
  clear hK K Ep
  refine wpAnyH_ready (rs:=[3]) (fuel:=2) (by kernel_rfl) (by simp) ?_
  refine AllReadyH.cons rfl (fun K hK=>?_) AllReadyH.nil
  go_simp
  refine (CRB.out _ hHeld).mono ?_
  rintro e iD ⟨lg,rfl,hC,hb⟩
  have s25:Hid (aj iD w.heap.size (.slice sa sn sc) sn L):=s24.out.below (hb)
  have EH:Hid (ae iD (w1.heap.size) af 170):=v624.out.below (hb)
  have v725:Hid (ae iD (w1.heap.size+1) af 170):=v724.out.below (hb)
  have Ih:Hid (RowsAt iD w.heap.size ik steps):=rCA24.out.below (hb)
  have Ii:Hid (RowsAt iD w.heap.size lg ax):=hC
  have Es:=hHeld.below hb
  clear hb hC
  go_wp2_with fail
  refine hK.out _ _ Es (fun hHeld=>?_)
  clear hK K Es
  have eF:(w1.heap.size)≠(w1.heap.size+1):=by have h1:=NE.out;exact fun e=>h1 (by first|exact e|exact e.symm)
  have HLR:Hid (ik.toList.length=40):=by have:=Ih.out.1;simpa [Hid] using this
  have HLH:Hid (lg.toList.length=40):=by have:=Ii.out.1;simpa [Hid] using this
  have t6:Hid (iD.there (w1.heap.size) 0 ik.toList.toArray.size):=EH.out.there (by rw [List.size_toArray,HLR.out];rfl)
  have g6:=Lib.hid (aA (w1.heap.size) ik.toList 0 iD)
  have on6:Hid (ik.toList.toArray.all (·.oneCell')=true):=all_oneCell_toArray (fun u hu=>Ih.out.one u (by simpa using hu))
  have on7:Hid (lg.toList.toArray.all (·.oneCell')=true):=all_oneCell_toArray (fun u hu=>Ii.out.one u (by simpa using hu))
  have v7':=Lib.hid (v725.out.grown g6.out (fun e=>eF (Option.some.inj e).symm))
  have t7:Hid ((iD.setCells (w1.heap.size) 0 ik.toList).there (w1.heap.size+1) 0 lg.toList.toArray.size):=v7'.out.there (by rw [List.size_toArray,HLH.out];rfl)
  have g7:=Lib.hid (aA (w1.heap.size+1) lg.toList 0 (iD.setCells (w1.heap.size) 0 ik.toList))
  have rg6:Hid ((iD.setCells (w1.heap.size) 0 ik.toList).rangeAt (w1.heap.size) 0 ik.toList):=World.rangeAt_setCells_same iD (w1.heap.size) 0 ik.toList (by simpa using t6.out)
  have rg7:Hid (((iD.setCells (w1.heap.size) 0 ik.toList).setCells (w1.heap.size+1) 0 lg.toList).rangeAt (w1.heap.size+1) 0 lg.toList):=World.rangeAt_setCells_same (iD.setCells (w1.heap.size) 0 ik.toList) (w1.heap.size+1) 0 lg.toList (by simpa using t7.out)
  have iW:Hid (((iD.setCells (w1.heap.size) 0 ik.toList).setCells (w1.heap.size+1) 0 lg.toList).rangeAt (w1.heap.size) 0 ik.toList):=eH rg6.out g7.out eF
  have hS6:Hid (aI w (iD.setCells (w1.heap.size) 0 ik.toList) w.heap.size (w.heap.size+1) 27 (iaC st it a2 n2 c2 a3 n3 c3 a4 n4 c4 a5 n5 c5) (iaC su iu b2 m2 d2 b3 m3 d3 b4 m4 d4 b5 m5 d5)):=⟨hHeld.1.grown g6.out hHeld.1.size (fun q hq=>by have h1:=Option.some.inj hq;have h2:=BL6.out;omega),hHeld.2.1.grown g6.out (fun e=>by have h1:=Option.some.inj e;have h2:=BL6.out;omega),hHeld.2.2.grown g6.out (fun e=>by have h1:=Option.some.inj e;have h2:=BL6.out;omega)⟩
  have hS7:Hid (aI w ((iD.setCells (w1.heap.size) 0 ik.toList).setCells (w1.heap.size+1) 0 lg.toList) w.heap.size (w.heap.size+1) 27 (iaC st it a2 n2 c2 a3 n3 c3 a4 n4 c4 a5 n5 c5) (iaC su iu b2 m2 d2 b3 m3 d3 b4 m4 d4 b5 m5 d5)):=⟨hS6.out.1.grown g7.out hS6.out.1.size (fun q hq=>by have h1:=Option.some.inj hq;have h2:=BL7.out;omega),hS6.out.2.1.grown g7.out (fun e=>by have h1:=Option.some.inj e;have h2:=BL7.out;omega),hS6.out.2.2.grown g7.out (fun e=>by have h1:=Option.some.inj e;have h2:=BL7.out;omega)⟩
  have r6:=Lib.hid ((Ih.out.az EH.out (by decide) g6.out).az v7'.out (by decide) g7.out)
  have r7:=Lib.hid ((Ii.out.az EH.out (by decide) g6.out).az v7'.out (by decide) g7.out)
  have s7:=Lib.hid ((s25.out.az EH.out (by decide) g6.out).az v7'.out (by decide) g7.out)
  have lt6:(w1.heap.size)<((iD.setCells (w1.heap.size) 0 ik.toList).setCells (w1.heap.size+1) 0 lg.toList).heap.size:=Nat.lt_of_lt_of_le (Nat.lt_of_lt_of_le EH.out.lt g6.out.size) g7.out.size
  have lt7:(w1.heap.size+1)<((iD.setCells (w1.heap.size) 0 ik.toList).setCells (w1.heap.size+1) 0 lg.toList).heap.size:=Nat.lt_of_lt_of_le v7'.out.lt g7.out.size
  refine wpAnyH_ready (rs:=[6]) (fuel:=1) (by kernel_rfl) (by simp) ?_
  refine AllReadyH.cons rfl (fun K hK=>?_) AllReadyH.nil
  rw [if_pos (by rfl)]
  refine wp_store_mid _ _ _ rfl (w1.heap.size) 0 ik.toList.toArray rfl rfl t6.out (by rw [List.size_toArray,HLR.out];kernel_rfl) on6.out ?_
  refine hK.out _ _ hS6.out (fun hHeld=>?_)
  clear hK K
  refine wpAnyH_ready (rs:=[7]) (fuel:=0) (by kernel_rfl) (by simp) ?_
  refine AllReadyH.cons rfl (fun K hK=>?_) AllReadyH.nil
  rw [if_pos (by rfl)]
  refine wp_store_mid _ _ _ rfl (w1.heap.size+1) 0 lg.toList.toArray rfl rfl t7.out (by rw [List.size_toArray,HLH.out];kernel_rfl) on7.out ?_
  refine hK.out _ _ hS7.out (fun hHeld=>?_)
  clear hK K
  refine wpAnyH_done (by kernel_rfl) ?_ _
  exact REST.out ((w1.heap.size),(w1.heap.size+1),ik,lg) _ ⟨hS7.out,lt6,iW.out,lt7,rg7.out,r6.out,r7.out,s7.out⟩
 refine AllReadyH.cons rfl (fun K hK=>?_) AllReadyH.nil
 have s26:Hid (aj (w1.drew.alloc (.cells af 170)) w.heap.size (.slice sa sn sc) sn L):=HSD.out.below ((Below.refl _ w1.drew).alloc (Nat.le_refl _) (.cells af 170))
 have BL7:Hid (w.heap.size+1<w1.heap.size):=by have h1:=hHeld.2.2.lt;(try simp at h1);unfold Hid;omega
 have vn26:Hid (ae (w1.drew.alloc (.cells af 170)) (w1.heap.size) af 170):=ae.new w1.drew af 170 (by simp)
 go_simp
 refine hK.out _ _ (hHeld.below ((Below.refl _ w1.drew).alloc (Nat.le_refl _) (.cells af 170))) (fun hHeld=>?_)
 clear hK K
 try simp only [Act.put,sI0,sI1,sI2]
 refine wpAnyH_ready (rs:=[1,4]) (fuel:=4) (by kernel_rfl) (by simp) ?_
 refine AllReadyH.cons rfl (fun K hK=>?_) ?_
 ·go_simp
  refine (CRA.out _ hHeld).mono ?_
  rintro e df ⟨bQ,rfl,hC,hb⟩
  have s27:Hid (aj df w.heap.size (.slice sa sn sc) sn L):=s26.out.below (hb)
  have v727:Hid (ae df (w1.heap.size) af 170):=vn26.out.below (hb)
  have JK:Hid (RowsAt df w.heap.size bQ steps):=hC
  have Et:=hHeld.below hb
  clear hb hC
  go_wp2_with fail
  refine hK.out _ _ Et (fun hHeld=>?_)
  clear hK K Et
  refine wpAnyH_ready (rs:=[3,4]) (fuel:=3) (by kernel_rfl) (by simp) ?_
  refine AllReadyH.cons rfl (fun K hK=>?_) ?_
  ·go_simp
   refine (CRB.out _ hHeld).mono ?_
   rintro e cO ⟨kF,rfl,hC,hb⟩
   have s28:Hid (aj cO w.heap.size (.slice sa sn sc) sn L):=s27.out.below (hb)
   have v728:Hid (ae cO (w1.heap.size) af 170):=v727.out.below (hb)
   have rCA28:Hid (RowsAt cO w.heap.size bQ steps):=JK.out.below (hb)
   have rCB28:Hid (RowsAt cO w.heap.size kF ax):=hC
   have hS28:=hHeld.below hb
   clear hb hC
   go_wp2_with fail
   refine hK.out _ _ hS28 (fun hHeld=>?_)
   clear hK K hS28
   refine wpAnyH_ready (rs:=[4]) (fuel:=2) (by kernel_rfl) (by simp) ?_
   refine AllReadyH.cons rfl (fun K hK=>?_) AllReadyH.nil
   have s29:Hid (aj (cO.alloc (.cells af 170)) w.heap.size (.slice sa sn sc) sn L):=s28.out.below ((Below.refl _ cO).alloc (Nat.le_refl _) (.cells af 170))
   have v729:Hid (ae (cO.alloc (.cells af 170)) (w1.heap.size) af 170):=v728.out.below ((Below.refl _ cO).alloc (Nat.le_refl _) (.cells af 170))
   have Ij:Hid (RowsAt (cO.alloc (.cells af 170)) w.heap.size bQ steps):=rCA28.out.below ((Below.refl _ cO).alloc (Nat.le_refl _) (.cells af 170))
   have Ik:Hid (RowsAt (cO.alloc (.cells af 170)) w.heap.size kF ax):=rCB28.out.below ((Below.refl _ cO).alloc (Nat.le_refl _) (.cells af 170))
   have NE:Hid (w1.heap.size≠cO.heap.size):=by have h1:=v728.out.lt;(try simp at h1);unfold Hid;omega
   have BL6:Hid (w.heap.size+1<cO.heap.size):=by have h1:=hHeld.2.2.lt;(try simp at h1);unfold Hid;omega
   have EI:Hid (ae (cO.alloc (.cells af 170)) (cO.heap.size) af 170):=ae.new cO af 170 (by simp)
   go_simp
   refine hK.out _ _ (hHeld.below ((Below.refl _ cO).alloc (Nat.le_refl _) (.cells af 170))) (fun hHeld=>?_)
   clear hK K
   try simp only [Act.put,sI0,sI1,sI2]
   have eF:(cO.heap.size)≠(w1.heap.size):=by have h1:=NE.out;exact fun e=>h1 (by first|exact e|exact e.symm)
   have HLR:Hid (bQ.toList.length=40):=by have:=Ij.out.1;simpa [Hid] using this
   have HLH:Hid (kF.toList.length=40):=by have:=Ik.out.1;simpa [Hid] using this
   have t6:Hid ((cO.alloc (.cells af 170)).there (cO.heap.size) 0 bQ.toList.toArray.size):=EI.out.there (by rw [List.size_toArray,HLR.out];rfl)
   have g6:=Lib.hid (aA (cO.heap.size) bQ.toList 0 (cO.alloc (.cells af 170)))
   have on6:Hid (bQ.toList.toArray.all (·.oneCell')=true):=all_oneCell_toArray (fun u hu=>Ij.out.one u (by simpa using hu))
   have on7:Hid (kF.toList.toArray.all (·.oneCell')=true):=all_oneCell_toArray (fun u hu=>Ik.out.one u (by simpa using hu))
   have v7':=Lib.hid (v729.out.grown g6.out (fun e=>eF (Option.some.inj e).symm))
   have t7:Hid (((cO.alloc (.cells af 170)).setCells (cO.heap.size) 0 bQ.toList).there (w1.heap.size) 0 kF.toList.toArray.size):=v7'.out.there (by rw [List.size_toArray,HLH.out];rfl)
   have g7:=Lib.hid (aA (w1.heap.size) kF.toList 0 ((cO.alloc (.cells af 170)).setCells (cO.heap.size) 0 bQ.toList))
   have rg6:Hid (((cO.alloc (.cells af 170)).setCells (cO.heap.size) 0 bQ.toList).rangeAt (cO.heap.size) 0 bQ.toList):=World.rangeAt_setCells_same (cO.alloc (.cells af 170)) (cO.heap.size) 0 bQ.toList (by simpa using t6.out)
   have rg7:Hid ((((cO.alloc (.cells af 170)).setCells (cO.heap.size) 0 bQ.toList).setCells (w1.heap.size) 0 kF.toList).rangeAt (w1.heap.size) 0 kF.toList):=World.rangeAt_setCells_same ((cO.alloc (.cells af 170)).setCells (cO.heap.size) 0 bQ.toList) (w1.heap.size) 0 kF.toList (by simpa using t7.out)
   have iW:Hid ((((cO.alloc (.cells af 170)).setCells (cO.heap.size) 0 bQ.toList).setCells (w1.heap.size) 0 kF.toList).rangeAt (cO.heap.size) 0 bQ.toList):=eH rg6.out g7.out eF
   have hS6:Hid (aI w ((cO.alloc (.cells af 170)).setCells (cO.heap.size) 0 bQ.toList) w.heap.size (w.heap.size+1) 27 (iaC st it a2 n2 c2 a3 n3 c3 a4 n4 c4 a5 n5 c5) (iaC su iu b2 m2 d2 b3 m3 d3 b4 m4 d4 b5 m5 d5)):=⟨hHeld.1.grown g6.out hHeld.1.size (fun q hq=>by have h1:=Option.some.inj hq;have h2:=BL6.out;omega),hHeld.2.1.grown g6.out (fun e=>by have h1:=Option.some.inj e;have h2:=BL6.out;omega),hHeld.2.2.grown g6.out (fun e=>by have h1:=Option.some.inj e;have h2:=BL6.out;omega)⟩
   have hS7:Hid (aI w (((cO.alloc (.cells af 170)).setCells (cO.heap.size) 0 bQ.toList).setCells (w1.heap.size) 0 kF.toList) w.heap.size (w.heap.size+1) 27 (iaC st it a2 n2 c2 a3 n3 c3 a4 n4 c4 a5 n5 c5) (iaC su iu b2 m2 d2 b3 m3 d3 b4 m4 d4 b5 m5 d5)):=⟨hS6.out.1.grown g7.out hS6.out.1.size (fun q hq=>by have h1:=Option.some.inj hq;have h2:=BL7.out;omega),hS6.out.2.1.grown g7.out (fun e=>by have h1:=Option.some.inj e;have h2:=BL7.out;omega),hS6.out.2.2.grown g7.out (fun e=>by have h1:=Option.some.inj e;have h2:=BL7.out;omega)⟩
   have r6:=Lib.hid ((Ij.out.az EI.out (by decide) g6.out).az v7'.out (by decide) g7.out)
   have r7:=Lib.hid ((Ik.out.az EI.out (by decide) g6.out).az v7'.out (by decide) g7.out)
   have s7:=Lib.hid ((s29.out.az EI.out (by decide) g6.out).az v7'.out (by decide) g7.out)
   have lt6:(cO.heap.size)<(((cO.alloc (.cells af 170)).setCells (cO.heap.size) 0 bQ.toList).setCells (w1.heap.size) 0 kF.toList).heap.size:=Nat.lt_of_lt_of_le (Nat.lt_of_lt_of_le EI.out.lt g6.out.size) g7.out.size
   have lt7:(w1.heap.size)<(((cO.alloc (.cells af 170)).setCells (cO.heap.size) 0 bQ.toList).setCells (w1.heap.size) 0 kF.toList).heap.size:=Nat.lt_of_lt_of_le v7'.out.lt g7.out.size
   refine wpAnyH_ready (rs:=[6]) (fuel:=1) (by kernel_rfl) (by simp) ?_
   refine AllReadyH.cons rfl (fun K hK=>?_) AllReadyH.nil
   rw [if_pos (by rfl)]
   refine wp_store_mid _ _ _ rfl (cO.heap.size) 0 bQ.toList.toArray rfl rfl t6.out (by rw [List.size_toArray,HLR.out];kernel_rfl) on6.out ?_
   refine hK.out _ _ hS6.out (fun hHeld=>?_)
   clear hK K
   refine wpAnyH_ready (rs:=[7]) (fuel:=0) (by kernel_rfl) (by simp) ?_
   refine AllReadyH.cons rfl (fun K hK=>?_) AllReadyH.nil
   rw [if_pos (by rfl)]
   refine wp_store_mid _ _ _ rfl (w1.heap.size) 0 kF.toList.toArray rfl rfl t7.out (by rw [List.size_toArray,HLH.out];kernel_rfl) on7.out ?_
   refine hK.out _ _ hS7.out (fun hHeld=>?_)
   clear hK K
   refine wpAnyH_done (by kernel_rfl) ?_ _
   exact REST.out ((cO.heap.size),(w1.heap.size),bQ,kF) _ ⟨hS7.out,lt6,iW.out,lt7,rg7.out,r6.out,r7.out,s7.out⟩
  refine AllReadyH.cons rfl (fun K hK=>?_) AllReadyH.nil
  have s30:Hid (aj (df.alloc (.cells af 170)) w.heap.size (.slice sa sn sc) sn L):=s27.out.below ((Below.refl _ df).alloc (Nat.le_refl _) (.cells af 170))
  have v730:Hid (ae (df.alloc (.cells af 170)) (w1.heap.size) af 170):=v727.out.below ((Below.refl _ df).alloc (Nat.le_refl _) (.cells af 170))
  have rCA30:Hid (RowsAt (df.alloc (.cells af 170)) w.heap.size bQ steps):=JK.out.below ((Below.refl _ df).alloc (Nat.le_refl _) (.cells af 170))
  have NE:Hid (w1.heap.size≠df.heap.size):=by have h1:=v727.out.lt;(try simp at h1);unfold Hid;omega
  have BL6:Hid (w.heap.size+1<df.heap.size):=by have h1:=hHeld.2.2.lt;(try simp at h1);unfold Hid;omega
  have vn30:Hid (ae (df.alloc (.cells af 170)) (df.heap.size) af 170):=ae.new df af 170 (by simp)
  go_simp
  refine hK.out _ _ (hHeld.below ((Below.refl _ df).alloc (Nat.le_refl _) (.cells af 170))) (fun hHeld=>?_)
  clear hK K
  try simp only [Act.put,sI0,sI1,sI2]
  refine wpAnyH_ready (rs:=[3]) (fuel:=2) (by kernel_rfl) (by simp) ?_
  refine AllReadyH.cons rfl (fun K hK=>?_) AllReadyH.nil
  go_simp
  refine (CRB.out _ hHeld).mono ?_
  rintro e iJ ⟨lh,rfl,hC,hb⟩
  have s31:Hid (aj iJ w.heap.size (.slice sa sn sc) sn L):=s30.out.below (hb)
  have v731:Hid (ae iJ (w1.heap.size) af 170):=v730.out.below (hb)
  have Il:Hid (RowsAt iJ w.heap.size bQ steps):=rCA30.out.below (hb)
  have EJ:Hid (ae iJ (df.heap.size) af 170):=vn30.out.below (hb)
  have Io:Hid (RowsAt iJ w.heap.size lh ax):=hC
  have Ew:=hHeld.below hb
  clear hb hC
  go_wp2_with fail
  refine hK.out _ _ Ew (fun hHeld=>?_)
  clear hK K Ew
  have eF:(df.heap.size)≠(w1.heap.size):=by have h1:=NE.out;exact fun e=>h1 (by first|exact e|exact e.symm)
  have HLR:Hid (bQ.toList.length=40):=by have:=Il.out.1;simpa [Hid] using this
  have HLH:Hid (lh.toList.length=40):=by have:=Io.out.1;simpa [Hid] using this
  have t6:Hid (iJ.there (df.heap.size) 0 bQ.toList.toArray.size):=EJ.out.there (by rw [List.size_toArray,HLR.out];rfl)
  have g6:=Lib.hid (aA (df.heap.size) bQ.toList 0 iJ)
  have on6:Hid (bQ.toList.toArray.all (·.oneCell')=true):=all_oneCell_toArray (fun u hu=>Il.out.one u (by simpa using hu))
  have on7:Hid (lh.toList.toArray.all (·.oneCell')=true):=all_oneCell_toArray (fun u hu=>Io.out.one u (by simpa using hu))
  have v7':=Lib.hid (v731.out.grown g6.out (fun e=>eF (Option.some.inj e).symm))
  have t7:Hid ((iJ.setCells (df.heap.size) 0 bQ.toList).there (w1.heap.size) 0 lh.toList.toArray.size):=v7'.out.there (by rw [List.size_toArray,HLH.out];rfl)
  have g7:=Lib.hid (aA (w1.heap.size) lh.toList 0 (iJ.setCells (df.heap.size) 0 bQ.toList))
  have rg6:Hid ((iJ.setCells (df.heap.size) 0 bQ.toList).rangeAt (df.heap.size) 0 bQ.toList):=World.rangeAt_setCells_same iJ (df.heap.size) 0 bQ.toList (by simpa using t6.out)
  have rg7:Hid (((iJ.setCells (df.heap.size) 0 bQ.toList).setCells (w1.heap.size) 0 lh.toList).rangeAt (w1.heap.size) 0 lh.toList):=World.rangeAt_setCells_same (iJ.setCells (df.heap.size) 0 bQ.toList) (w1.heap.size) 0 lh.toList (by simpa using t7.out)
  have iW:Hid (((iJ.setCells (df.heap.size) 0 bQ.toList).setCells (w1.heap.size) 0 lh.toList).rangeAt (df.heap.size) 0 bQ.toList):=eH rg6.out g7.out eF
  have hS6:Hid (aI w (iJ.setCells (df.heap.size) 0 bQ.toList) w.heap.size (w.heap.size+1) 27 (iaC st it a2 n2 c2 a3 n3 c3 a4 n4 c4 a5 n5 c5) (iaC su iu b2 m2 d2 b3 m3 d3 b4 m4 d4 b5 m5 d5)):=⟨hHeld.1.grown g6.out hHeld.1.size (fun q hq=>by have h1:=Option.some.inj hq;have h2:=BL6.out;omega),hHeld.2.1.grown g6.out (fun e=>by have h1:=Option.some.inj e;have h2:=BL6.out;omega),hHeld.2.2.grown g6.out (fun e=>by have h1:=Option.some.inj e;have h2:=BL6.out;omega)⟩
  have hS7:Hid (aI w ((iJ.setCells (df.heap.size) 0 bQ.toList).setCells (w1.heap.size) 0 lh.toList) w.heap.size (w.heap.size+1) 27 (iaC st it a2 n2 c2 a3 n3 c3 a4 n4 c4 a5 n5 c5) (iaC su iu b2 m2 d2 b3 m3 d3 b4 m4 d4 b5 m5 d5)):=⟨hS6.out.1.grown g7.out hS6.out.1.size (fun q hq=>by have h1:=Option.some.inj hq;have h2:=BL7.out;omega),hS6.out.2.1.grown g7.out (fun e=>by have h1:=Option.some.inj e;have h2:=BL7.out;omega),hS6.out.2.2.grown g7.out (fun e=>by have h1:=Option.some.inj e;have h2:=BL7.out;omega)⟩
  have r6:=Lib.hid ((Il.out.az EJ.out (by decide) g6.out).az v7'.out (by decide) g7.out)
  have r7:=Lib.hid ((Io.out.az EJ.out (by decide) g6.out).az v7'.out (by decide) g7.out)
  have s7:=Lib.hid ((s31.out.az EJ.out (by decide) g6.out).az v7'.out (by decide) g7.out)
  have lt6:(df.heap.size)<((iJ.setCells (df.heap.size) 0 bQ.toList).setCells (w1.heap.size) 0 lh.toList).heap.size:=Nat.lt_of_lt_of_le (Nat.lt_of_lt_of_le EJ.out.lt g6.out.size) g7.out.size
  have lt7:(w1.heap.size)<((iJ.setCells (df.heap.size) 0 bQ.toList).setCells (w1.heap.size) 0 lh.toList).heap.size:=Nat.lt_of_lt_of_le v7'.out.lt g7.out.size
  refine wpAnyH_ready (rs:=[6]) (fuel:=1) (by kernel_rfl) (by simp) ?_
  refine AllReadyH.cons rfl (fun K hK=>?_) AllReadyH.nil
  rw [if_pos (by rfl)]
  refine wp_store_mid _ _ _ rfl (df.heap.size) 0 bQ.toList.toArray rfl rfl t6.out (by rw [List.size_toArray,HLR.out];kernel_rfl) on6.out ?_
  refine hK.out _ _ hS6.out (fun hHeld=>?_)
  clear hK K
  refine wpAnyH_ready (rs:=[7]) (fuel:=0) (by kernel_rfl) (by simp) ?_
  refine AllReadyH.cons rfl (fun K hK=>?_) AllReadyH.nil
  rw [if_pos (by rfl)]
  refine wp_store_mid _ _ _ rfl (w1.heap.size) 0 lh.toList.toArray rfl rfl t7.out (by rw [List.size_toArray,HLH.out];kernel_rfl) on7.out ?_
  refine hK.out _ _ hS7.out (fun hHeld=>?_)
  clear hK K
  refine wpAnyH_done (by kernel_rfl) ?_ _
  exact REST.out ((df.heap.size),(w1.heap.size),bQ,lh) _ ⟨hS7.out,lt6,iW.out,lt7,rg7.out,r6.out,r7.out,s7.out⟩
 refine AllReadyH.cons rfl (fun K hK=>?_) AllReadyH.nil
 have s32:Hid (aj ((w1.drew.alloc (.cells af 170)).alloc (.cells af 170)) w.heap.size (.slice sa sn sc) sn L):=s26.out.below ((Below.refl _ (w1.drew.alloc (.cells af 170))).alloc (Nat.le_refl _) (.cells af 170))
 have v732:Hid (ae ((w1.drew.alloc (.cells af 170)).alloc (.cells af 170)) (w1.heap.size) af 170):=vn26.out.below ((Below.refl _ (w1.drew.alloc (.cells af 170))).alloc (Nat.le_refl _) (.cells af 170))
 have NE:Hid (w1.heap.size≠w1.heap.size+1):=by have h1:=vn26.out.lt;(try simp at h1);unfold Hid;omega
 have BL6:Hid (w.heap.size+1<w1.heap.size+1):=by have h1:=hHeld.2.2.lt;(try simp at h1);unfold Hid;omega
 have vn32:Hid (ae ((w1.drew.alloc (.cells af 170)).alloc (.cells af 170)) (w1.heap.size+1) af 170):=ae.new (w1.drew.alloc (.cells af 170)) af 170 (by simp)
 go_simp
 refine hK.out _ _ (hHeld.below ((Below.refl _ (w1.drew.alloc (.cells af 170))).alloc (Nat.le_refl _) (.cells af 170))) (fun hHeld=>?_)
 clear hK K
 try simp only [Act.put,sI0,sI1,sI2]
 refine wpAnyH_ready (rs:=[1]) (fuel:=3) (by kernel_rfl) (by simp) ?_
 refine AllReadyH.cons rfl (fun K hK=>?_) AllReadyH.nil
 go_simp
 refine (CRA.out _ hHeld).mono ?_
 rintro e rG ⟨iq,rfl,hC,hb⟩
 have s33:Hid (aj rG w.heap.size (.slice sa sn sc) sn L):=s32.out.below (hb)
 have v733:Hid (ae rG (w1.heap.size) af 170):=v732.out.below (hb)
 have v633:Hid (ae rG (w1.heap.size+1) af 170):=vn32.out.below (hb)
 have rCA33:Hid (RowsAt rG w.heap.size iq steps):=hC
 have Ey:=hHeld.below hb
 clear hb hC
 go_wp2_with fail
 refine hK.out _ _ Ey (fun hHeld=>?_)
 clear hK K Ey
 refine wpAnyH_ready (rs:=[3]) (fuel:=2) (by kernel_rfl) (by simp) ?_
 refine AllReadyH.cons rfl (fun K hK=>?_) AllReadyH.nil
 go_simp
 refine (CRB.out _ hHeld).mono ?_
 rintro e fM ⟨lq,rfl,hC,hb⟩
 have s34:Hid (aj fM w.heap.size (.slice sa sn sc) sn L):=s33.out.below (hb)
 have v734:Hid (ae fM (w1.heap.size) af 170):=v733.out.below (hb)
 have EK:Hid (ae fM (w1.heap.size+1) af 170):=v633.out.below (hb)
 have Ip:Hid (RowsAt fM w.heap.size iq steps):=rCA33.out.below (hb)
 have Iq:Hid (RowsAt fM w.heap.size lq ax):=hC
 have Ez:=hHeld.below hb
 clear hb hC
 go_wp2_with fail
 refine hK.out _ _ Ez (fun hHeld=>?_)
 clear hK K Ez
 have eF:(w1.heap.size+1)≠(w1.heap.size):=by have h1:=NE.out;exact fun e=>h1 (by first|exact e|exact e.symm)
 have HLR:Hid (iq.toList.length=40):=by have:=Ip.out.1;simpa [Hid] using this
 have HLH:Hid (lq.toList.length=40):=by have:=Iq.out.1;simpa [Hid] using this
 have t6:Hid (fM.there (w1.heap.size+1) 0 iq.toList.toArray.size):=EK.out.there (by rw [List.size_toArray,HLR.out];rfl)
 have g6:=Lib.hid (aA (w1.heap.size+1) iq.toList 0 fM)
 have on6:Hid (iq.toList.toArray.all (·.oneCell')=true):=all_oneCell_toArray (fun u hu=>Ip.out.one u (by simpa using hu))
 have on7:Hid (lq.toList.toArray.all (·.oneCell')=true):=all_oneCell_toArray (fun u hu=>Iq.out.one u (by simpa using hu))
 have v7':=Lib.hid (v734.out.grown g6.out (fun e=>eF (Option.some.inj e).symm))
 have t7:Hid ((fM.setCells (w1.heap.size+1) 0 iq.toList).there (w1.heap.size) 0 lq.toList.toArray.size):=v7'.out.there (by rw [List.size_toArray,HLH.out];rfl)
 have g7:=Lib.hid (aA (w1.heap.size) lq.toList 0 (fM.setCells (w1.heap.size+1) 0 iq.toList))
 have rg6:Hid ((fM.setCells (w1.heap.size+1) 0 iq.toList).rangeAt (w1.heap.size+1) 0 iq.toList):=World.rangeAt_setCells_same fM (w1.heap.size+1) 0 iq.toList (by simpa using t6.out)
 have rg7:Hid (((fM.setCells (w1.heap.size+1) 0 iq.toList).setCells (w1.heap.size) 0 lq.toList).rangeAt (w1.heap.size) 0 lq.toList):=World.rangeAt_setCells_same (fM.setCells (w1.heap.size+1) 0 iq.toList) (w1.heap.size) 0 lq.toList (by simpa using t7.out)
 have iW:Hid (((fM.setCells (w1.heap.size+1) 0 iq.toList).setCells (w1.heap.size) 0 lq.toList).rangeAt (w1.heap.size+1) 0 iq.toList):=eH rg6.out g7.out eF
 have hS6:Hid (aI w (fM.setCells (w1.heap.size+1) 0 iq.toList) w.heap.size (w.heap.size+1) 27 (iaC st it a2 n2 c2 a3 n3 c3 a4 n4 c4 a5 n5 c5) (iaC su iu b2 m2 d2 b3 m3 d3 b4 m4 d4 b5 m5 d5)):=⟨hHeld.1.grown g6.out hHeld.1.size (fun q hq=>by have h1:=Option.some.inj hq;have h2:=BL6.out;omega),hHeld.2.1.grown g6.out (fun e=>by have h1:=Option.some.inj e;have h2:=BL6.out;omega),hHeld.2.2.grown g6.out (fun e=>by have h1:=Option.some.inj e;have h2:=BL6.out;omega)⟩
 have hS7:Hid (aI w ((fM.setCells (w1.heap.size+1) 0 iq.toList).setCells (w1.heap.size) 0 lq.toList) w.heap.size (w.heap.size+1) 27 (iaC st it a2 n2 c2 a3 n3 c3 a4 n4 c4 a5 n5 c5) (iaC su iu b2 m2 d2 b3 m3 d3 b4 m4 d4 b5 m5 d5)):=⟨hS6.out.1.grown g7.out hS6.out.1.size (fun q hq=>by have h1:=Option.some.inj hq;have h2:=BL7.out;omega),hS6.out.2.1.grown g7.out (fun e=>by have h1:=Option.some.inj e;have h2:=BL7.out;omega),hS6.out.2.2.grown g7.out (fun e=>by have h1:=Option.some.inj e;have h2:=BL7.out;omega)⟩
 have r6:=Lib.hid ((Ip.out.az EK.out (by decide) g6.out).az v7'.out (by decide) g7.out)
 have r7:=Lib.hid ((Iq.out.az EK.out (by decide) g6.out).az v7'.out (by decide) g7.out)
 have s7:=Lib.hid ((s34.out.az EK.out (by decide) g6.out).az v7'.out (by decide) g7.out)
 have lt6:(w1.heap.size+1)<((fM.setCells (w1.heap.size+1) 0 iq.toList).setCells (w1.heap.size) 0 lq.toList).heap.size:=Nat.lt_of_lt_of_le (Nat.lt_of_lt_of_le EK.out.lt g6.out.size) g7.out.size
 have lt7:(w1.heap.size)<((fM.setCells (w1.heap.size+1) 0 iq.toList).setCells (w1.heap.size) 0 lq.toList).heap.size:=Nat.lt_of_lt_of_le v7'.out.lt g7.out.size
 refine wpAnyH_ready (rs:=[6]) (fuel:=1) (by kernel_rfl) (by simp) ?_
 refine AllReadyH.cons rfl (fun K hK=>?_) AllReadyH.nil
 rw [if_pos (by rfl)]
 refine wp_store_mid _ _ _ rfl (w1.heap.size+1) 0 iq.toList.toArray rfl rfl t6.out (by rw [List.size_toArray,HLR.out];kernel_rfl) on6.out ?_
 refine hK.out _ _ hS6.out (fun hHeld=>?_)
 clear hK K
 refine wpAnyH_ready (rs:=[7]) (fuel:=0) (by kernel_rfl) (by simp) ?_
 refine AllReadyH.cons rfl (fun K hK=>?_) AllReadyH.nil
 rw [if_pos (by rfl)]
 refine wp_store_mid _ _ _ rfl (w1.heap.size) 0 lq.toList.toArray rfl rfl t7.out (by rw [List.size_toArray,HLH.out];kernel_rfl) on7.out ?_
 refine hK.out _ _ hS7.out (fun hHeld=>?_)
 clear hK K
 refine wpAnyH_done (by kernel_rfl) ?_ _
 exact REST.out ((w1.heap.size+1),(w1.heap.size),iq,lq) _ ⟨hS7.out,lt6,iW.out,lt7,rg7.out,r6.out,r7.out,s7.out⟩
open Go.RowKit
theorem Jh (C:Int→Int→Bool) (m k:Nat):dR (fP C m k 0) m k=dR C m k :=
 Ap (fun p q hp hq=>by
  unfold fP
  rw [decide_eq_true (p:=(0≤(p:Int)∧(p:Int)<(k:Int)∧0≤(q:Int)∧(q:Int)<(m:Int))) (by omega)]
  simp)
open Go.RowKit
theorem qR {su n s:Int} (hsu:1≤su∧su≤40) (hn:n≤40) (h0:0≤s) (h1:s≤n*su - 1):(0≤(bD su s).1∧(bD su s).1<n)∧(0≤(bD su s).2∧(bD su s).2<su):=by
 have hb:n*su≤40*40:=by
  by_cases hn0:0≤n
  ·exact Int.mul_le_mul hn hsu.2 (by omega) (by omega)
  ·have:=Int.mul_neg_of_neg_of_pos (a:=n) (b:=su) (by omega) (by omega)
   omega
 rw [uU hsu (by omega)]
 exact ⟨⟨Int.ediv_nonneg h0 (by omega),Int.ediv_lt_of_lt_mul (by omega) (by omega)⟩,Int.emod_nonneg _ (by omega),Int.emod_lt_of_pos _ (by omega)⟩
theorem EL {P:Program} {op:Oper} {a:Act} {w w':World} {K:Act→World→Prop} {Q:Exit→Act→World→Prop} (s x:Operand) (t:TypeId) (ho:op.op=.call { callee:=.builtin .append,args:=#[s,x],argTypes:=#[t,t] }) (ty:TypeId) (hty:op.type=ty) (vs vx v':Value) (hs:a.eval s=vs) (hx:a.eval x=vx)
  (hrun:Sem.run P (Builtin.append_ #[t,t] ty #[vs,vx]) w=.ok v' w') (h:K (a.put op.dst v') w'):op.wp P a w K Q:=by
 unfold Oper.wp execOp
 simp only [ho,hty,resolve,invoke,builtin,Sem.run_bind,Sem.run_pure,Result.andThen_ok,List.map_toArray,List.map_cons,List.map_nil,hs,hx,hrun]
 exact h
def oM (w W:World) (A B C:Array Value):Prop:=Below w.heap.size w W∧ae W w.heap.size A 27∧ae W (w.heap.size+1) B 27∧ae W (w.heap.size+2) C 27
theorem oM.below {w W W':World} {A B C:Array Value} (h:oM w W A B C) (hb:Below W.heap.size W W'):oM w W' A B C:=⟨h.1.trans (hb.mono h.1.size),h.2.1.below hb,h.2.2.1.below hb,h.2.2.2.below hb⟩
theorem oM.drew {w W:World} {A B C:Array Value} (h:oM w W A B C):oM w W.drew A B C:=⟨h.1.drew,h.2.1,h.2.2.1,h.2.2.2⟩
theorem oM.moved {w W W':World} {A B C:Array Value} {r:Option Nat} (h:oM w W A B C) (hg:W.grownBy W' r) (hr:∀ q,r=some q→w.heap.size+3≤q):oM w W' A B C :=
 ⟨h.1.grown hg h.1.size (fun q hq=>by have:=hr q hq;omega),h.2.1.grown hg (fun e=>by have:=hr _ e.symm;omega),h.2.2.1.grown hg (fun e=>by have:=hr _ e.symm;omega),h.2.2.2.grown hg (fun e=>by have:=hr _ e.symm;omega)⟩
theorem EM (a b P:IaD) (v u pv:Value) (w:World) (h:aB w a v) (k:aB w b u) (hp:aB w P pv) (fa:Small a) (fb:Small b) (oka:aJ a=true) (okb:aJ b=true) (yK:∀ x∈P.steps,(0≤x.1∧x.1≤a.states*b.states - 1)∧(0≤x.2.2∧x.2.2≤a.states*b.states - 1)) (hlen:P.steps.length≤400) (hpi:P.ins.length≤1048576) :
  Calls Tryz.prog 69 #[v,u,pv] w fun e w'=>∃ (M n:Nat) (F:List Pr),e=.returned (.map (some M))∧eQ w' M n (fun p q=>decide ((p,q)∈F))∧w.heap.size≤M∧n≤1600∧(∀ x,x∈F↔qJ (fun x=>gu b.states P.ins P.steps x.1 x.2) (dR (iV a b) b.states.toNat a.states.toNat) x)∧Below w.heap.size w w':=by
 have CC:Hid (∀ W,Below w.heap.size w W→Calls Tryz.prog 120 #[v,u] W fun e w'=>∃ M n,e=.returned (.map (some M))∧eQ w' M n (fP (iV a b) b.states.toNat a.states.toNat 0)∧W.heap.size≤M∧n≤1600∧Below W.heap.size W w'):=fun W hW=>yM a b v u W (h.below hW) (k.below hW) fa fb oka okb
 have sA:=aN oka
 have sB:=aN okb
 obtain ⟨a2,n2,c2,a3,n3,c3,a4,n4,c4,a5,n5,c5,rfl,r2,r3,r4,r5⟩:=h
 obtain ⟨b2,m2,d2,b3,m3,d3,b4,m4,d4,b5,m5,d5,rfl,q2,q3,q4,q5⟩:=k
 obtain ⟨p2,o2,e2,p3,o3,e3,p4,o4,e4,p5,o5,e5,rfl,s2,s3,s4,s5⟩:=hp
 obtain ⟨st,it,ins,outs,ah,steps⟩:=a
 obtain ⟨su,iu,jns,aF,aG,ax⟩:=b
 obtain ⟨pst,pit,pins,pouts,phids,dw⟩:=P
 simp only at s2 s5 yK hlen hpi sA sB CC
 have R2:=Lib.hid s2
 have R5:=Lib.hid s5
 have hl5:=s5.1
 have HE:=Lib.hid yK
 clear r2 r3 r4 r5 q2 q3 q4 q5 s2 s3 s4 s5 fa fb oka okb yK
 have S0:Hid (oM w (((w.alloc (.cells #[.int .i64 st,.int .i64 it,.slice a2 n2 c2,.slice a3 n3 c3,.slice a4 n4 c4,.slice a5 n5 c5] 27)).alloc (.cells #[.int .i64 su,.int .i64 iu,.slice b2 m2 d2,.slice b3 m3 d3,.slice b4 m4 d4,.slice b5 m5 d5] 27)).alloc (.cells #[.int .i64 pst,.int .i64 pit,.slice p2 o2 e2,.slice p3 o3 e3,.slice p4 o4 e4,.slice p5 o5 e5] 27)) (iaC st it a2 n2 c2 a3 n3 c3 a4 n4 c4 a5 n5 c5) (iaC su iu b2 m2 d2 b3 m3 d3 b4 m4 d4 b5 m5 d5) (iaC pst pit p2 o2 e2 p3 o3 e3 p4 o4 e4 p5 o5 e5)):=by
  have h0:=aI.start w (iaC st it a2 n2 c2 a3 n3 c3 a4 n4 c4 a5 n5 c5) (iaC su iu b2 m2 d2 b3 m3 d3 b4 m4 d4 b5 m5 d5) 27
  exact ⟨h0.1.alloc h0.1.size _,h0.2.1.alloc _,h0.2.2.alloc _,ae.new _ #[.int .i64 pst,.int .i64 pit,.slice p2 o2 e2,.slice p3 o3 e3,.slice p4 o4 e4,.slice p5 o5 e5] 27 (by simp)⟩
 obtain ⟨ca0,ca1,ca2,ca3,ca4,ca5⟩:=S0.out.2.1.aO
 obtain ⟨cb0,cb1,cb2,cb3,cb4,cb5⟩:=S0.out.2.2.1.aO
 go_enter Tryz.func69,Tryz.ntmps69
 go_wp2_with fail
 clear ca0 ca1 ca2 ca3 ca4 ca5 cb0 cb1 cb2 cb3 cb4 cb5
 refine (CC.out _ S0.out.1).mono ?_
 rintro e w1 ⟨MC,nC,rfl,hmc,hMC,hnC,hb⟩
 have S1:=Lib.hid (S0.out.below hb)
 have HMC:=Lib.hid hmc
 have HMS:Hid (w.heap.size+3≤w1.heap.size):=by
  have h1:=hb.size
  simp at h1
  unfold Hid
  omega
 clear hb hmc S0 CC
 have bx:Hid (Below w1.heap.size w1 ((w1.alloc (.map #[] 0)).alloc (.cells #[.map (some w1.heap.size)] 139))):=((Below.refl _ _).alloc (Nat.le_refl _) _).alloc (by simp) _
 have HM0:Hid (MapQ ((w1.alloc (.map #[] 0)).alloc (.cells #[.map (some w1.heap.size)] 139)) w1.heap.size 0 w1.heap.size (gu su pins [])):=by
  rw [Jd]
  exact (MapQ.made w1 w1.heap.size).below ((Below.refl _ _).alloc (Nat.le_refl _) _)
 have V3:Hid (ae ((w1.alloc (.map #[] 0)).alloc (.cells #[.map (some w1.heap.size)] 139)) (w1.heap.size+1) #[.map (some w1.heap.size)] 139):=ae.new _ #[.map (some w1.heap.size)] 139 (by simp)
 have cp5:=(S1.out.below bx.out).2.2.2.cell (j:=5) (u:=.slice p5 o5 e5) rfl
 have hmk:(Instr.makeMap 139 none).run Tryz.prog w1=.ok (.map (some w1.heap.size)) (w1.alloc (.map #[] 0)):=rfl
 go_wp2_with fail
 clear cp5 hmk
 go_loopw [22] (fun iv wr=>∃ k n:Nat,k≤o5∧iv=.int .i64 (k:Int)∧Hid (MapQ wr w1.heap.size n w1.heap.size (gu su pins (dw.take k)))∧n≤k∧Hid (Below w1.heap.size w1 wr)∧Hid (ae wr (w1.heap.size+1) #[.map (some w1.heap.size)] 139)) (fun iv _=>o5 - (intOf iv).toNat)
 case atStart=>exact ⟨0,0,Nat.zero_le _,rfl,by unfold Hid;simpa using HM0.out,Nat.le_refl _,bx.out,V3.out⟩
 case round =>
  obtain ⟨k,n,hk,rfl,HMQ,hn,HB,HV⟩:=hrel
  clear HM0 V3 bx
  by_cases hlt:k<o5
  ·obtain ⟨b,off,rfl,hbx,hcell⟩:=R5.out.2 (by omega)
   have hkx:k<dw.length:=by omega
   obtain ⟨⟨xf,xa,xt⟩,hs⟩:∃ t,t=dw[k]:=⟨_,rfl⟩
   obtain ⟨c0,c1,c2x⟩:=hcell k dw[k] (List.getElem?_eq_getElem hkx)
   obtain ⟨hf,ht⟩:=HE.out dw[k] (List.getElem_mem hkx)
   rw [← hs] at c0 c1 c2x hf ht
   simp only at c0 c1 c2x hf ht
   have hww:Below w.heap.size w wr:=S1.out.1.trans (HB.out.mono S1.out.1.size)
   have g0:=(hww.cell (p:=⟨b,off+k*3,none⟩) hbx).trans c0
   have g1:=(hww.cell (p:=⟨b,off+k*3+1,none⟩) hbx).trans c1
   have g2:=(hww.cell (p:=⟨b,off+k*3+2,none⟩) hbx).trans c2x
   (try simp only at g0 g1 g2)
   have hsz:w1.heap.size+1<wr.heap.size:=HV.out.lt
   have HLT:Hid (w1.heap.size<wr.heap.size):=by unfold Hid;omega
   have X1:Hid (ae (wr.alloc (.cells #[.int .i64 xf,.int .i64 xa,.int .i64 xt] 77)) wr.heap.size #[.int .i64 xf,.int .i64 xa,.int .i64 xt] 77):=ae.new wr _ _ rfl
   have bX:Hid (Below wr.heap.size wr (wr.alloc (.cells #[.int .i64 xf,.int .i64 xa,.int .i64 xt] 77))):=(Below.refl _ _).alloc (Nat.le_refl _) _
   have SX:=Lib.hid ((S1.out.below HB.out).below bX.out)
   obtain ⟨q,hq⟩:∃ q,q=hasB pins xa:=⟨_,rfl⟩
   have CH:Hid (∀ W,Below w.heap.size w W→Calls Tryz.prog 53 #[.slice p2 o2 e2,.int .i64 xa] W fun e w'=>e=.returned (.bool q)∧W=w'):=fun W hW=>by
    rw [hq]
    exact (dB p2 o2 e2 xa pins W (R2.out.below hW) (by have:=R2.out.1;omega)).mono fun e w' h=>⟨h.1,h.2.symm⟩
   have HQ:=Lib.hid hq
   have HS:=Lib.hid hs
   have x0:=X1.out.cell (j:=0) (u:=.int .i64 xf) rfl
   have x1:=X1.out.cell (j:=1) (u:=.int .i64 xa) rfl
   have x2:=X1.out.cell (j:=2) (u:=.int .i64 xt) rfl
   have cp2:=SX.out.2.2.2.cell (j:=2) (u:=.slice p2 o2 e2) rfl
   clear c0 c1 c2x hcell hq hs hww
   go_wp2_with fail
   clear g0 g1 g2
   refine (CH.out _ SX.out.1).mono ?_
   rintro e wq ⟨rfl,rfl⟩
   cases q with
   | true =>
    have HN:Hid (gu su pins (dw.take (k+1))=gu su pins (dw.take k)):=by
     unfold Hid
     rw [List.take_succ_eq_append_getElem hkx,Hy (by rw [← HS.out];exact HQ.out.symm)]
    go_wp2_with fail
    go_roundw
    case rel=>exact ⟨k+1,n,by omega,by go_num,by unfold Hid;rw [HN.out];exact HMQ.out.below bX.out,by omega,HB.out.trans (bX.out.mono HB.out.size),HV.out.below bX.out⟩
    case measure=>simp [intOf];omega
   | false =>
    obtain ⟨⟨t0,t1⟩,xw⟩:∃ t,t=bD su xt:=⟨_,rfl⟩
    obtain ⟨⟨f0,f1⟩,y9⟩:∃ t,t=bD su xf:=⟨_,rfl⟩
    have hm:=(rq sA sB).2
    have hlow:=qR sB (s:=xt) (n:=st) (by omega) ht.1 ht.2
    rw [← xw] at hlow
    simp only at hlow
    have WT0:Hid ((Lit.int .i64 t0).wf=true):=iC (by omega) (by omega)
    have WT1:Hid ((Lit.int .i64 t1).wf=true):=iC (by omega) (by omega)
    have CPT:Hid (∀ W,Calls Tryz.prog 121 #[.agg #[.int .i64 su,.int .i64 iu,.slice b2 m2 d2,.slice b3 m3 d3,.slice b4 m4 d4,.slice b5 m5 d5],.int .i64 xt] W fun e w'=>e=.returned (.agg #[.int .i64 t0,.int .i64 t1])∧Below W.heap.size W w'):=fun W=>by
     have h0:=nU su iu (.slice b2 m2 d2) (.slice b3 m3 d3) (.slice b4 m4 d4) (.slice b5 m5 d5) xt W
     rw [← xw] at h0
     exact h0
    have CPO:Hid (∀ W,Calls Tryz.prog 121 #[.agg #[.int .i64 su,.int .i64 iu,.slice b2 m2 d2,.slice b3 m3 d3,.slice b4 m4 d4,.slice b5 m5 d5],.int .i64 xf] W fun e w'=>e=.returned (.agg #[.int .i64 f0,.int .i64 f1])∧Below W.heap.size W w'):=fun W=>by
     have h0:=nU su iu (.slice b2 m2 d2) (.slice b3 m3 d3) (.slice b4 m4 d4) (.slice b5 m5 d5) xf W
     rw [← y9] at h0
     exact h0
    obtain ⟨BB,hBB⟩:∃ B,B=gu su pins (dw.take k):=⟨_,rfl⟩
    have HN:Hid (gu su pins (dw.take (k+1))=addP BB t0 t1 (f0,f1)):=by
     unfold Hid
     rw [List.take_succ_eq_append_getElem hkx,Je (by rw [← HS.out];exact HQ.out.symm),← HS.out,hBB]
     simp only
     rw [← xw,← y9]
    have HBL:Hid ((BB t0 t1).length≤400):=by
     rw [hBB]
     have h1:=Cj su pins (dw.take k) t0 t1
     have h2:(dw.take k).length≤dw.length:=by rw [List.length_take];omega
     unfold Hid
     omega
    rw [← hBB] at HMQ
    clear hBB xw y9 hf ht hlow hm
    obtain ⟨cb0,cb1,cb2,cb3,cb4,cb5⟩:=SX.out.2.2.1.aO
    go_wp2_with fail
    clear cb0 cb1 cb2 cb3 cb4 cb5 x0 x1 x2 cp2
    refine (CPT.out _).mono ?_
    rintro e wt ⟨rfl,hb⟩
    have bt:Hid (Below wt.heap.size wt (wt.alloc (.cells #[.int .i64 t0,.int .i64 t1] 84))):=(Below.refl _ _).alloc (Nat.le_refl _) _
    have BXT:Hid (Below wr.heap.size wr wt):=bX.out.trans (hb.mono bX.out.size)
    have BRT:Hid (Below wr.heap.size wr (wt.alloc (.cells #[.int .i64 t0,.int .i64 t1] 84)).drew):=(BXT.out.trans (bt.out.mono BXT.out.size)).drew
    have HWT:Hid (wr.heap.size<wt.heap.size):=by
     have h1:=hb.size
     simp at h1
     unfold Hid
     omega
    have S8:oM w (wt.alloc (.cells #[.int .i64 t0,.int .i64 t1] 84)).drew (iaC st it a2 n2 c2 a3 n3 c3 a4 n4 c4 a5 n5 c5) (iaC su iu b2 m2 d2 b3 m3 d3 b4 m4 d4 b5 m5 d5) (iaC pst pit p2 o2 e2 p3 o3 e3 p4 o4 e4 (some ⟨b,off,none⟩) o5 e5)∧ae (wt.alloc (.cells #[.int .i64 t0,.int .i64 t1] 84)).drew (w1.heap.size+1) #[.map (some w1.heap.size)] 139∧ae (wt.alloc (.cells #[.int .i64 t0,.int .i64 t1] 84)).drew wr.heap.size #[.int .i64 xf,.int .i64 xa,.int .i64 xt] 77∧ae (wt.alloc (.cells #[.int .i64 t0,.int .i64 t1] 84)).drew wt.heap.size #[.int .i64 t0,.int .i64 t1] 84∧Below w1.heap.size w1 (wt.alloc (.cells #[.int .i64 t0,.int .i64 t1] 84)).drew:=⟨(((SX.out.below hb).below bt.out)).drew,(((HV.out.below bX.out).below hb).below bt.out).drew,((X1.out.below hb).below bt.out).drew,(ae.new wt #[.int .i64 t0,.int .i64 t1] 84 rfl).drew,(HB.out.trans (BRT.out.mono HB.out.size))⟩
    have SD:=S8
    clear hb bt BXT S8 SX X1 CPT CH HV bX
    go_wp2_with fail
    refine fK (S:=fun w'=>oM w w' (iaC st it a2 n2 c2 a3 n3 c3 a4 n4 c4 a5 n5 c5) (iaC su iu b2 m2 d2 b3 m3 d3 b4 m4 d4 b5 m5 d5) (iaC pst pit p2 o2 e2 p3 o3 e3 p4 o4 e4 (some ⟨b,off,none⟩) o5 e5)∧ae w' (w1.heap.size+1) #[.map (some w1.heap.size)] 139∧ae w' wr.heap.size #[.int .i64 xf,.int .i64 xa,.int .i64 xt] 77∧ae w' wt.heap.size #[.int .i64 t0,.int .i64 t1] 84∧Below w1.heap.size w1 w') 12 (by kernel_rfl) (by kernel_rfl) (by kernel_rfl) SD (fun hHeld=>?_)
    refine aZ 0 36 (.map (some w1.heap.size)) (.tmp 8) (.pointer (some ⟨w1.heap.size+1,0,none⟩)) (fuel:=11) rfl rfl (by kernel_rfl) (fun _ _ _ h=>h) (by kernel_rfl) (by kernel_rfl) (fun ρ hr0 _ w hSw=>by have m:=hSw.2.1.cell (j:=0) (u:=.map (some w1.heap.size)) rfl;simp [go_sem,hr0,m]) hHeld (tf 1 12) (by kernel_rfl) (fun K hK=>?_)
    go_big_move
    refine hK.out _ ?_
    clear hK K
    refine dN 1 37 (.agg #[.int .i64 t0,.int .i64 t1]) (fuel:=10) rfl rfl (by kernel_rfl) (fun _ _ _ h=>h) (yieldsIf_load_mid (by rfl) _ _ rfl (wt.heap.size) 0 rfl #[.int .i64 t0,.int .i64 t1].toList _ (fun w hw=>hw.2.2.2.1.range) Tryz.underlying84 rfl (by kernel_rfl)) hHeld (tf 3 12) (by kernel_rfl) (fun K hK=>?_)
    go_big_move
    refine hK.out _ ?_
    clear hK K
    refine dN 2 39 (.agg #[.int .i64 su,.int .i64 iu,.slice b2 m2 d2,.slice b3 m3 d3,.slice b4 m4 d4,.slice b5 m5 d5]) (fuel:=9) rfl rfl (by kernel_rfl) (fun _ _ _ h=>h) (yieldsIf_load_mid (by rfl) _ _ rfl (w.heap.size+1) 0 rfl (iaC su iu b2 m2 d2 b3 m3 d3 b4 m4 d4 b5 m5 d5).toList _ (fun w hw=>hw.1.2.2.1.range) Tryz.underlying27 rfl (by kernel_rfl)) hHeld (tf 7 12) (by kernel_rfl) (fun K hK=>?_)
    go_big_move
    refine hK.out _ ?_
    clear hK K
    refine aZ 3 40 (.pointer (some ⟨wr.heap.size,0,none⟩)) (.tmp 10) (.pointer (some ⟨wr.heap.size,0,none⟩)) (fuel:=8) rfl rfl (by kernel_rfl) (fun _ _ _ h=>h) (by kernel_rfl) (by kernel_rfl) (fun ρ hr0 _ w hSw=>by simp [go_sem,hr0]) hHeld (tf 15 12) (by kernel_rfl) (fun K hK=>?_)
    go_big_move
    refine hK.out _ ?_
    clear hK K
    refine aZ 4 41 (.int .i64 xf) (.tmp 40) (.pointer (some ⟨wr.heap.size,0,none⟩)) (fuel:=7) rfl rfl (by kernel_rfl) (fun _ _ _ h=>h) (by kernel_rfl) (by kernel_rfl) (fun ρ hr0 _ w hSw=>by have m:=hSw.2.2.1.cell (j:=0) (u:=.int .i64 xf) rfl;simp [go_sem,hr0,m]) hHeld (tf 31 12) (by kernel_rfl) (fun K hK=>?_)
    go_big_move
    refine hK.out _ ?_
    clear hK K
    refine wpAnyH_ready (rs:=[5]) (fuel:=6) (by kernel_rfl) (by simp) ?_
    refine aC rfl (by kernel_rfl) (tf 63 12) (by kernel_rfl) (fun K hK=>?_) AllReadyH.nil
    simp only [sI3,sI4,sI5]
    go_big_op
    refine (CPO.out _).mono ?_
    rintro e w5 ⟨rfl,hb⟩
    have hS5:oM w w5 (iaC st it a2 n2 c2 a3 n3 c3 a4 n4 c4 a5 n5 c5) (iaC su iu b2 m2 d2 b3 m3 d3 b4 m4 d4 b5 m5 d5) (iaC pst pit p2 o2 e2 p3 o3 e3 p4 o4 e4 (some ⟨b,off,none⟩) o5 e5)∧ae w5 (w1.heap.size+1) #[.map (some w1.heap.size)] 139∧ae w5 wr.heap.size #[.int .i64 xf,.int .i64 xa,.int .i64 xt] 77∧ae w5 wt.heap.size #[.int .i64 t0,.int .i64 t1] 84∧Below w1.heap.size w1 w5:=⟨hHeld.1.below hb,hHeld.2.1.below hb,hHeld.2.2.1.below hb,hHeld.2.2.2.1.below hb,hHeld.2.2.2.2.trans (hb.mono hHeld.2.2.2.2.size)⟩
    have BR5:=Lib.hid (BRT.out.trans (hb.mono BRT.out.size))
    clear hb
    refine hK.out _ _ hS5 (fun hHeld=>?_)
    clear hK K
    refine wpAnyH_ready (rs:=[6]) (fuel:=5) (by kernel_rfl) (by simp) ?_
    refine aC rfl (by kernel_rfl) (tf 127 12) (by kernel_rfl) (fun K hK=>?_) AllReadyH.nil
    simp only [sI3,sI4,sI5]
    go_big_op
    have bx6:Below w5.heap.size w5 (w5.alloc (.cells #[.int .i64 f0,.int .i64 f1] 84)):=(Below.refl _ _).alloc (Nat.le_refl _) _
    refine hK.out _ _ ⟨hHeld.1.below bx6,hHeld.2.1.below bx6,hHeld.2.2.1.below bx6,hHeld.2.2.2.1.below bx6,hHeld.2.2.2.2.trans (bx6.mono hHeld.2.2.2.2.size)⟩ (fun hHeld=>?_)
    clear hK K
    obtain ⟨v0,bn,w7,hrun0,ho0,hv0,hg7,hback⟩:=HMQ.out.entryAt (w:=(w5.alloc (.cells #[.int .i64 f0,.int .i64 f1] 84))) (t:=139) Tryz.underlying139 (BR5.out.trans (bx6.mono BR5.out.size)) (by unfold maxLen;omega) WT0.out WT1.out
    have V0L:=Lib.hid hv0
    have hrun:(Instr.mapEntry 139 (.map (some w1.heap.size)) (.agg #[.int .i64 t0,.int .i64 t1])).run Tryz.prog (w5.alloc (.cells #[.int .i64 f0,.int .i64 f1] 84))=.ok (.tuple #[v0,.int .i64 (bn:Int)]) w7:=hrun0
    have O7:=Lib.hid ho0
    have HBK:=Lib.hid hback
    have SR7:Hid (Du w7 ⟨w5.heap.size,0,none⟩ (f0,f1)):=fun j u hu=>hg7.cell (zt (w:=w5) (t:=84) (p:=f0) (q:=f1) j u hu) (fun e=>by rw [add_lit] at e;have h1:w5.heap.size=w1.heap.size:=Option.some.inj e;have h2:=HLT.out;have h3:=BR5.out.size;omega)
    have hS7:oM w w7 (iaC st it a2 n2 c2 a3 n3 c3 a4 n4 c4 a5 n5 c5) (iaC su iu b2 m2 d2 b3 m3 d3 b4 m4 d4 b5 m5 d5) (iaC pst pit p2 o2 e2 p3 o3 e3 p4 o4 e4 (some ⟨b,off,none⟩) o5 e5)∧ae w7 (w1.heap.size+1) #[.map (some w1.heap.size)] 139∧ae w7 wr.heap.size #[.int .i64 xf,.int .i64 xa,.int .i64 xt] 77∧ae w7 wt.heap.size #[.int .i64 t0,.int .i64 t1] 84∧Below w1.heap.size w1 w7:=⟨hHeld.1.moved hg7 (fun q hq=>by have h1:=Option.some.inj hq;have h2:=HMS.out;omega),hHeld.2.1.grown hg7 (fun e=>by have h1:=Option.some.inj e;have h2:=HLT.out;have h3:=HWT.out;have h4:=HMS.out;omega),hHeld.2.2.1.grown hg7 (fun e=>by have h1:=Option.some.inj e;have h2:=HLT.out;have h3:=HWT.out;have h4:=HMS.out;omega),hHeld.2.2.2.1.grown hg7 (fun e=>by have h1:=Option.some.inj e;have h2:=HLT.out;have h3:=HWT.out;have h4:=HMS.out;omega),hHeld.2.2.2.2.grown hg7 hHeld.2.2.2.2.size (fun q hq=>by have h1:=Option.some.inj hq;omega)⟩
    clear ho0 hback bx6 hrun0 hg7 hv0
    refine wpAnyH_ready (rs:=[7]) (fuel:=4) (by kernel_rfl) (by simp) ?_
    refine aC rfl (by kernel_rfl) (tf 255 12) (by kernel_rfl) (fun K hK=>?_) AllReadyH.nil
    simp only [sI3,sI4,sI5]
    go_big_op
    refine hK.out _ _ hS7 (fun hHeld=>?_)
    clear hK K hS7 hrun
    obtain ⟨i0,hi,hz,hsize,hby⟩:=info_parts BR
    obtain ⟨v1,w9,hap,JL,hg9,_,hat⟩:=run_append_own_at (P:=Tryz.prog) w7 w1.heap.size 52 52 84 i0 (.agg #[.int .i64 0,.int .i64 0]) 2 16 Tryz.underlying52 hi hz hsize hby rfl (by decide) v0 _ _ O7.out ⟨w5.heap.size,0,none⟩ 1 1 (iZ [(f0,f1)]) rfl (by intro j u hu;exact SR7.out j u (by simpa [iZ] using hu)) (BQ _) (by unfold maxLen;have:=HBL.out;omega) (by have:=HBL.out;omega) (by have h1:=hHeld.2.1.lt;omega)
    have O9:Hid (OwnsP w9 w1.heap.size v1 ((BB t0 t1).length+1) (BB t0 t1++[(f0,f1)])):=by
     unfold Hid OwnsP
     rw [xK]
     exact JL
    obtain ⟨w10,hst0,MQ10,EN⟩:=HBK.out w9 v1 (f0,f1) hg9 O9.out hat
    have hst:(Instr.entryStore 139 (.map (some w1.heap.size)) (.int .i64 (bn:Int)) v1).run Tryz.prog w9=.ok () w10:=hst0
    have HMQ10:=Lib.hid MQ10
    have hS9:oM w w9 (iaC st it a2 n2 c2 a3 n3 c3 a4 n4 c4 a5 n5 c5) (iaC su iu b2 m2 d2 b3 m3 d3 b4 m4 d4 b5 m5 d5) (iaC pst pit p2 o2 e2 p3 o3 e3 p4 o4 e4 (some ⟨b,off,none⟩) o5 e5)∧ae w9 (w1.heap.size+1) #[.map (some w1.heap.size)] 139∧ae w9 wr.heap.size #[.int .i64 xf,.int .i64 xa,.int .i64 xt] 77∧ae w9 wt.heap.size #[.int .i64 t0,.int .i64 t1] 84∧Below w1.heap.size w1 w9:=⟨hHeld.1.moved hg9 (fun q hq=>by have h1:=(O7.out.lt q hq).1;have h2:=HMS.out;omega),hHeld.2.1.grown hg9 (fun e=>iF O7.out hHeld.2.1 (by decide) e.symm),hHeld.2.2.1.grown hg9 (fun e=>iF O7.out hHeld.2.2.1 (by decide) e.symm),hHeld.2.2.2.1.grown hg9 (fun e=>by have h1:=V0L.out _ e.symm;have h2:=HWT.out;omega),hHeld.2.2.2.2.grown hg9 hHeld.2.2.2.2.size (fun q hq=>(O7.out.lt q hq).1)⟩
    have BI:oM w w10 (iaC st it a2 n2 c2 a3 n3 c3 a4 n4 c4 a5 n5 c5) (iaC su iu b2 m2 d2 b3 m3 d3 b4 m4 d4 b5 m5 d5) (iaC pst pit p2 o2 e2 p3 o3 e3 p4 o4 e4 (some ⟨b,off,none⟩) o5 e5)∧ae w10 (w1.heap.size+1) #[.map (some w1.heap.size)] 139∧ae w10 wr.heap.size #[.int .i64 xf,.int .i64 xa,.int .i64 xt] 77∧ae w10 wt.heap.size #[.int .i64 t0,.int .i64 t1] 84∧Below w1.heap.size w1 w10:=⟨hS9.1.moved EN (fun q hq=>by have h1:=Option.some.inj hq;have h2:=HMS.out;omega),hS9.2.1.grown EN (fun e=>by have h1:=Option.some.inj e;have h2:=HLT.out;have h3:=HWT.out;have h4:=HMS.out;omega),hS9.2.2.1.grown EN (fun e=>by have h1:=Option.some.inj e;have h2:=HLT.out;have h3:=HWT.out;have h4:=HMS.out;omega),hS9.2.2.2.1.grown EN (fun e=>by have h1:=Option.some.inj e;have h2:=HLT.out;have h3:=HWT.out;have h4:=HMS.out;omega),hS9.2.2.2.2.grown EN hS9.2.2.2.2.size (fun q hq=>by have h1:=Option.some.inj hq;omega)⟩
    clear hst0 MQ10 JL hat HBK SR7 hi hz hsize hby
    refine aZ 8 38 (v0) (.tmp 44) (.tuple #[v0,.int .i64 (bn:Int)]) (fuel:=3) rfl rfl (by kernel_rfl) (fun _ _ _ h=>h) (by kernel_rfl) (by kernel_rfl) (fun ρ hr0 _ w hSw=>by simp [go_sem,hr0]) hHeld (tf 511 12) (by kernel_rfl) (fun K hK=>?_)
    go_big_move
    refine hK.out _ ?_
    clear hK K
    refine aZ 10 46 (.int .i64 (bn:Int)) (.tmp 44) (.tuple #[v0,.int .i64 (bn:Int)]) (fuel:=2) rfl rfl (by kernel_rfl) (fun _ _ _ h=>h) (by kernel_rfl) (by kernel_rfl) (fun ρ hr0 _ w hSw=>by simp [go_sem,hr0]) hHeld (tf 1535 12) (by kernel_rfl) (fun K hK=>?_)
    go_big_move
    refine hK.out _ ?_
    clear hK K
    refine wpAnyH_ready (rs:=[9]) (fuel:=1) (by kernel_rfl) (by simp) ?_
    refine aC rfl (by kernel_rfl) (tf 2047 12) (by kernel_rfl) (fun K hK=>?_) AllReadyH.nil
    simp only [sI3,sI4,sI5]
    refine EL _ _ _ rfl _ rfl _ _ _ (by kernel_rfl) (by kernel_rfl) hap ?_
    simp only [Act.put,sI0,sI1,sI2]
    refine hK.out _ _ hS9 (fun hHeld=>?_)
    clear hK K hap
    refine wpAnyH_ready (rs:=[11]) (fuel:=0) (by kernel_rfl) (by simp) ?_
    refine aC rfl (by kernel_rfl) (tf 4095 12) (by kernel_rfl) (fun K hK=>?_) AllReadyH.nil
    simp only [sI3,sI4,sI5]
    go_big_op
    refine hK.out _ _ BI (fun hHeld=>?_)
    clear hK K hst
    refine wpAnyH_done (by kernel_rfl) ?_ _
    have SE:=Lib.hid hHeld
    clear hHeld SD CPO
    go_wp2_with fail
    go_roundw
    case rel=>exact ⟨k+1,n+1,by omega,by go_num,by rw [HN.out];exact HMQ10.out,by omega,SE.out.2.2.2.2,SE.out.2.1⟩
    case measure=>simp [intOf];omega
  ·have HALL:Hid (MapQ wr w1.heap.size n w1.heap.size (gu su pins dw)):=by
    have h1:=HMQ.out
    rw [List.take_of_length_le (by omega)] at h1
    exact h1
   clear HMQ
   have S2:=Lib.hid (S1.out.below HB.out)
   have HMC2:=Lib.hid (HMC.out.below HB.out)
   have bm:Hid (Below wr.heap.size wr (wr.alloc (.map #[] 0))):=(Below.refl _ _).alloc (Nat.le_refl _) _
   have S3:=Lib.hid (S2.out.below bm.out)
   have HMC3:=Lib.hid (HMC2.out.below bm.out)
   have HV3:=Lib.hid (HV.out.below bm.out)
   have HA3:=Lib.hid (HALL.out.below bm.out)
   have HB3:Hid (eQ (wr.alloc (.map #[] 0)) wr.heap.size 0 (fun _ _=>false)):=eQ.made wr
   have hmk2:(Instr.makeMap 87 none).run Tryz.prog wr=.ok (.map (some wr.heap.size)) (wr.alloc (.map #[] 0)):=rfl
   have hMr:w1.heap.size<wr.heap.size:=by have:=HV.out.lt;omega
   have hzm:(wr.alloc (.map #[] 0)).heap.size=wr.heap.size+1:=by simp
   obtain ⟨ca0,ca1,ca2,ca3,ca4,ca5⟩:=S3.out.2.1.aO
   obtain ⟨cb0,cb1,cb2,cb3,cb4,cb5⟩:=S3.out.2.2.1.aO
   have L0E:Hid (dR (fP (iV ⟨st,it,ins,outs,ah,steps⟩ ⟨su,iu,jns,aF,aG,ax⟩) su.toNat st.toNat 0) su.toNat st.toNat=dR (iV ⟨st,it,ins,outs,ah,steps⟩ ⟨su,iu,jns,aF,aG,ax⟩) su.toNat st.toNat):=Jh _ _ _
   obtain ⟨L0,hL0⟩:∃ L,L=dR (iV ⟨st,it,ins,outs,ah,steps⟩ ⟨su,iu,jns,aF,aG,ax⟩) su.toNat st.toNat:=⟨_,rfl⟩
   have HL0:Hid (∀ y∈L0,(0≤y.1∧y.1<st)∧(0≤y.2∧y.2<su)):=fun y hy=>by
    rw [hL0] at hy
    have h1:=wS.1 hy
    omega
   obtain ⟨n0,hn0⟩:∃ n,n=L0.length:=⟨_,rfl⟩
   have hn0b:n0≤1048576:=by
    rw [hn0,hL0]
    have h1:=uA (iV ⟨st,it,ins,outs,ah,steps⟩ ⟨su,iu,jns,aF,aG,ax⟩) su.toNat st.toNat
    have h2:st.toNat*su.toNat≤40*40:=Nat.mul_le_mul (by omega) (by omega)
    omega
   have CPI:Hid (Calls Tryz.prog 123 #[.agg #[.int .i64 st,.int .i64 it,.slice a2 n2 c2,.slice a3 n3 c3,.slice a4 n4 c4,.slice a5 n5 c5],.agg #[.int .i64 su,.int .i64 iu,.slice b2 m2 d2,.slice b3 m3 d3,.slice b4 m4 d4,.slice b5 m5 d5],.map (some MC)] (wr.alloc (.map #[] 0)) fun e w'=>∃ ad c,e=.returned (.slice ad n0 c)∧wI w' ad n0 L0∧Below (wr.alloc (.map #[] 0)).heap.size (wr.alloc (.map #[] 0)) w'):=by
    unfold Hid
    rw [hn0,hL0,← L0E.out]
    refine (zK st it _ _ _ _ su iu _ _ _ _ MC nC _ _ HMC3.out (by omega) (by omega)).mono ?_
    rintro e w' ⟨v',rfl,ho,hb⟩
    obtain ⟨ad,c,rfl⟩:=ho.form
    exact ⟨ad,c,rfl,ho.row.2.2.2,hb⟩
   have JM:Hid (∀ y,qJ (fun x=>gu su pins dw x.1 x.2) L0 y→(0≤y.1∧y.1<40)∧(0≤y.2∧y.2<40)):=fun y hy=>by
    have h1:=((Bd sB sA HE.out HL0.out).1 y hy).1
    omega
   have HL0E:=Lib.hid hL0
   clear L0E hn0 hL0
   go_wp2_with fail
   clear ca0 ca1 ca2 ca3 ca4 ca5 cb0 cb1 cb2 cb3 cb4 cb5 hmk2
   refine CPI.out.mono ?_
   rintro e w6 ⟨ad,cc,rfl,hrow,hb⟩
   have S6:=Lib.hid (S3.out.below hb)
   have HV6:=Lib.hid (HV3.out.below hb)
   have HA6:=Lib.hid (HA3.out.below hb)
   have HB6:=Lib.hid (HB3.out.below hb)
   have RW:=Lib.hid hrow
   have hz6:=hb.size
   clear hb hrow S3 HV3 HA3 HB3 CPI HMC3
   go_wp2_with fail
   refine (FP ad n0 cc L0 (w1.heap.size+1) w1.heap.size n w1.heap.size (gu su pins dw) _ RW.out hn0b HV6.out HA6.out JM.out (fun p q=>by have:=Cj su pins dw p q;omega)).mono ?_
   rintro e w8 ⟨v8,nF,F,rfl,ho,hnF,hF,hb⟩
   have S8:=Lib.hid (S6.out.below hb)
   have HB8:=Lib.hid (HB6.out.below hb)
   have HF:=Lib.hid hF
   have HO:=Lib.hid ho
   have hz8:=hb.size
   clear hb ho hF S6 HV6 HA6 HB6 RW
   obtain ⟨av,cv,rfl⟩:=HO.out.form
   have HNE:Hid (∀ j,(Value.slice av nF cv).ownBlock=some j→some j≠some wr.heap.size):=fun j hj e=>by
    have h1:=(HO.out.lt j hj).1
    have h2:=Option.some.inj e
    omega
   obtain ⟨MB,hMB⟩:∃ m,m=wr.heap.size:=⟨_,rfl⟩
   rw [← hMB] at HB8 HNE
   have HMBL:Hid (w.heap.size≤MB):=by rw [hMB];have h1:=HMS.out;unfold Hid;omega
   have wV:Hid (∀ y∈F,(0≤y.1∧y.1<40)∧(0≤y.2∧y.2<40)):=fun y hy=>JM.out y (HF.out.2.2.1 y hy)
   go_wp2_with fail
   rw [← hMB]
   clear hMB
   go_loopw [56] (fun iv wr=>∃ j m:Nat,j≤nF∧iv=.int .i64 (j:Int)∧Hid (eQ wr MB m (fun p q=>decide ((p,q)∈F.take j)))∧m≤j∧Hid (w8.grownBy wr (some MB))) (fun iv _=>nF - (intOf iv).toNat)
   case atStart=>exact ⟨0,0,Nat.zero_le _,rfl,by unfold Hid;simpa using HB8.out,Nat.le_refl _,by exact ⟨rfl,rfl,rfl,Nat.le_refl _,fun _ _ _=>rfl⟩⟩
   case round =>
    clear HB8
    obtain ⟨j,m,hj,rfl,HM,hm,HG⟩:=hrel
    by_cases hlt:j<nF
    ·have HOW:=Lib.hid (HO.out.keep HG.out HNE.out)
     obtain ⟨gF,oF,rfl,_,hcell⟩:=HOW.out.row.2.2.2.2 (by omega)
     have hjx:j<F.length:=by have:=HOW.out.length;omega
     obtain ⟨⟨x0,x1⟩,hx⟩:∃ x,x=F[j]:=⟨_,rfl⟩
     obtain ⟨c0,c1⟩:=hcell j F[j] (List.getElem?_eq_getElem hjx)
     have hlow:=wV.out F[j] (List.getElem_mem hjx)
     rw [← hx] at c0 c1 hlow
     simp only at c0 c1 hlow
     have wf0:=iC (x:=x0) (by omega) (by omega)
     have wf1:=iC (x:=x1) (by omega) (by omega)
     have HP:Hid (Bi (fun p q=>decide ((p,q)∈F.take j)) x0 x1=fun p q=>decide ((p,q)∈F.take (j+1))):=by
      funext p q
      unfold Bi
      rw [List.take_succ_eq_append_getElem hjx,← hx]
      by_cases e:p=x0∧q=x1
      ·obtain ⟨rfl,rfl⟩:=e
       simp
      ·rw [if_neg e]
       simp [Prod.ext_iff,e]
     have HM1:=Lib.hid (HM.out.alloc (.cells #[.int .i64 x0,.int .i64 x1] 84))
     have HG1:=Lib.hid (grownBy_trans HG.out (World.grownBy_alloc wr (.cells #[.int .i64 x0,.int .i64 x1] 84) (some MB)))
     clear hx hcell hlow HM HG HOW
     go_wp2_with (at_mapUpdate;refine yQ rfl _ _ _ rfl MB m (fun p q=>decide ((p,q)∈F.take j)) rfl HM1.out (by unfold maxLen;omega) x0 x1 rfl rfl wf0 wf1 ?_)
     intro w9 hm9 hg9
     have HM9:Hid (eQ w9 MB (m+1) (fun p q=>decide ((p,q)∈F.take (j+1)))):=by rw [← HP.out];exact hm9
     have HG9:=Lib.hid (grownBy_trans HG1.out hg9)
     clear hm9 hg9 HM1 HG1 c0 c1 wf0 wf1
     go_wp2_with fail
     go_roundw
     case rel=>exact ⟨j+1,m+1,by omega,by go_num,HM9.out,by omega,HG9.out⟩
     case measure=>simp [intOf];omega
    ·have HE:Hid (eQ wr MB m (fun p q=>decide ((p,q)∈F))):=by
      have h1:=HM.out
      rw [List.take_of_length_le (by have:=HO.out.length;omega)] at h1
      exact h1
     go_wp2_with fail
     go_ret
     exact ⟨MB,m,F,rfl,HE.out,HMBL.out,by omega,fun x=>by rw [← HL0E.out];exact HF.out.done x,S8.out.1.grown HG.out S8.out.1.size (fun q hq=>by have h1:=Option.some.inj hq;have h2:=HMBL.out;omega)⟩
open Go.RowKit
theorem xx {S:Int→Int→Bool} {p:Nat} {su:Int}:∀ j:Nat,((rowP S p j).map (fJ su)).Pairwise (·<·)
 | 0=>List.Pairwise.nil
 | j+1=>by
  unfold rowP
  split
  ·rw [List.map_append,List.pairwise_append]
   refine ⟨xx j,by simp,fun x hx y hy=>?_⟩
   obtain ⟨a,ha,rfl⟩:=List.mem_map.1 hx
   simp only [List.map_cons,List.map_nil,List.mem_singleton] at hy
   subst hy
   have h1:=wR.1 ha
   unfold fJ
   rw [h1.1]
   simp only
   omega
  ·rw [List.append_nil]
   exact xx j
theorem Be {S:Int→Int→Bool} {su:Int} {m:Nat} (hm:(m:Int)=su):∀ k:Nat,((dR S m k).map (fJ su)).Pairwise (·<·)
 | 0=>List.Pairwise.nil
 | k+1=>by
  unfold dR
  rw [List.map_append,List.pairwise_append]
  refine ⟨Be hm k,xx m,fun x hx y hy=>?_⟩
  obtain ⟨a,ha,rfl⟩:=List.mem_map.1 hx
  obtain ⟨b,hb,rfl⟩:=List.mem_map.1 hy
  have h1:=JB hm ha
  have h2:=wR.1 hb
  have h3:fJ su b=(k:Int)*m+b.2:=by unfold fJ;rw [h2.1,hm]
  rw [h3]
  omega
def EO (a b:IaD) (F:List Pr):Prop:=∀ x,x∈F↔qJ (fun x=>gu b.states (aQ a b).ins (aQ a b).steps x.1 x.2) (dR (iV a b) b.states.toNat a.states.toNat) x
theorem uV {a b:IaD} (hp:fQ a b=true):∀ x∈(aQ a b).steps,(0≤x.1∧x.1≤a.states*b.states - 1)∧(0≤x.2.2∧x.2.2≤a.states*b.states - 1):=fun x hx=>by
 have h1:=dH (pY hp) x hx
 exact ⟨h1.1,h1.2.1⟩
theorem uI {a b:IaD} (hp:fQ a b=true):iH a b=true:=by
 unfold fQ at hp
 rw [Bool.and_eq_true] at hp
 exact hp.1
theorem Ji {a b:IaD} (hp:fQ a b=true) {F:List Pr} (hF:EO a b F) :
  (∀ y∈F,((0≤y.1∧y.1<a.states)∧(0≤y.2∧y.2<b.states))∧fJ b.states y∈gq a b)∧∀ z∈gq a b,(0≤z∧z≤a.states*b.states - 1)∧bD b.states z∈F:=by
 have hf:=uI hp
 obtain ⟨oka,okb,_⟩:=iQ hf
 have sA:=aN oka
 have sB:=aN okb
 have hcl:iy a b=(dR (iV a b) b.states.toNat a.states.toNat).map (fJ b.states):=if_pos hf
 have hbad:gq a b=kK [0] (jh (aQ a b).ins (aQ a b).steps) (iy a b):=if_pos hp
 have hL:∀ y∈dR (iV a b) b.states.toNat a.states.toNat,(0≤y.1∧y.1<a.states)∧(0≤y.2∧y.2<b.states):=fun y hy=>by
  have h1:=wS.1 hy
  omega
 obtain ⟨c1,c2⟩:=Bd sB sA (uV hp) hL
 rw [hbad,hcl]
 refine ⟨fun y hy=>?_,fun z hz=>?_⟩
 ·obtain ⟨h1,h2⟩:=c1 y ((hF y).1 hy)
  exact ⟨h1,((iM _ _ _).2 _).2 h2⟩
 ·obtain ⟨h1,h2⟩:=c2 z (((iM _ _ _).2 _).1 hz)
  exact ⟨h1,(hF _).2 h2⟩
theorem zX {a b:IaD} (hp:fQ a b=true) {F:List Pr} (hF:EO a b F) {p q:Int} (h0:0≤p∧p<a.states) (h1:0≤q∧q<b.states):decide ((p,q)∈F)=hasB (gq a b) (fJ b.states (p,q)):=by
 have hf:=uI hp
 obtain ⟨oka,okb,_⟩:=iQ hf
 have sA:=aN oka
 have sB:=aN okb
 obtain ⟨c1,c2⟩:=Ji hp hF
 have e:=zi (p:=p) sB (by omega) h1
 rw [Bool.eq_iff_iff,decide_eq_true_eq,iG]
 refine ⟨fun h=>(c1 _ h).2,fun h=>?_⟩
 have h2:=(c2 _ h).2
 rw [e] at h2
 exact h2
def ji (a b:IaD):Bool:=fQ a b&&!hasB (gq a b) (aQ a b).init
end Go.Proofs.YtnglogkkkpegnaaGreat
