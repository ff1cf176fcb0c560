import Derived.Test.YtnglogkkkpegnaaGreatToStep
import Derived.Test.YtnglogkkkpegnaaGreatMark
set_option maxHeartbeats 1600000
set_option maxRecDepth 20000
namespace Go.Proofs.YtnglogkkkpegnaaGreat
open Go.RowKit
def gW (k:Int) (n:Nat):List St:=(List.range n).map (fun i:Nat=>(k+3*(i:Int),k+3*(i:Int)+1,k+3*(i:Int)+1+1))
theorem sZ (k:Int) (n:Nat):(gW k n).length=n:=by simp [gW]
theorem Fe (k:Int) (n:Nat):gW k (n+1)=gW k n++[(k+3*(n:Int),k+3*(n:Int)+1,k+3*(n:Int)+1+1)]:=by simp [gW,List.range_succ]
theorem Dv {k0:Int} {ss:List St} {j n:Nat} (hl:ss.length=n) (hj:j<n) :
  (gW k0 j++ss.drop j).set j (k0+3*(j:Int),k0+3*(j:Int)+1,k0+3*(j:Int)+1+1)=gW k0 (j+1)++ss.drop (j+1):=by
 rw [List.drop_eq_getElem_cons (by omega:j<ss.length),List.set_append,if_neg (by simp [sZ])]
 have e:j - (gW k0 j).length=0:=by simp [sZ]
 rw [e,Fe]
 simp only [sI1,List.append_assoc,List.cons_append,List.nil_append]
def J4 (w:World) (base:Nat) (v:Value) (k0:Int) (n:Nat) (e:Ending) (w':World):Prop :=
 e=.returned (.int .i64 (k0+3*(n:Int)))∧OwnsS 77 w' base v n (gW k0 n)∧w.grownBy w' v.ownBlock
theorem BU (v:Value) (n base:Nat) (k0:Int) (ss:List St) (w:World) (h:OwnsS 77 w base v n ss) (hn:n≤274877906944) (hk0:0≤k0) (hk1:k0≤4398046511104) :
  Calls Tryz.prog 40 #[v,.int .i64 k0] w (J4 w base v k0 n):=by
 have hl:=h.length
 by_cases hv:v=.slice none 0 0
 ·subst hv
  obtain rfl:n=0:=h.row.1.symm
  have H:=Lib.hid h
  have HL:=Lib.hid hl
  clear h hl
  go_enter Tryz.func40,Tryz.ntmps40
  go_wp2
  go_loop [1,5] (fun k i=>k=.int .i64 k0∧i=.int .i64 0) (fun _ _=>0)
  case atStart=>exact ⟨rfl,rfl⟩
  case round =>
   obtain ⟨rfl,rfl⟩:=hrel
   go_wp2
   go_ret
   have e:=H.out
   obtain rfl:ss=[]:=List.length_eq_zero_iff.1 HL.out
   exact ⟨dP (by simp),e,⟨rfl,rfl,rfl,Nat.le_refl _,fun _ _ _=>rfl⟩⟩
 ·obtain ⟨g,c,rfl⟩:=h.head hv
  have hnc:=h.row.2.1
  have hcm:=h.row.2.2.1
  unfold maxLen at hcm
  have H:=Lib.hid h
  have HL:=Lib.hid hl
  clear h hl hv
  go_enter Tryz.func40,Tryz.ntmps40
  go_wp2
  go_loopw [1,5] (fun k i wr=>∃ j:Nat,j≤n∧i=.int .i64 j∧k=.int .i64 (k0+3*(j:Int))∧Hid (OwnsS 77 wr base (.slice (some ⟨g,0,none⟩) n c) n (gW k0 j++ss.drop j))∧Hid (w.grownBy wr (some g))) (fun _ i _=>n - (intOf i).toNat)
  case atStart=>exact ⟨0,Nat.zero_le _,rfl,by simp,by simpa [gW,Hid] using H.out,⟨rfl,rfl,rfl,Nat.le_refl _,fun _ _ _=>rfl⟩⟩
  case round =>
   obtain ⟨j,hj,rfl,rfl,HO,HG⟩:=hrel
   by_cases hlt:j<n
   ·have o0:wr.ownsRow base 77 3 (.slice (some ⟨g,0,none⟩) n c) n (flat (gW k0 j++ss.drop j)):=HO.out
    have hlen:(flat (gW k0 j++ss.drop j)).length=n*3:=o0.1
    have o1:=(o0.stored (j*3) (.int .i64 (k0+3*(j:Int)))).1
    have o2:=(o1.stored (j*3+1) (.int .i64 (k0+3*(j:Int)+1))).1
    obtain ⟨u0,g0⟩:∃ u,wr.cell? ⟨g,j*3,none⟩=some u:=⟨_,(o0.cellAt (j*3) (by omega)).trans (List.getElem?_eq_getElem (by omega))⟩
    have f0:=o0.frozenAt (j*3)
    obtain ⟨u1,g1⟩:∃ u,(wr.setCell ⟨g,j*3,none⟩ (.int .i64 (k0+3*(j:Int)))).cell? ⟨g,j*3+1,none⟩=some u:=⟨_,(o1.cellAt (j*3+1) (by omega)).trans (List.getElem?_eq_getElem (by simp;omega))⟩
    have f1:=o1.frozenAt (j*3+1)
    obtain ⟨u2,g2⟩:∃ u,((wr.setCell ⟨g,j*3,none⟩ (.int .i64 (k0+3*(j:Int)))).setCell ⟨g,j*3+1,none⟩ (.int .i64 (k0+3*(j:Int)+1))).cell? ⟨g,j*3+2,none⟩=some u:=⟨_,(o2.cellAt (j*3+2) (by omega)).trans (List.getElem?_eq_getElem (by simp;omega))⟩
    have f2:=o2.frozenAt (j*3+2)
    have hst:=HO.out.stored j (k0+3*(j:Int),k0+3*(j:Int)+1,k0+3*(j:Int)+1+1)
    rw [Dv HL.out hlt] at hst
    have HT:=Lib.hid hst
    clear hst o0 o1 o2 hlen HO
    go_wp2
    go_roundw
    case rel=>exact ⟨j+1,by omega,by go_num,by go_num,HT.out.1,grownBy_trans HG.out HT.out.2⟩
    case measure=>simp [intOf];omega
   ·have HO2:Hid (OwnsS 77 wr base (.slice (some ⟨g,0,none⟩) n c) n (gW k0 n)):=by
     obtain rfl:j=n:=by omega
     have:=HO.out
     rw [List.drop_eq_nil_of_le (by rw [HL.out];exact Nat.le_refl _),List.append_nil] at this
     exact this
    have HJ:Hid (j=n):=by unfold Hid;omega
    go_wp2
    go_ret
    exact ⟨dP (by rw [HJ.out]),HO2.out,HG.out⟩
theorem ae.Dw {w w':World} {b g:Nat} {C:Array Value} {t:TypeId} (h:ae w b C t) (hw:w.grownBy w' (some g)) (hg:b≠g):ae w' b C t :=
 (hw.block b h.lt (fun e=>hg (Option.some.inj e))).trans h
end Go.Proofs.YtnglogkkkpegnaaGreat
