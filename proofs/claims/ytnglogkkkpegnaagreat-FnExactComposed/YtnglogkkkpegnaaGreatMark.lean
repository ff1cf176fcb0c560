import Derived.Test.YtnglogkkkpegnaaGreatSpecSets
set_option maxHeartbeats 800000
set_option maxRecDepth 20000
namespace Go.Proofs.YtnglogkkkpegnaaGreat
open Go.RowKit
def marks (k:Int) (n:Nat):List Int:=(List.range n).map (fun i:Nat=>k+(i:Int))
theorem jU (k:Int) (n:Nat):(marks k n).length=n:=by simp [marks]
theorem Gq (k:Int) (n:Nat):marks k (n+1)=marks k n++[k+(n:Int)]:=by simp [marks,List.range_succ]
theorem J3 (k:Int) (n j:Nat) (h:j<n):(marks k n).getD j 0=k+(j:Int):=by simp [marks,h]
theorem Fb {k0:Int} {xs:List Int} {j n:Nat} (hl:xs.length=n) (hj:j<n) :
  ((marks k0 j++xs.drop j).map (Value.int .i64)).set j (.int .i64 (k0+(j:Int)))=(marks k0 (j+1)++xs.drop (j+1)).map (Value.int .i64):=by
 rw [List.drop_eq_getElem_cons (by omega:j<xs.length),List.map_append,List.set_append,if_neg (by simp [jU])]
 have e:j - ((marks k0 j).map (Value.int .i64)).length=0:=by simp [jU]
 rw [e,Gq]
 simp only [List.map_append,List.map_cons,sI1,List.append_assoc,List.cons_append,List.nil_append]
def JZ (w:World) (base:Nat) (v:Value) (k0:Int) (n:Nat) (e:Ending) (w':World):Prop :=
 e=.returned (.int .i64 (k0+(n:Int)))∧aj w' base v n (marks k0 n)∧w.grownBy w' v.ownBlock
theorem qY (v:Value) (n base:Nat) (k0:Int) (xs:List Int) (w:World) (h:aj w base v n xs) (hn:n≤1099511627776) (hk0:0≤k0) (hk1:k0≤1099511627776) :
  Calls Tryz.prog 28 #[v,.int .i64 k0] w (JZ w base v k0 n):=by
 have hl:=h.length
 by_cases hv:v=.slice none 0 0
 ·subst hv
  obtain rfl:n=0:=h.row.1.symm
  have H:=Lib.hid h
  have HL:=Lib.hid hl
  clear h hl
  go_enter Tryz.func28,Tryz.ntmps28
  go_wp2
  go_loop [1,5] (fun k i=>k=.int .i64 k0∧i=.int .i64 0) (fun _ _=>0)
  case atStart=>exact ⟨rfl,rfl⟩
  case round =>
   obtain ⟨rfl,rfl⟩:=hrel
   go_wp2
   go_ret
   have e:=H.out
   obtain rfl:xs=[]:=List.length_eq_zero_iff.1 HL.out
   exact ⟨dP (by simp),e,⟨rfl,rfl,rfl,Nat.le_refl _,fun _ _ _=>rfl⟩⟩
 ·obtain ⟨g,c,rfl⟩:=h.head hv
  have hnc:=h.row.2.1
  have hcm:=h.row.2.2.1
  unfold maxLen at hcm
  have H:=Lib.hid h
  have HL:=Lib.hid hl
  clear h hl hv
  go_enter Tryz.func28,Tryz.ntmps28
  go_wp2
  go_loopw [1,5] (fun k i wr=>∃ j:Nat,j≤n∧i=.int .i64 j∧k=.int .i64 (k0+(j:Int))∧aj wr base (.slice (some ⟨g,0,none⟩) n c) n (marks k0 j++xs.drop j)∧w.grownBy wr (some g)) (fun _ i _=>n - (intOf i).toNat)
  case atStart=>exact ⟨0,Nat.zero_le _,rfl,by simp,by simpa [marks] using H.out,⟨rfl,rfl,rfl,Nat.le_refl _,fun _ _ _=>rfl⟩⟩
  case round =>
   obtain ⟨j,hj,rfl,rfl,hown,hg⟩:=hrel
   by_cases hlt:j<n
   ·have g2:wr.frozen? ⟨g,j,none⟩=false:=World.ownsRow.frozenAt hown j
    obtain ⟨u0,g3⟩:∃ u,wr.cell? ⟨g,j,none⟩=some u:=⟨_,hown.cells.2 j hlt⟩
    have hst:=World.ownsRow.stored hown j (.int .i64 (k0+(j:Int)))
    rw [Fb HL.out hlt] at hst
    have HT:=Lib.hid hst
    clear hst
    go_wp2
    go_roundw
    case rel=>exact ⟨j+1,by omega,by go_num,by go_num,HT.out.1,grownBy_trans hg HT.out.2⟩
    case measure=>simp [intOf];omega
   ·have HO:Hid (aj wr base (.slice (some ⟨g,0,none⟩) n c) n (marks k0 n)):=by
     obtain rfl:j=n:=by omega
     have:=hown
     rw [List.drop_eq_nil_of_le (by rw [HL.out];exact Nat.le_refl _),List.append_nil] at this
     exact this
    have HJ:Hid (j=n):=by unfold Hid;omega
    go_wp2
    go_ret
    exact ⟨dP (by rw [HJ.out]),HO.out,hg⟩
theorem zu (a:Option Addr) (n c:Nat) (k0:Int) (w:World) (h:Row w a n (marks k0 n)) (hn:n≤1099511627776) (hk0:0≤k0) (hk1:k0≤1099511627776) :
  Calls Tryz.prog 29 #[.slice a n c,.int .i64 k0] w fun e w'=>e=.returned (.int .i64 (k0+(n:Int)))∧w'=w:=by
 obtain ⟨hl,hc⟩:=h
 have HC:=Lib.hid hc
 clear hl hc
 go_enter Tryz.func29,Tryz.ntmps29
 go_wp2
 go_loop [1,5] (fun k i=>∃ j:Nat,j≤n∧i=.int .i64 j∧k=.int .i64 (k0+(j:Int))) (fun _ i=>n - (intOf i).toNat)
 case atStart=>exact ⟨0,Nat.zero_le _,rfl,by simp⟩
 case round =>
  obtain ⟨j,hj,rfl,rfl⟩:=hrel
  by_cases hlt:j<n
  ·obtain ⟨b,off,rfl,hb,hcell⟩:=HC.out (by omega)
   have g1:w.cell? ⟨b,off+j,none⟩=some (.int .i64 (k0+(j:Int))):=by rw [hcell j hlt,J3 _ _ _ hlt]
   clear hcell
   go_wp2
   go_round
   case rel=>exact ⟨j+1,by omega,by go_num,by go_num⟩
   case measure=>simp [intOf];omega
  ·have HJ:Hid (j=n):=by unfold Hid;omega
   go_wp2
   go_ret
   exact ⟨dP (by rw [HJ.out]),rfl⟩
end Go.Proofs.YtnglogkkkpegnaaGreat
