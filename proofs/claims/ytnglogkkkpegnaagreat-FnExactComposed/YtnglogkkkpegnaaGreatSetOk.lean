import Derived.Test.YtnglogkkkpegnaaGreatBtw
set_option maxHeartbeats 800000
set_option maxRecDepth 20000
namespace Go.Proofs.YtnglogkkkpegnaaGreat
open Go.RowKit
theorem jG (n:Int) (w:World):Calls Tryz.prog 178 #[.int .i64 n] w fun e w'=>e=.returned (.bool (btw n 0 11))∧w'=w:=by
 by_cases h1:0≤n
 ·by_cases h2:n<12
  ·have e:btw n 0 11=true:=by simp [btw];omega
   have HE:=Lib.hid e;clear e
   go_enter Tryz.func178,Tryz.ntmps178
   go_wp2
   go_ret
   exact ⟨aH HE.out.symm,rfl⟩
  ·have e:btw n 0 11=false:=by simp [btw];omega
   have HE:=Lib.hid e;clear e
   go_enter Tryz.func178,Tryz.ntmps178
   go_wp2
   go_ret
   exact ⟨aH HE.out.symm,rfl⟩
 ·have e:btw n 0 11=false:=by simp [btw];omega
  have HE:=Lib.hid e;clear e
  go_enter Tryz.func178,Tryz.ntmps178
  go_wp2
  go_ret
  exact ⟨aH HE.out.symm,rfl⟩
def jf (xs:List Int) (j:Nat):Bool:=btw (xs.getD j 0) 0 11&&(decide (j=0) || decide (xs.getD (j - 1) 0<xs.getD j 0))
def dm (xs:List Int):Bool:=(List.range xs.length).all (jf xs)
theorem xG {xs:List Int} {n k:Nat} (hl:xs.length=n) (hk:¬ k<n) (h:∀ j,j<k→jf xs j=true):dm xs=true:=by
 simp only [dm,List.all_eq_true,List.mem_range]
 intro j hj;exact h j (by omega)
theorem uJ {xs:List Int} {k:Nat} (hk:k<xs.length) (h:jf xs k=false):dm xs=false:=by
 apply Bool.eq_false_iff.2
 intro e
 simp only [dm,List.all_eq_true,List.mem_range] at e
 rw [e k hk] at h;cases h
theorem good_step {xs:List Int} {k:Nat} (h:∀ j,j<k→jf xs j=true) (hg:jf xs k=true):∀ j,j<k+1→jf xs j=true:=by
 intro j hj
 by_cases e:j=k
 ·subst e;exact hg
 ·exact h j (by omega)
theorem Dj {xs:List Int} {k:Nat} {x:Int} (hx:x=xs.getD k 0) (h:btw x 0 11=false):jf xs k=false:=by
 subst hx;simp only [jf,h,Bool.false_and]
theorem xH {xs:List Int} {k:Nat} {x:Int} (hx:x=xs.getD k 0) (h:btw x 0 11=true) (h0:¬ 0<k):jf xs k=true:=by
 subst hx
 have:decide (k=0)=true:=by simp;omega
 simp only [jf,h,this,Bool.true_or,Bool.and_self]
theorem zq {xs:List Int} {k:Nat} {x y:Int} (hx:x=xs.getD k 0) (hy:y=xs.getD (k - 1) 0) (h:btw x 0 11=true) (hl:y<x):jf xs k=true:=by
 subst hx;subst hy;simp only [jf,h,hl,decide_true,Bool.or_true,Bool.and_true]
theorem Dk {xs:List Int} {k:Nat} {x y:Int} (hx:x=xs.getD k 0) (hy:y=xs.getD (k - 1) 0) (h0:0<k) (hl:¬ y<x):jf xs k=false:=by
 subst hx;subst hy
 have:decide (k=0)=false:=by simp;omega
 simp only [jf,this,decide_eq_false hl,Bool.or_self,Bool.and_false]
theorem sH (a:Option Addr) (n c:Nat) (xs:List Int) (w:World) (h:Row w a n xs) (hn:n≤1099511627776) :
  Calls Tryz.prog 171 #[.slice a n c] w fun e w'=>e=.returned (.bool (dm xs))∧Below w.heap.size w w':=by
 obtain ⟨hl,hc⟩:=h
 go_enter Tryz.func171,Tryz.ntmps171
 go_wp2
 go_loopw [3] (fun i wr=>∃ k:Nat,k≤n∧i=.int .i64 k∧Hid (∀ j,j<k→jf xs j=true)∧Below w.heap.size w wr) (fun i _=>n - (intOf i).toNat)
 case atStart=>exact ⟨0,Nat.zero_le _,rfl,fun j hj=>absurd hj (by omega),Below.refl _ _⟩
 case round =>
  obtain ⟨k,hk,rfl,HT,hnx⟩:=hrel
  by_cases hlt:k<n
  ·obtain ⟨b,off,rfl,hb,hcell⟩:=hc (by omega)
   obtain ⟨x,hx⟩:∃ x,x=xs.getD k 0:=⟨_,rfl⟩
   have g1:wr.cell? ⟨b,off+k,none⟩=some (.int .i64 x):=by rw [hx];exact (hnx.cell (p:=⟨b,off+k,none⟩) hb).trans (hcell k hlt)
   have HX:=Lib.hid hx
   clear hx
   by_cases hbt:btw x 0 11=true
   ·by_cases h0:0<k
    ·obtain ⟨y,hy⟩:∃ y,y=xs.getD (k - 1) 0:=⟨_,rfl⟩
     have g2:wr.cell? ⟨b,off+(k - 1),none⟩=some (.int .i64 y):=by rw [hy];exact (hnx.cell (p:=⟨b,off+(k - 1),none⟩) hb).trans (hcell (k - 1) (by omega))
     have HY:=Lib.hid hy
     clear hy hc hcell
     by_cases hge:y<x
     ·go_wp2
      go_quiet ((go_at_call 131;exact Calls.quiet_of_same (kJ _ _ _ _)))
      go_wp2
      go_roundw
      case rel=>exact ⟨k+1,by omega,by go_num,good_step HT.out (zq HX.out HY.out hbt hge),below_drewN hnx _⟩
      case measure=>simp [intOf];omega
     ·go_wp2
      go_quiet ((go_at_call 131;exact Calls.quiet_of_same (kJ _ _ _ _)))
      go_wp2
      go_ret
      exact ⟨aH (uJ (by omega) (Dk HX.out HY.out h0 (by omega))).symm,below_drewN hnx _⟩
    ·have hd:decide ((0:Int)<(k:Int))=false:=by simp;omega
     have hd2:decide (0<k)=false:=by simp;omega
     have H0:=Lib.hid h0
     clear hc hcell h0
     go_wp2
     go_quiet ((go_at_call 131;exact Calls.quiet_of_same (kJ _ _ _ _)))
     go_wp2
     go_roundw
     case rel=>exact ⟨k+1,by omega,by go_num,good_step HT.out (xH HX.out hbt H0.out),below_drewN hnx _⟩
     case measure=>simp [intOf];omega
   ·have hbf:btw x 0 11=false:=by simpa using hbt
    clear hbt hc hcell
    go_wp2
    go_quiet ((go_at_call 131;exact Calls.quiet_of_same (kJ _ _ _ _)))
    go_wp2
    go_ret
    exact ⟨aH (uJ (by omega) (Dj HX.out hbf)).symm,below_drewN hnx _⟩
  ·go_wp2
   go_ret
   exact ⟨aH (xG hl hlt HT.out).symm,hnx⟩
theorem sJ (a:Option Addr) (n c:Nat) (xs:List Int) (w:World) (h:Row w a n xs) (hn:n≤1099511627776) :
  Calls Tryz.prog 183 #[.slice a n c] w fun e w'=>e=.returned (.bool (dm xs))∧Below w.heap.size w w':=by
 obtain ⟨hl,hc⟩:=h
 go_enter Tryz.func183,Tryz.ntmps183
 go_wp2
 go_loopw [7] (fun i wr=>∃ k:Nat,k≤n∧i=.int .i64 k∧Hid (∀ j,j<k→jf xs j=true)∧Below w.heap.size w wr) (fun i _=>n - (intOf i).toNat)
 case atStart=>exact ⟨0,Nat.zero_le _,rfl,fun j hj=>absurd hj (by omega),Below.refl _ _⟩
 case round =>
  obtain ⟨k,hk,rfl,HT,hnx⟩:=hrel
  by_cases hlt:k<n
  ·obtain ⟨b,off,rfl,hb,hcell⟩:=hc (by omega)
   obtain ⟨x,hx⟩:∃ x,x=xs.getD k 0:=⟨_,rfl⟩
   have g1:wr.cell? ⟨b,off+k,none⟩=some (.int .i64 x):=by rw [hx];exact (hnx.cell (p:=⟨b,off+k,none⟩) hb).trans (hcell k hlt)
   have HX:=Lib.hid hx
   clear hx
   by_cases hbt:btw x 0 11=true
   ·by_cases h0:0<k
    ·obtain ⟨y,hy⟩:∃ y,y=xs.getD (k - 1) 0:=⟨_,rfl⟩
     have g2:wr.cell? ⟨b,off+(k - 1),none⟩=some (.int .i64 y):=by rw [hy];exact (hnx.cell (p:=⟨b,off+(k - 1),none⟩) hb).trans (hcell (k - 1) (by omega))
     have HY:=Lib.hid hy
     clear hy hc hcell
     by_cases hge:y<x
     ·go_wp2_with (go_at_call 178;refine (jG _ _).mono ?_;rintro e w' ⟨rfl,rfl⟩)
      go_roundw
      case rel=>exact ⟨k+1,by omega,by go_num,good_step HT.out (zq HX.out HY.out hbt hge),hnx⟩
      case measure=>simp [intOf];omega
     ·go_wp2_with (go_at_call 178;refine (jG _ _).mono ?_;rintro e w' ⟨rfl,rfl⟩)
      go_ret
      exact ⟨aH (uJ (by omega) (Dk HX.out HY.out h0 (by omega))).symm,hnx⟩
    ·have hd:decide ((0:Int)<(k:Int))=false:=by simp;omega
     have hd2:decide (0<k)=false:=by simp;omega
     have H0:=Lib.hid h0
     clear hc hcell h0
     go_wp2_with (go_at_call 178;refine (jG _ _).mono ?_;rintro e w' ⟨rfl,rfl⟩)
     go_roundw
     case rel=>exact ⟨k+1,by omega,by go_num,good_step HT.out (xH HX.out hbt H0.out),hnx⟩
     case measure=>simp [intOf];omega
   ·have hbf:btw x 0 11=false:=by simpa using hbt
    clear hbt hc hcell
    go_wp2_with (go_at_call 178;refine (jG _ _).mono ?_;rintro e w' ⟨rfl,rfl⟩)
    go_ret
    exact ⟨aH (uJ (by omega) (Dj HX.out hbf)).symm,hnx⟩
  ·go_wp2
   go_ret
   exact ⟨aH (xG hl hlt HT.out).symm,hnx⟩
end Go.Proofs.YtnglogkkkpegnaaGreat
