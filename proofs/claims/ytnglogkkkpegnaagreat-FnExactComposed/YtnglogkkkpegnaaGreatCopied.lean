import Derived.Test.YtnglogkkkpegnaaGreatTrimMath
import Derived.Test.YtnglogkkkpegnaaGreatMarkIa2
import Derived.Test.YtnglogkkkpegnaaGreatRisen
set_option maxHeartbeats 800000
set_option maxRecDepth 20000
namespace Go.Proofs.YtnglogkkkpegnaaGreat
open Go.RowKit
theorem Row.src {w:World} {a:Option Addr} {n c:Nat} {xs:List Int} (h:Row w a n xs) (ha:a=none→c=0):Src w a n c xs:=by
 cases a with
 | none =>
  obtain rfl:=ha rfl
  by_cases hn:0<n
  ·obtain ⟨_,_,e,_⟩:=h.2 hn
   cases e
  ·obtain rfl:n=0:=by omega
   obtain rfl:xs=[]:=List.length_eq_zero_iff.1 h.1
   exact Src.nil w
 | some ad =>
  by_cases hn:0<n
  ·obtain ⟨b,off,e,_,hc⟩:=h.2 hn
   cases e
   exact src_of h.1 hc
  ·obtain rfl:n=0:=by omega
   obtain rfl:xs=[]:=List.length_eq_zero_iff.1 h.1
   exact Src.empty w ad c
theorem wP (a:Option Addr) (n c:Nat) (xs:List Int) (w:World) (h:Row w a n xs) (ha:a=none→c=0) (hn:n≤1048576) :
  Calls Tryz.prog 129 #[.slice a n c] w (bY w w.heap.size xs):=by
 obtain ⟨i0,hi,hz0,hz1,hz2⟩:=info_parts gz
 have S1:=h.src ha
 have hl:=h.1
 have T1:aj w w.heap.size (.slice none 0 0) 0 []:=World.ownsRow_nil _ _ _ _
 clear h ha
 go_enter Tryz.func129,Tryz.ntmps129
 go_wp2_with (at_builtin;refine bV rfl (.const (.slice none 0 0)) (.tmp 3) rfl w.heap.size i0 Tryz.underlying24 hi hz0 hz1 hz2 _ _ _ rfl T1 _ n _ xs rfl S1 (by omega) (Nat.le_refl _) ?_)
 rintro v2 w2 ⟨hown2,hgrow2,_⟩
 have hb2:Below w.heap.size w w2:=T1.grown (Below.refl _ _) hgrow2 (Nat.le_refl _) (Nat.le_refl _)
 have HO:=Lib.hid hown2
 have HL:=Lib.hid hl
 clear T1 S1 hgrow2 hown2 hl
 go_wp2_with fail
 go_ret
 have e:=HL.out
 subst e
 have h2:=HO.out
 simp only [List.nil_append,Nat.zero_add] at h2
 exact ⟨_,rfl,h2,hb2⟩
theorem GL {L:List Int} {x:Int} {k:Nat} (hk:k<L.length) (hn:x∉L.take k) (he:L[k]=x):placeOf L x=(k:Int):=by
 unfold placeOf
 rw [if_pos (by rw [← he];exact List.getElem_mem hk)]
 have:L.idxOf x=k:=by
  have h1:L=L.take k++L[k] :: L.drop (k+1):=by
   rw [← List.drop_eq_getElem_cons hk,List.take_append_drop]
  rw [h1,List.idxOf_append,if_neg hn,he,List.idxOf_cons_self]
  simp
  omega
 rw [this]
theorem KJ (a:Option Addr) (n c:Nat) (x:Int) (xs:List Int) (w:World) (h:Row w a n xs) (hn:n≤1099511627776) :
  Calls Tryz.prog 58 #[.slice a n c,.int .i64 x] w fun e w'=>e=.returned (.int .i64 (placeOf xs x))∧w'=w:=by
 obtain ⟨hl,hc⟩:=h
 have HC:=Lib.hid hc
 have HL:=Lib.hid hl
 clear hc hl
 go_enter Tryz.func58,Tryz.ntmps58
 go_wp2
 go_loop [5] (fun i=>∃ k:Nat,k≤n∧i=.int .i64 k∧Hid (x∉xs.take k)) (fun i=>n - (intOf i).toNat)
 case atStart=>exact ⟨0,Nat.zero_le _,rfl,by simp [Hid]⟩
 case round =>
  obtain ⟨k,hk,rfl,HT⟩:=hrel
  by_cases hlt:k<n
  ·obtain ⟨b,off,rfl,hb,hcell⟩:=HC.out (by omega)
   have hkx:k<xs.length:=by rw [HL.out];exact hlt
   obtain ⟨y,hy⟩:∃ y,y=xs[k]:=⟨_,rfl⟩
   have g1:w.cell? ⟨b,off+k,none⟩=some (.int .i64 y):=by rw [hy,← getD_eq xs k hkx];exact hcell k hlt
   have HY:=Lib.hid hy
   clear hy hcell
   by_cases he:y=x
   ·have he2:(y == x)=true:=by simp [he]
    have HP:Hid (placeOf xs x=(k:Int)):=GL hkx HT.out (by rw [← HY.out];exact he)
    clear he
    go_wp2
    go_ret
    exact ⟨dP HP.out.symm,rfl⟩
   ·have he2:(y == x)=false:=by simp [he]
    have HN:=Lib.hid (Dl hkx HT.out (by rw [← HY.out];exact he))
    clear he
    go_wp2
    go_round
    case rel=>exact ⟨k+1,by omega,by go_num,HN.out⟩
    case measure=>simp [intOf];omega
  ·have HP:Hid (placeOf xs x = -1):=by
    have:=HT.out
    rw [List.take_of_length_le (by rw [HL.out];omega)] at this
    unfold Hid placeOf
    rw [if_neg this]
   go_wp2
   go_ret
   exact ⟨dP HP.out.symm,rfl⟩
end Go.Proofs.YtnglogkkkpegnaaGreat
