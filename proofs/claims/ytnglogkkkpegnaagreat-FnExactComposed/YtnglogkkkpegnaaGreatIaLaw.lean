import Derived.Test.YtnglogkkkpegnaaGreatMarkIa
import Derived.Deep.RegionHeld3
namespace Go.Proofs.YtnglogkkkpegnaaGreat
open Go.RowKit
theorem kT.len1 {w:World} {a:Option Addr} {len cap:Nat} {zs:List Int} (h:kT .i64 w a len cap zs):len≤maxLen:=by
 rcases h with ⟨_,rfl,_⟩|⟨_,_,h1,h2,_⟩ <;> omega
theorem rW.len1 {w:World} {a:Option Addr} {len cap:Nat} {zs:List St} (h:rW w a len cap zs):len≤maxLen:=by
 rcases h with ⟨_,rfl,_⟩|⟨_,_,h1,h2,_⟩ <;> omega
theorem jI.small {a:IaD} (h2:a.ins.length≤1048576) (h3:a.outs.length≤1048576) (h4:a.ah.length≤1048576) (h5:a.steps.length≤1048576):jI a:=⟨by omega,by omega,by omega,by omega⟩
theorem iR.below {w w':World} {base:Nat} {a:IaD} {v:Value} (h:iR w base a v) (hb:Below w.heap.size w w'):iR w' base a v:=by
 obtain ⟨g2,g3,g4,g5,e,l2,l3,l4,l5,o2,o3,o4,o5⟩:=h
 exact ⟨g2,g3,g4,g5,e,l2,l3,l4,l5,o2.below hb,o3.below hb,o4.below hb,o5.below hb⟩
theorem iR.drew {w:World} {base:Nat} {a:IaD} {v:Value} (h:iR w base a v):iR w.drew base a v:=h
theorem ae.drew {w:World} {b:Nat} {C:Array Value} {t:TypeId} (h:ae w b C t):ae w.drew b C t:=h
end Go.Proofs.YtnglogkkkpegnaaGreat
