import Derived.Test.YtnglogkkkpegnaaGreatIaLaw
namespace Go.Proofs.YtnglogkkkpegnaaGreat
open Go.RowKit
def Bj (w w':World) (g2 g3 g4 g5:Nat):Prop:=∀ k,k<w.heap.size→k≠g2→k≠g3→k≠g4→k≠g5→w'.heap[k]?=w.heap[k]?
theorem aj.pJ {w w':World} {base n g2 g3 g4 g5:Nat} {v:Value} {xs:List Int} (h:aj w base v n xs) (hw:Bj w w' g2 g3 g4 g5) (hg:∀ k,v.ownBlock=some k→k≠g2∧k≠g3∧k≠g4∧k≠g5):aj w' base v n xs:=by
 have hlt:=h.lt
 obtain ⟨h1,h2⟩:=h
 refine ⟨h1,?_⟩
 rcases h2 with h2|⟨g,cap,cur,hv,hb,hh,r⟩
 ·exact Or.inl h2
 ·subst hv
  obtain ⟨q2,q3,q4,q5⟩:=hg g rfl
  exact Or.inr ⟨g,cap,cur,rfl,hb,by rw [hw g (hlt g rfl).2 q2 q3 q4 q5];exact hh,r⟩
theorem ae.pJ {w w':World} {b g2 g3 g4 g5:Nat} {C:Array Value} {t:TypeId} (h:ae w b C t) (hw:Bj w w' g2 g3 g4 g5) (q2:b≠g2) (q3:b≠g3) (q4:b≠g4) (q5:b≠g5):ae w' b C t:=(hw b h.lt q2 q3 q4 q5).trans h
theorem ae.grown {w w':World} {b:Nat} {C:Array Value} {t:TypeId} {r:Option Nat} (h:ae w b C t) (hw:w.grownBy w' r) (hr:some b≠r):ae w' b C t:=(hw.block b h.lt hr).trans h
theorem iR.parts {w:World} {base g2 g3 g4 g5:Nat} {st it:Int} {ins outs ah:List Int} {steps:List St} (h:iR w base ⟨st,it,ins,outs,ah,steps⟩ (.agg #[.int .i64 st,.int .i64 it,.slice (some ⟨g2,0,none⟩) ins.length ins.length,.slice (some ⟨g3,0,none⟩) outs.length outs.length,.slice (some ⟨g4,0,none⟩) ah.length ah.length,.slice (some ⟨g5,0,none⟩) steps.length steps.length])) :
  base≤g2∧g2<g3∧g3<g4∧g4<g5∧aj w base (.slice (some ⟨g2,0,none⟩) ins.length ins.length) ins.length ins∧aj w base (.slice (some ⟨g3,0,none⟩) outs.length outs.length) outs.length outs∧aj w base (.slice (some ⟨g4,0,none⟩) ah.length ah.length) ah.length ah ∧
  OwnsS 77 w base (.slice (some ⟨g5,0,none⟩) steps.length steps.length) steps.length steps:=by
 obtain ⟨k2,k3,k4,k5,e,l2,l3,l4,l5,o2,o3,o4,o5⟩:=h
 simp at e
 obtain ⟨rfl,rfl,rfl,rfl⟩:=e
 exact ⟨l2,l3,l4,l5,o2,o3,o4,o5⟩
end Go.Proofs.YtnglogkkkpegnaaGreat
