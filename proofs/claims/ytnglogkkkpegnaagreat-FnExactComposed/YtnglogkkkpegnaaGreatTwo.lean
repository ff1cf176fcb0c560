import Derived.Test.YtnglogkkkpegnaaGreatActs
import Derived.Test.YtnglogkkkpegnaaGreatIaRise
import Derived.Test.YtnglogkkkpegnaaGreatRegion
namespace Go.Proofs.YtnglogkkkpegnaaGreat
open Go.RowKit
def Small (a:IaD):Prop:=a.ins.length≤1048576∧a.outs.length≤1048576∧a.ah.length≤1048576∧a.steps.length≤1048576
def iaC (st it:Int) (a2:Option Addr) (n2 c2:Nat) (a3:Option Addr) (n3 c3:Nat) (a4:Option Addr) (n4 c4:Nat) (a5:Option Addr) (n5 c5:Nat):Array Value :=
 #[.int .i64 st,.int .i64 it,.slice a2 n2 c2,.slice a3 n3 c3,.slice a4 n4 c4,.slice a5 n5 c5]
def aI (w W:World) (p q:Nat) (t:TypeId) (A B:Array Value):Prop:=Below w.heap.size w W∧ae W p A t∧ae W q B t
theorem aI.below {w W W':World} {p q:Nat} {t:TypeId} {A B:Array Value} (h:aI w W p q t A B) (hb:Below W.heap.size W W'):aI w W' p q t A B:=⟨h.1.trans (hb.mono h.1.size),h.2.1.below hb,h.2.2.below hb⟩
theorem aI.drew {w W:World} {p q:Nat} {t:TypeId} {A B:Array Value} (h:aI w W p q t A B):aI w W.drew p q t A B:=⟨h.1.drew,h.2.1,h.2.2⟩
theorem aI.alloc {w W:World} {p q:Nat} {t:TypeId} {A B:Array Value} (h:aI w W p q t A B) (o:Obj):aI w (W.alloc o) p q t A B:=⟨h.1.alloc h.1.size _,h.2.1.alloc o,h.2.2.alloc o⟩
theorem aI.start (w:World) (A B:Array Value) (t:TypeId):aI w ((w.alloc (.cells A t)).alloc (.cells B t)) w.heap.size (w.heap.size+1) t A B :=
 ⟨((Below.refl _ _).alloc (Nat.le_refl _) _).alloc (by simp) _,(ae.new w A t rfl).alloc _,ae.new _ B t (by simp)⟩
def je (a b:IaD):Bool:=decide ((aU a.ins b.ins).length=0)&&decide ((aU a.outs b.outs).length=0)&&decide ((aU a.ah (aV b)).length=0)&&decide ((aU b.ah (aV a)).length=0)
def iH (a b:IaD):Bool:=aJ a&&aJ b&&je a b&&decide (a.states*b.states≤40)
def aY (a b:IaD):List Int:=aT (aU a.ins b.outs) (aU a.outs b.ins)
def iU (a b:IaD):List Int:=if iH a b then aY a b else []
theorem rq {x y:Int} (h1:1≤x∧x≤40) (h2:1≤y∧y≤40):1≤x*y∧x*y≤1600:=by
 have a1:1*1≤x*y:=Int.mul_le_mul h1.1 h2.1 (by omega) (by omega)
 have a2:x*y≤40*40:=Int.mul_le_mul h1.2 h2.2 (by omega) (by omega)
 omega
theorem IG (a b:IaD):(aY a b).length≤a.ins.length+a.outs.length:=by
 have h1:=iT (aU a.ins b.outs) (aU a.outs b.ins)
 have h2:=dQ a.ins b.outs
 have h3:=dQ a.outs b.ins
 unfold aY
 omega
end Go.Proofs.YtnglogkkkpegnaaGreat
