/-
  A region that draws its order, by its states: what holds in each state, whichever way it was come to. Conditions: as each statement says; nothing here speaks of the program.
-/
import Derived.Test.YtdbgjgeglgipiaaGreatRegion
namespace Go.Proofs.YtdbgjgeglgipiaaGreat
open Go

section
variable {P : Program} {md : Region.Mode} {ops : Array Oper} {Q : Exit → Act → World → Prop} {S : World → Prop}

end

section
variable {P : Program} {md : Region.Mode} {ops : Array Oper} {Q : Exit → Act → World → Prop} {S : World → Prop}

end

end Go.Proofs.YtdbgjgeglgipiaaGreat
