/-
  Contracts of the laws' markStepS and markIa. Conditions: rows of the call's own of at most 2^38 elements; numbers of at most 2^41.
-/
import Derived.Test.YtdbgjgeglgipiaaGreatToStep
import Derived.Test.YtdbgjgeglgipiaaGreatMark
namespace Go.Proofs.YtdbgjgeglgipiaaGreat
open Go.RowKit

end Go.Proofs.YtdbgjgeglgipiaaGreat
