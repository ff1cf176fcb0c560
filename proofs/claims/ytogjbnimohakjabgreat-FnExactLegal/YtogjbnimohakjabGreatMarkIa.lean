/-
  Contracts of the laws' markStepS and markIa. Conditions: rows of the call's own of at most 2^38 elements; numbers of at most 2^41.
-/
import Derived.Test.YtogjbnimohakjabGreatToStep
import Derived.Test.YtogjbnimohakjabGreatMark
namespace Go.Proofs.YtogjbnimohakjabGreat
open Go.RowKit

end Go.Proofs.YtogjbnimohakjabGreat
