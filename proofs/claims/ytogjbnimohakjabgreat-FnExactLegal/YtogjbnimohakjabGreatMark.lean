/-
  Contracts of the laws' markIntS and heldIntS. Conditions: a row of ints of the call's own of at most 2^40 elements; numbers of at most 2^41.
-/
import Derived.Test.YtogjbnimohakjabGreatSpecSets
namespace Go.Proofs.YtogjbnimohakjabGreat
open Go.RowKit

end Go.Proofs.YtogjbnimohakjabGreat
