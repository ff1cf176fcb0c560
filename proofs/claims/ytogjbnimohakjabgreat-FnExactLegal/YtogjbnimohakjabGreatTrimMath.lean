/-
  What trimming makes: the program's way to number states anew is the model's. Conditions: none; nothing here speaks of the program.
-/
import Derived.Test.YtogjbnimohakjabGreatReachMath
namespace Go.Proofs.YtogjbnimohakjabGreat
open Go.RowKit

end Go.Proofs.YtogjbnimohakjabGreat
