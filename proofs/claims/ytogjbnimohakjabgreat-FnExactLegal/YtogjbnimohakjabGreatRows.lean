/-
  No cell of these rows narrows 'for every input' (looked for: loops, veiled, ifaces, maps, wideKeys, modest, calm, conditions, laid).
  DERIVED. THE GIVEN ROWS OF THIS SEAT. 8 by the template 'for every input the law returns true; each argument reads behind the call as it read before'; 0 by the template 'total and deterministic' (their statements: YtogjbnimohakjabGreatTotals.lean).
  GIVEN WITH THE SEED: the statements are not yours to turn. If you find one false, say at which input.
  Laid BY PROGRAM, IN A SANDBOX (cutbox-rows.mjs): the forced cells as the released guide's own fill.sh prints them over the translation c82d7fe39cf5464d… (all of the seat's roots in one cut). By AI agents, Wed Nov 11 2026. No macro, syntax, notation, axiom, sorry.
-/
import Derived.Test.YtogjbnimohakjabGreatChecked
import GoSem.Claim
import GoSem.ClaimJoined
import GoSem.ClaimMapViews
import Derived.JoinedTies
import Derived.KernelRfl
namespace Go.Proofs.YtogjbnimohakjabGreat
/- THE CELL 'sum', in the pinned program and in every row, IS THE sha256 OF THE DUMP (.gsa) THAT YtogjbnimohakjabGreatProg.lean LOADS. Nothing in Lean hashes anything: it is a label: what it is worth is what the hold of that sum in a sandbox is worth. -/
noncomputable def Tryz.pinned : Pinned := { name := "ytogjbnimohakjabgreat", sum := "c82d7fe39cf5464ded3bdad592a295368501294bd5c22f6b54a1df5b012a28e9", checked := Tryz.checked }
namespace Rows
def none {H : Type} : Left H := { results := [], args := [] }

/-- 'laws.FnExactComposed': WHATEVER THE INPUT: true; the input reads as it did. -/
def fnExactComposedSpec : ChangeSpec := { name := "fnExactComposed", fn := fun _ => fun
  | [d1, d2] => { results := [.lit (.bool true)], args := [d1, d2] }
  | _ => none }
def fnExactComposedRow : OpenClaim := { program := "ytogjbnimohakjabgreat", sum := "c82d7fe39cf5464ded3bdad592a295368501294bd5c22f6b54a1df5b012a28e9", func := "loop.example/g00645/laws.FnExactComposed", spec := "fnExactComposed", unfollowed := true, recurses := true, plainKeys := false, apart := false }
def FnExactComposedSaid : Prop := fnExactComposedRow.holds Tryz.pinned (OpenSpec.ofChange fnExactComposedSpec)

/-- ITS FALSE NEIGHBOUR: 'it returns false'. Refute it at one input. -/
def fnExactComposedWrong : ChangeSpec := { name := "fnExactComposed", fn := fun _ => fun
  | [d1, d2] => { results := [.lit (.bool false)], args := [d1, d2] }
  | _ => none }
def FnExactComposedWrongFalsely : Prop := fnExactComposedRow.holds Tryz.pinned (OpenSpec.ofChange fnExactComposedWrong)

/-- 'laws.FnPairs': WHATEVER THE INPUT: true; the input reads as it did. -/
def fnPairsSpec : ChangeSpec := { name := "fnPairs", fn := fun _ => fun
  | [d] => { results := [.lit (.bool true)], args := [d] }
  | _ => none }
def fnPairsRow : OpenClaim := { program := "ytogjbnimohakjabgreat", sum := "c82d7fe39cf5464ded3bdad592a295368501294bd5c22f6b54a1df5b012a28e9", func := "loop.example/g00645/laws.FnPairs", spec := "fnPairs", unfollowed := true, recurses := true, plainKeys := false, apart := false }
def FnPairsSaid : Prop := fnPairsRow.holds Tryz.pinned (OpenSpec.ofChange fnPairsSpec)

/-- ITS FALSE NEIGHBOUR: 'it returns false'. Refute it at one input. -/
def fnPairsWrong : ChangeSpec := { name := "fnPairs", fn := fun _ => fun
  | [d] => { results := [.lit (.bool false)], args := [d] }
  | _ => none }
def FnPairsWrongFalsely : Prop := fnPairsRow.holds Tryz.pinned (OpenSpec.ofChange fnPairsWrong)

/-- 'laws.FnComposed': WHATEVER THE INPUT: true; the input reads as it did. -/
def fnComposedSpec : ChangeSpec := { name := "fnComposed", fn := fun _ => fun
  | [d] => { results := [.lit (.bool true)], args := [d] }
  | _ => none }
def fnComposedRow : OpenClaim := { program := "ytogjbnimohakjabgreat", sum := "c82d7fe39cf5464ded3bdad592a295368501294bd5c22f6b54a1df5b012a28e9", func := "loop.example/g00645/laws.FnComposed", spec := "fnComposed", unfollowed := true, recurses := true, plainKeys := false, apart := false }
def FnComposedSaid : Prop := fnComposedRow.holds Tryz.pinned (OpenSpec.ofChange fnComposedSpec)

/-- ITS FALSE NEIGHBOUR: 'it returns false'. Refute it at one input. -/
def fnComposedWrong : ChangeSpec := { name := "fnComposed", fn := fun _ => fun
  | [d] => { results := [.lit (.bool false)], args := [d] }
  | _ => none }
def FnComposedWrongFalsely : Prop := fnComposedRow.holds Tryz.pinned (OpenSpec.ofChange fnComposedWrong)

/-- 'laws.FnExactEnvOf': WHATEVER THE INPUT: true; the input reads as it did. -/
def fnExactEnvOfSpec : ChangeSpec := { name := "fnExactEnvOf", fn := fun _ => fun
  | [d] => { results := [.lit (.bool true)], args := [d] }
  | _ => none }
def fnExactEnvOfRow : OpenClaim := { program := "ytogjbnimohakjabgreat", sum := "c82d7fe39cf5464ded3bdad592a295368501294bd5c22f6b54a1df5b012a28e9", func := "loop.example/g00645/laws.FnExactEnvOf", spec := "fnExactEnvOf", unfollowed := true, recurses := true, plainKeys := false, apart := false }
def FnExactEnvOfSaid : Prop := fnExactEnvOfRow.holds Tryz.pinned (OpenSpec.ofChange fnExactEnvOfSpec)

/-- ITS FALSE NEIGHBOUR: 'it returns false'. Refute it at one input. -/
def fnExactEnvOfWrong : ChangeSpec := { name := "fnExactEnvOf", fn := fun _ => fun
  | [d] => { results := [.lit (.bool false)], args := [d] }
  | _ => none }
def FnExactEnvOfWrongFalsely : Prop := fnExactEnvOfRow.holds Tryz.pinned (OpenSpec.ofChange fnExactEnvOfWrong)

/-- 'laws.FnExactMixes': WHATEVER THE INPUT: true; the input reads as it did. -/
def fnExactMixesSpec : ChangeSpec := { name := "fnExactMixes", fn := fun _ => fun
  | [d] => { results := [.lit (.bool true)], args := [d] }
  | _ => none }
def fnExactMixesRow : OpenClaim := { program := "ytogjbnimohakjabgreat", sum := "c82d7fe39cf5464ded3bdad592a295368501294bd5c22f6b54a1df5b012a28e9", func := "loop.example/g00645/laws.FnExactMixes", spec := "fnExactMixes", unfollowed := true, recurses := true, plainKeys := false, apart := false }
def FnExactMixesSaid : Prop := fnExactMixesRow.holds Tryz.pinned (OpenSpec.ofChange fnExactMixesSpec)

/-- ITS FALSE NEIGHBOUR: 'it returns false'. Refute it at one input. -/
def fnExactMixesWrong : ChangeSpec := { name := "fnExactMixes", fn := fun _ => fun
  | [d] => { results := [.lit (.bool false)], args := [d] }
  | _ => none }
def FnExactMixesWrongFalsely : Prop := fnExactMixesRow.holds Tryz.pinned (OpenSpec.ofChange fnExactMixesWrong)

/-- 'laws.FnExactLegal': WHATEVER THE INPUT: true; the input reads as it did. -/
def fnExactLegalSpec : ChangeSpec := { name := "fnExactLegal", fn := fun _ => fun
  | [d1, d2] => { results := [.lit (.bool true)], args := [d1, d2] }
  | _ => none }
def fnExactLegalRow : OpenClaim := { program := "ytogjbnimohakjabgreat", sum := "c82d7fe39cf5464ded3bdad592a295368501294bd5c22f6b54a1df5b012a28e9", func := "loop.example/g00645/laws.FnExactLegal", spec := "fnExactLegal", unfollowed := true, recurses := true, plainKeys := false, apart := false }
def FnExactLegalSaid : Prop := fnExactLegalRow.holds Tryz.pinned (OpenSpec.ofChange fnExactLegalSpec)

/-- ITS FALSE NEIGHBOUR: 'it returns false'. Refute it at one input. -/
def fnExactLegalWrong : ChangeSpec := { name := "fnExactLegal", fn := fun _ => fun
  | [d1, d2] => { results := [.lit (.bool false)], args := [d1, d2] }
  | _ => none }
def FnExactLegalWrongFalsely : Prop := fnExactLegalRow.holds Tryz.pinned (OpenSpec.ofChange fnExactLegalWrong)

/-- 'laws.FnEnvLegal': WHATEVER THE INPUT: true; the input reads as it did. -/
def fnEnvLegalSpec : ChangeSpec := { name := "fnEnvLegal", fn := fun _ => fun
  | [d] => { results := [.lit (.bool true)], args := [d] }
  | _ => none }
def fnEnvLegalRow : OpenClaim := { program := "ytogjbnimohakjabgreat", sum := "c82d7fe39cf5464ded3bdad592a295368501294bd5c22f6b54a1df5b012a28e9", func := "loop.example/g00645/laws.FnEnvLegal", spec := "fnEnvLegal", unfollowed := true, recurses := true, plainKeys := false, apart := false }
def FnEnvLegalSaid : Prop := fnEnvLegalRow.holds Tryz.pinned (OpenSpec.ofChange fnEnvLegalSpec)

/-- ITS FALSE NEIGHBOUR: 'it returns false'. Refute it at one input. -/
def fnEnvLegalWrong : ChangeSpec := { name := "fnEnvLegal", fn := fun _ => fun
  | [d] => { results := [.lit (.bool false)], args := [d] }
  | _ => none }
def FnEnvLegalWrongFalsely : Prop := fnEnvLegalRow.holds Tryz.pinned (OpenSpec.ofChange fnEnvLegalWrong)

/-- 'laws.FnMixes': WHATEVER THE INPUT: true; the input reads as it did. -/
def fnMixesSpec : ChangeSpec := { name := "fnMixes", fn := fun _ => fun
  | [d] => { results := [.lit (.bool true)], args := [d] }
  | _ => none }
def fnMixesRow : OpenClaim := { program := "ytogjbnimohakjabgreat", sum := "c82d7fe39cf5464ded3bdad592a295368501294bd5c22f6b54a1df5b012a28e9", func := "loop.example/g00645/laws.FnMixes", spec := "fnMixes", unfollowed := true, recurses := true, plainKeys := false, apart := false }
def FnMixesSaid : Prop := fnMixesRow.holds Tryz.pinned (OpenSpec.ofChange fnMixesSpec)

/-- ITS FALSE NEIGHBOUR: 'it returns false'. Refute it at one input. -/
def fnMixesWrong : ChangeSpec := { name := "fnMixes", fn := fun _ => fun
  | [d] => { results := [.lit (.bool false)], args := [d] }
  | _ => none }
def FnMixesWrongFalsely : Prop := fnMixesRow.holds Tryz.pinned (OpenSpec.ofChange fnMixesWrong)

/- THE SECOND FORM. 'bulk': how many values and letters a reading holds, each counted each time it is reached (what is shared counts as often as it is met; a slice's spare places count too). A statement '..UptoSaid' is the law's where the arguments, and the package variables that the reading takes, are together of bulk at most 1048576: NARROWER than '..Said'. Prove '..Said' where nothing that the law and all that it calls make is longer than what came in: it says more and counts as full. Else prove '..UptoSaid'. A law counts once. -/
mutual
def uptoBulk {H : Type} : DataW H → Nat
  | .lit (.string bytes) => bytes.length + 1
  | .lit _ => 1
  | .nil => 1
  | .ptr d => uptoBulk d + 1
  | .slice elems spare => uptoBulkAll elems + uptoBulkAll spare + 1
  | .agg parts => uptoBulkAll parts + 1
  | .iface _ d => uptoBulk d + 1
  | .map entries => uptoBulkEntries entries + 1
  | .held _ => 1
def uptoBulkAll {H : Type} : List (DataW H) → Nat
  | [] => 0
  | d :: r => uptoBulk d + uptoBulkAll r
def uptoBulkEntries {H : Type} : List (Lit × DataW H) → Nat
  | [] => 0
  | x :: r => uptoBulkEntry x + uptoBulkEntries r
def uptoBulkEntry {H : Type} : Lit × DataW H → Nat
  | (.string bytes, d) => bytes.length + uptoBulk d + 1
  | (_, d) => uptoBulk d + 1
 end
def uptoSmall : (H : Type) → List (DataW H) → Bool := fun _ ds => decide (uptoBulkAll ds ≤ 1048576)
def OpenSpec.upto (s : _root_.Go.ChangeSpec) : _root_.Go.OpenSpec := { _root_.Go.OpenSpec.ofChange s with cond := some uptoSmall }

/-- 'laws.FnExactComposed', WHERE WHAT IT READS IS OF BULK AT MOST 1048576: true; the input reads as it did. -/
def fnExactComposedUptoRow : OpenClaim := { program := "ytogjbnimohakjabgreat", sum := "c82d7fe39cf5464ded3bdad592a295368501294bd5c22f6b54a1df5b012a28e9", func := "loop.example/g00645/laws.FnExactComposed", spec := "fnExactComposed", unfollowed := true, recurses := true, plainKeys := false, apart := false, narrowed := true }
def FnExactComposedUptoSaid : Prop := fnExactComposedUptoRow.holds Tryz.pinned (OpenSpec.upto fnExactComposedSpec)

/-- 'laws.FnPairs', WHERE WHAT IT READS IS OF BULK AT MOST 1048576: true; the input reads as it did. -/
def fnPairsUptoRow : OpenClaim := { program := "ytogjbnimohakjabgreat", sum := "c82d7fe39cf5464ded3bdad592a295368501294bd5c22f6b54a1df5b012a28e9", func := "loop.example/g00645/laws.FnPairs", spec := "fnPairs", unfollowed := true, recurses := true, plainKeys := false, apart := false, narrowed := true }
def FnPairsUptoSaid : Prop := fnPairsUptoRow.holds Tryz.pinned (OpenSpec.upto fnPairsSpec)

/-- 'laws.FnComposed', WHERE WHAT IT READS IS OF BULK AT MOST 1048576: true; the input reads as it did. -/
def fnComposedUptoRow : OpenClaim := { program := "ytogjbnimohakjabgreat", sum := "c82d7fe39cf5464ded3bdad592a295368501294bd5c22f6b54a1df5b012a28e9", func := "loop.example/g00645/laws.FnComposed", spec := "fnComposed", unfollowed := true, recurses := true, plainKeys := false, apart := false, narrowed := true }
def FnComposedUptoSaid : Prop := fnComposedUptoRow.holds Tryz.pinned (OpenSpec.upto fnComposedSpec)

/-- 'laws.FnExactEnvOf', WHERE WHAT IT READS IS OF BULK AT MOST 1048576: true; the input reads as it did. -/
def fnExactEnvOfUptoRow : OpenClaim := { program := "ytogjbnimohakjabgreat", sum := "c82d7fe39cf5464ded3bdad592a295368501294bd5c22f6b54a1df5b012a28e9", func := "loop.example/g00645/laws.FnExactEnvOf", spec := "fnExactEnvOf", unfollowed := true, recurses := true, plainKeys := false, apart := false, narrowed := true }
def FnExactEnvOfUptoSaid : Prop := fnExactEnvOfUptoRow.holds Tryz.pinned (OpenSpec.upto fnExactEnvOfSpec)

/-- 'laws.FnExactMixes', WHERE WHAT IT READS IS OF BULK AT MOST 1048576: true; the input reads as it did. -/
def fnExactMixesUptoRow : OpenClaim := { program := "ytogjbnimohakjabgreat", sum := "c82d7fe39cf5464ded3bdad592a295368501294bd5c22f6b54a1df5b012a28e9", func := "loop.example/g00645/laws.FnExactMixes", spec := "fnExactMixes", unfollowed := true, recurses := true, plainKeys := false, apart := false, narrowed := true }
def FnExactMixesUptoSaid : Prop := fnExactMixesUptoRow.holds Tryz.pinned (OpenSpec.upto fnExactMixesSpec)

/-- 'laws.FnExactLegal', WHERE WHAT IT READS IS OF BULK AT MOST 1048576: true; the input reads as it did. -/
def fnExactLegalUptoRow : OpenClaim := { program := "ytogjbnimohakjabgreat", sum := "c82d7fe39cf5464ded3bdad592a295368501294bd5c22f6b54a1df5b012a28e9", func := "loop.example/g00645/laws.FnExactLegal", spec := "fnExactLegal", unfollowed := true, recurses := true, plainKeys := false, apart := false, narrowed := true }
def FnExactLegalUptoSaid : Prop := fnExactLegalUptoRow.holds Tryz.pinned (OpenSpec.upto fnExactLegalSpec)

/-- 'laws.FnEnvLegal', WHERE WHAT IT READS IS OF BULK AT MOST 1048576: true; the input reads as it did. -/
def fnEnvLegalUptoRow : OpenClaim := { program := "ytogjbnimohakjabgreat", sum := "c82d7fe39cf5464ded3bdad592a295368501294bd5c22f6b54a1df5b012a28e9", func := "loop.example/g00645/laws.FnEnvLegal", spec := "fnEnvLegal", unfollowed := true, recurses := true, plainKeys := false, apart := false, narrowed := true }
def FnEnvLegalUptoSaid : Prop := fnEnvLegalUptoRow.holds Tryz.pinned (OpenSpec.upto fnEnvLegalSpec)

/-- 'laws.FnMixes', WHERE WHAT IT READS IS OF BULK AT MOST 1048576: true; the input reads as it did. -/
def fnMixesUptoRow : OpenClaim := { program := "ytogjbnimohakjabgreat", sum := "c82d7fe39cf5464ded3bdad592a295368501294bd5c22f6b54a1df5b012a28e9", func := "loop.example/g00645/laws.FnMixes", spec := "fnMixes", unfollowed := true, recurses := true, plainKeys := false, apart := false, narrowed := true }
def FnMixesUptoSaid : Prop := fnMixesUptoRow.holds Tryz.pinned (OpenSpec.upto fnMixesSpec)

end Rows
end Go.Proofs.YtogjbnimohakjabGreat
