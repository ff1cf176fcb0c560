/-
  No cell of these rows narrows 'for every input' (looked for: loops, veiled, ifaces, maps, wideKeys, modest, calm, conditions, laid).
  DERIVED. THE GIVEN ROWS OF THIS SEAT. 8 by the template 'for every input the law returns true; each argument reads behind the call as it read before'; 0 by the template 'total and deterministic' (their statements: YtnglogkkkpegnaaGreatTotals.lean).
  GIVEN WITH THE SEED: the statements are not yours to turn. If you find one false, say at which input.
  Laid BY PROGRAM, IN A SANDBOX (cutbox-rows.mjs): the forced cells as the released guide's own fill.sh prints them over the translation db9435f0470214d4… (all of the seat's roots in one cut). By AI agents, Wed Nov 11 2026. No macro, syntax, notation, axiom, sorry.
-/
import Derived.Test.YtnglogkkkpegnaaGreatChecked
import GoSem.Claim
import GoSem.ClaimJoined
import GoSem.ClaimMapViews
import Derived.JoinedTies
import Derived.KernelRfl
namespace Go.Proofs.YtnglogkkkpegnaaGreat
/- THE CELL 'sum', in the pinned program and in every row, IS THE sha256 OF THE DUMP (.gsa) THAT YtnglogkkkpegnaaGreatProg.lean LOADS. Nothing in Lean hashes anything: it is a label: what it is worth is what the hold of that sum in a sandbox is worth. -/
noncomputable def Tryz.pinned : Pinned := { name := "ytnglogkkkpegnaagreat", sum := "db9435f0470214d4d08ff151f961c46d8af7e1d25dffd79f08b91cc297292ae6", checked := Tryz.checked }
namespace Rows
def none {H : Type} : Left H := { results := [], args := [] }

/-- 'laws.FnWitnessed': WHATEVER THE INPUT: true; the input reads as it did. -/
def fnWitnessedSpec : ChangeSpec := { name := "fnWitnessed", fn := fun _ => fun
  | [d] => { results := [.lit (.bool true)], args := [d] }
  | _ => none }
def fnWitnessedRow : OpenClaim := { program := "ytnglogkkkpegnaagreat", sum := "db9435f0470214d4d08ff151f961c46d8af7e1d25dffd79f08b91cc297292ae6", func := "loop.example/g00645/laws.FnWitnessed", spec := "fnWitnessed", unfollowed := true, recurses := true, plainKeys := false, leaving := true, apart := false }
def FnWitnessedSaid : Prop := fnWitnessedRow.holds Tryz.pinned (OpenSpec.ofChange fnWitnessedSpec)

/-- ITS FALSE NEIGHBOUR: 'it returns false'. Refute it at one input. -/
def fnWitnessedWrong : ChangeSpec := { name := "fnWitnessed", fn := fun _ => fun
  | [d] => { results := [.lit (.bool false)], args := [d] }
  | _ => none }
def FnWitnessedWrongFalsely : Prop := fnWitnessedRow.holds Tryz.pinned (OpenSpec.ofChange fnWitnessedWrong)

/-- 'laws.FnExactBad': WHATEVER THE INPUT: true; the input reads as it did. -/
def fnExactBadSpec : ChangeSpec := { name := "fnExactBad", fn := fun _ => fun
  | [d1, d2] => { results := [.lit (.bool true)], args := [d1, d2] }
  | _ => none }
def fnExactBadRow : OpenClaim := { program := "ytnglogkkkpegnaagreat", sum := "db9435f0470214d4d08ff151f961c46d8af7e1d25dffd79f08b91cc297292ae6", func := "loop.example/g00645/laws.FnExactBad", spec := "fnExactBad", unfollowed := true, recurses := true, plainKeys := false, leaving := true, apart := false }
def FnExactBadSaid : Prop := fnExactBadRow.holds Tryz.pinned (OpenSpec.ofChange fnExactBadSpec)

/-- ITS FALSE NEIGHBOUR: 'it returns false'. Refute it at one input. -/
def fnExactBadWrong : ChangeSpec := { name := "fnExactBad", fn := fun _ => fun
  | [d1, d2] => { results := [.lit (.bool false)], args := [d1, d2] }
  | _ => none }
def FnExactBadWrongFalsely : Prop := fnExactBadRow.holds Tryz.pinned (OpenSpec.ofChange fnExactBadWrong)

/-- 'laws.FnExactCompatible': WHATEVER THE INPUT: true; the input reads as it did. -/
def fnExactCompatibleSpec : ChangeSpec := { name := "fnExactCompatible", fn := fun _ => fun
  | [d1, d2] => { results := [.lit (.bool true)], args := [d1, d2] }
  | _ => none }
def fnExactCompatibleRow : OpenClaim := { program := "ytnglogkkkpegnaagreat", sum := "db9435f0470214d4d08ff151f961c46d8af7e1d25dffd79f08b91cc297292ae6", func := "loop.example/g00645/laws.FnExactCompatible", spec := "fnExactCompatible", unfollowed := true, recurses := true, plainKeys := false, leaving := true, apart := false }
def FnExactCompatibleSaid : Prop := fnExactCompatibleRow.holds Tryz.pinned (OpenSpec.ofChange fnExactCompatibleSpec)

/-- ITS FALSE NEIGHBOUR: 'it returns false'. Refute it at one input. -/
def fnExactCompatibleWrong : ChangeSpec := { name := "fnExactCompatible", fn := fun _ => fun
  | [d1, d2] => { results := [.lit (.bool false)], args := [d1, d2] }
  | _ => none }
def FnExactCompatibleWrongFalsely : Prop := fnExactCompatibleRow.holds Tryz.pinned (OpenSpec.ofChange fnExactCompatibleWrong)

/-- 'laws.FnExactComposed': WHATEVER THE INPUT: true; the input reads as it did. -/
def fnExactComposedSpec : ChangeSpec := { name := "fnExactComposed", fn := fun _ => fun
  | [d1, d2] => { results := [.lit (.bool true)], args := [d1, d2] }
  | _ => none }
def fnExactComposedRow : OpenClaim := { program := "ytnglogkkkpegnaagreat", sum := "db9435f0470214d4d08ff151f961c46d8af7e1d25dffd79f08b91cc297292ae6", func := "loop.example/g00645/laws.FnExactComposed", spec := "fnExactComposed", unfollowed := true, recurses := true, plainKeys := false, leaving := true, apart := false }
def FnExactComposedSaid : Prop := fnExactComposedRow.holds Tryz.pinned (OpenSpec.ofChange fnExactComposedSpec)

/-- ITS FALSE NEIGHBOUR: 'it returns false'. Refute it at one input. -/
def fnExactComposedWrong : ChangeSpec := { name := "fnExactComposed", fn := fun _ => fun
  | [d1, d2] => { results := [.lit (.bool false)], args := [d1, d2] }
  | _ => none }
def FnExactComposedWrongFalsely : Prop := fnExactComposedRow.holds Tryz.pinned (OpenSpec.ofChange fnExactComposedWrong)

/-- 'laws.FnExactHolds': WHATEVER THE INPUT: true; the input reads as it did. -/
def fnExactHoldsSpec : ChangeSpec := { name := "fnExactHolds", fn := fun _ => fun
  | [d1, d2, d3, d4, d5] => { results := [.lit (.bool true)], args := [d1, d2, d3, d4, d5] }
  | _ => none }
def fnExactHoldsRow : OpenClaim := { program := "ytnglogkkkpegnaagreat", sum := "db9435f0470214d4d08ff151f961c46d8af7e1d25dffd79f08b91cc297292ae6", func := "loop.example/g00645/laws.FnExactHolds", spec := "fnExactHolds", unfollowed := true, recurses := true, plainKeys := false, leaving := true, apart := false }
def FnExactHoldsSaid : Prop := fnExactHoldsRow.holds Tryz.pinned (OpenSpec.ofChange fnExactHoldsSpec)

/-- ITS FALSE NEIGHBOUR: 'it returns false'. Refute it at one input. -/
def fnExactHoldsWrong : ChangeSpec := { name := "fnExactHolds", fn := fun _ => fun
  | [d1, d2, d3, d4, d5] => { results := [.lit (.bool false)], args := [d1, d2, d3, d4, d5] }
  | _ => none }
def FnExactHoldsWrongFalsely : Prop := fnExactHoldsRow.holds Tryz.pinned (OpenSpec.ofChange fnExactHoldsWrong)

/-- 'laws.FnExactWitness': WHATEVER THE INPUT: true; the input reads as it did. -/
def fnExactWitnessSpec : ChangeSpec := { name := "fnExactWitness", fn := fun _ => fun
  | [d1, d2] => { results := [.lit (.bool true)], args := [d1, d2] }
  | _ => none }
def fnExactWitnessRow : OpenClaim := { program := "ytnglogkkkpegnaagreat", sum := "db9435f0470214d4d08ff151f961c46d8af7e1d25dffd79f08b91cc297292ae6", func := "loop.example/g00645/laws.FnExactWitness", spec := "fnExactWitness", unfollowed := true, recurses := true, plainKeys := false, leaving := true, apart := false }
def FnExactWitnessSaid : Prop := fnExactWitnessRow.holds Tryz.pinned (OpenSpec.ofChange fnExactWitnessSpec)

/-- ITS FALSE NEIGHBOUR: 'it returns false'. Refute it at one input. -/
def fnExactWitnessWrong : ChangeSpec := { name := "fnExactWitness", fn := fun _ => fun
  | [d1, d2] => { results := [.lit (.bool false)], args := [d1, d2] }
  | _ => none }
def FnExactWitnessWrongFalsely : Prop := fnExactWitnessRow.holds Tryz.pinned (OpenSpec.ofChange fnExactWitnessWrong)

/-- 'laws.FnExactWitnessOk': WHATEVER THE INPUT: true; the input reads as it did. -/
def fnExactWitnessOkSpec : ChangeSpec := { name := "fnExactWitnessOk", fn := fun _ => fun
  | [d1, d2, d3] => { results := [.lit (.bool true)], args := [d1, d2, d3] }
  | _ => none }
def fnExactWitnessOkRow : OpenClaim := { program := "ytnglogkkkpegnaagreat", sum := "db9435f0470214d4d08ff151f961c46d8af7e1d25dffd79f08b91cc297292ae6", func := "loop.example/g00645/laws.FnExactWitnessOk", spec := "fnExactWitnessOk", unfollowed := true, recurses := true, plainKeys := false, leaving := true, apart := false }
def FnExactWitnessOkSaid : Prop := fnExactWitnessOkRow.holds Tryz.pinned (OpenSpec.ofChange fnExactWitnessOkSpec)

/-- ITS FALSE NEIGHBOUR: 'it returns false'. Refute it at one input. -/
def fnExactWitnessOkWrong : ChangeSpec := { name := "fnExactWitnessOk", fn := fun _ => fun
  | [d1, d2, d3] => { results := [.lit (.bool false)], args := [d1, d2, d3] }
  | _ => none }
def FnExactWitnessOkWrongFalsely : Prop := fnExactWitnessOkRow.holds Tryz.pinned (OpenSpec.ofChange fnExactWitnessOkWrong)

/-- 'laws.FnExactAssembled': WHATEVER THE INPUT: true; the input reads as it did. -/
def fnExactAssembledSpec : ChangeSpec := { name := "fnExactAssembled", fn := fun _ => fun
  | [d] => { results := [.lit (.bool true)], args := [d] }
  | _ => none }
def fnExactAssembledRow : OpenClaim := { program := "ytnglogkkkpegnaagreat", sum := "db9435f0470214d4d08ff151f961c46d8af7e1d25dffd79f08b91cc297292ae6", func := "loop.example/g00645/laws.FnExactAssembled", spec := "fnExactAssembled", unfollowed := true, recurses := true, plainKeys := false, leaving := true, apart := false }
def FnExactAssembledSaid : Prop := fnExactAssembledRow.holds Tryz.pinned (OpenSpec.ofChange fnExactAssembledSpec)

/-- ITS FALSE NEIGHBOUR: 'it returns false'. Refute it at one input. -/
def fnExactAssembledWrong : ChangeSpec := { name := "fnExactAssembled", fn := fun _ => fun
  | [d] => { results := [.lit (.bool false)], args := [d] }
  | _ => none }
def FnExactAssembledWrongFalsely : Prop := fnExactAssembledRow.holds Tryz.pinned (OpenSpec.ofChange fnExactAssembledWrong)

/- THE SECOND FORM. 'bulk': how many values and letters a reading holds, each counted each time it is reached (what is shared counts as often as it is met; a slice's spare places count too). A statement '..UptoSaid' is the law's where the arguments, and the package variables that the reading takes, are together of bulk at most 1048576: NARROWER than '..Said'. Prove '..Said' where nothing that the law and all that it calls make is longer than what came in: it says more and counts as full. Else prove '..UptoSaid'. A law counts once. -/
mutual
def uptoBulk {H : Type} : DataW H → Nat
  | .lit (.string bytes) => bytes.length + 1
  | .lit _ => 1
  | .nil => 1
  | .ptr d => uptoBulk d + 1
  | .slice elems spare => uptoBulkAll elems + uptoBulkAll spare + 1
  | .agg parts => uptoBulkAll parts + 1
  | .iface _ d => uptoBulk d + 1
  | .map entries => uptoBulkEntries entries + 1
  | .held _ => 1
def uptoBulkAll {H : Type} : List (DataW H) → Nat
  | [] => 0
  | d :: r => uptoBulk d + uptoBulkAll r
def uptoBulkEntries {H : Type} : List (Lit × DataW H) → Nat
  | [] => 0
  | x :: r => uptoBulkEntry x + uptoBulkEntries r
def uptoBulkEntry {H : Type} : Lit × DataW H → Nat
  | (.string bytes, d) => bytes.length + uptoBulk d + 1
  | (_, d) => uptoBulk d + 1
 end
def uptoSmall : (H : Type) → List (DataW H) → Bool := fun _ ds => decide (uptoBulkAll ds ≤ 1048576)
def OpenSpec.upto (s : _root_.Go.ChangeSpec) : _root_.Go.OpenSpec := { _root_.Go.OpenSpec.ofChange s with cond := some uptoSmall }

/-- 'laws.FnWitnessed', WHERE WHAT IT READS IS OF BULK AT MOST 1048576: true; the input reads as it did. -/
def fnWitnessedUptoRow : OpenClaim := { program := "ytnglogkkkpegnaagreat", sum := "db9435f0470214d4d08ff151f961c46d8af7e1d25dffd79f08b91cc297292ae6", func := "loop.example/g00645/laws.FnWitnessed", spec := "fnWitnessed", unfollowed := true, recurses := true, plainKeys := false, leaving := true, apart := false, narrowed := true }
def FnWitnessedUptoSaid : Prop := fnWitnessedUptoRow.holds Tryz.pinned (OpenSpec.upto fnWitnessedSpec)

/-- 'laws.FnExactBad', WHERE WHAT IT READS IS OF BULK AT MOST 1048576: true; the input reads as it did. -/
def fnExactBadUptoRow : OpenClaim := { program := "ytnglogkkkpegnaagreat", sum := "db9435f0470214d4d08ff151f961c46d8af7e1d25dffd79f08b91cc297292ae6", func := "loop.example/g00645/laws.FnExactBad", spec := "fnExactBad", unfollowed := true, recurses := true, plainKeys := false, leaving := true, apart := false, narrowed := true }
def FnExactBadUptoSaid : Prop := fnExactBadUptoRow.holds Tryz.pinned (OpenSpec.upto fnExactBadSpec)

/-- 'laws.FnExactCompatible', WHERE WHAT IT READS IS OF BULK AT MOST 1048576: true; the input reads as it did. -/
def fnExactCompatibleUptoRow : OpenClaim := { program := "ytnglogkkkpegnaagreat", sum := "db9435f0470214d4d08ff151f961c46d8af7e1d25dffd79f08b91cc297292ae6", func := "loop.example/g00645/laws.FnExactCompatible", spec := "fnExactCompatible", unfollowed := true, recurses := true, plainKeys := false, leaving := true, apart := false, narrowed := true }
def FnExactCompatibleUptoSaid : Prop := fnExactCompatibleUptoRow.holds Tryz.pinned (OpenSpec.upto fnExactCompatibleSpec)

/-- 'laws.FnExactComposed', WHERE WHAT IT READS IS OF BULK AT MOST 1048576: true; the input reads as it did. -/
def fnExactComposedUptoRow : OpenClaim := { program := "ytnglogkkkpegnaagreat", sum := "db9435f0470214d4d08ff151f961c46d8af7e1d25dffd79f08b91cc297292ae6", func := "loop.example/g00645/laws.FnExactComposed", spec := "fnExactComposed", unfollowed := true, recurses := true, plainKeys := false, leaving := true, apart := false, narrowed := true }
def FnExactComposedUptoSaid : Prop := fnExactComposedUptoRow.holds Tryz.pinned (OpenSpec.upto fnExactComposedSpec)

/-- 'laws.FnExactHolds', WHERE WHAT IT READS IS OF BULK AT MOST 1048576: true; the input reads as it did. -/
def fnExactHoldsUptoRow : OpenClaim := { program := "ytnglogkkkpegnaagreat", sum := "db9435f0470214d4d08ff151f961c46d8af7e1d25dffd79f08b91cc297292ae6", func := "loop.example/g00645/laws.FnExactHolds", spec := "fnExactHolds", unfollowed := true, recurses := true, plainKeys := false, leaving := true, apart := false, narrowed := true }
def FnExactHoldsUptoSaid : Prop := fnExactHoldsUptoRow.holds Tryz.pinned (OpenSpec.upto fnExactHoldsSpec)

/-- 'laws.FnExactWitness', WHERE WHAT IT READS IS OF BULK AT MOST 1048576: true; the input reads as it did. -/
def fnExactWitnessUptoRow : OpenClaim := { program := "ytnglogkkkpegnaagreat", sum := "db9435f0470214d4d08ff151f961c46d8af7e1d25dffd79f08b91cc297292ae6", func := "loop.example/g00645/laws.FnExactWitness", spec := "fnExactWitness", unfollowed := true, recurses := true, plainKeys := false, leaving := true, apart := false, narrowed := true }
def FnExactWitnessUptoSaid : Prop := fnExactWitnessUptoRow.holds Tryz.pinned (OpenSpec.upto fnExactWitnessSpec)

/-- 'laws.FnExactWitnessOk', WHERE WHAT IT READS IS OF BULK AT MOST 1048576: true; the input reads as it did. -/
def fnExactWitnessOkUptoRow : OpenClaim := { program := "ytnglogkkkpegnaagreat", sum := "db9435f0470214d4d08ff151f961c46d8af7e1d25dffd79f08b91cc297292ae6", func := "loop.example/g00645/laws.FnExactWitnessOk", spec := "fnExactWitnessOk", unfollowed := true, recurses := true, plainKeys := false, leaving := true, apart := false, narrowed := true }
def FnExactWitnessOkUptoSaid : Prop := fnExactWitnessOkUptoRow.holds Tryz.pinned (OpenSpec.upto fnExactWitnessOkSpec)

/-- 'laws.FnExactAssembled', WHERE WHAT IT READS IS OF BULK AT MOST 1048576: true; the input reads as it did. -/
def fnExactAssembledUptoRow : OpenClaim := { program := "ytnglogkkkpegnaagreat", sum := "db9435f0470214d4d08ff151f961c46d8af7e1d25dffd79f08b91cc297292ae6", func := "loop.example/g00645/laws.FnExactAssembled", spec := "fnExactAssembled", unfollowed := true, recurses := true, plainKeys := false, leaving := true, apart := false, narrowed := true }
def FnExactAssembledUptoSaid : Prop := fnExactAssembledUptoRow.holds Tryz.pinned (OpenSpec.upto fnExactAssembledSpec)

end Rows
end Go.Proofs.YtnglogkkkpegnaaGreat
