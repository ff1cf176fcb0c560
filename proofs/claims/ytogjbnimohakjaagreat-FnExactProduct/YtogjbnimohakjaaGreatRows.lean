/-
  No cell of these rows narrows 'for every input' (looked for: loops, veiled, ifaces, maps, wideKeys, modest, calm, conditions, laid).
  DERIVED. THE GIVEN ROWS OF THIS SEAT. 11 by the template 'for every input the law returns true; each argument reads behind the call as it read before'; 0 by the template 'total and deterministic' (their statements: YtogjbnimohakjaaGreatTotals.lean).
  GIVEN WITH THE SEED: the statements are not yours to turn. If you find one false, say at which input.
  Laid BY PROGRAM, IN A SANDBOX (cutbox-rows.mjs): the forced cells as the released guide's own fill.sh prints them over the translation fec0f0c4b2fdbab0… (all of the seat's roots in one cut). By AI agents, Wed Nov 11 2026. No macro, syntax, notation, axiom, sorry.
-/
import Derived.Test.YtogjbnimohakjaaGreatChecked
import GoSem.Claim
import GoSem.ClaimJoined
import GoSem.ClaimMapViews
import Derived.JoinedTies
import Derived.KernelRfl
namespace Go.Proofs.YtogjbnimohakjaaGreat
/- THE CELL 'sum', in the pinned program and in every row, IS THE sha256 OF THE DUMP (.gsa) THAT YtogjbnimohakjaaGreatProg.lean LOADS. Nothing in Lean hashes anything: it is a label: what it is worth is what the hold of that sum in a sandbox is worth. -/
noncomputable def Tryz.pinned : Pinned := { name := "ytogjbnimohakjaagreat", sum := "fec0f0c4b2fdbab0c86d3b1bca24cb3a54c64bf10ea4aeba34090d0da22eab3c", checked := Tryz.checked }
namespace Rows
def none {H : Type} : Left H := { results := [], args := [] }

/-- 'laws.FnExactHolds': WHATEVER THE INPUT: true; the input reads as it did. -/
def fnExactHoldsSpec : ChangeSpec := { name := "fnExactHolds", fn := fun _ => fun
  | [d1, d2, d3, d4, d5] => { results := [.lit (.bool true)], args := [d1, d2, d3, d4, d5] }
  | _ => none }
def fnExactHoldsRow : OpenClaim := { program := "ytogjbnimohakjaagreat", sum := "fec0f0c4b2fdbab0c86d3b1bca24cb3a54c64bf10ea4aeba34090d0da22eab3c", func := "loop.example/g00645/laws.FnExactHolds", spec := "fnExactHolds", unfollowed := true, recurses := true, plainKeys := false, apart := false }
def FnExactHoldsSaid : Prop := fnExactHoldsRow.holds Tryz.pinned (OpenSpec.ofChange fnExactHoldsSpec)

/-- ITS FALSE NEIGHBOUR: 'it returns false'. Refute it at one input. -/
def fnExactHoldsWrong : ChangeSpec := { name := "fnExactHolds", fn := fun _ => fun
  | [d1, d2, d3, d4, d5] => { results := [.lit (.bool false)], args := [d1, d2, d3, d4, d5] }
  | _ => none }
def FnExactHoldsWrongFalsely : Prop := fnExactHoldsRow.holds Tryz.pinned (OpenSpec.ofChange fnExactHoldsWrong)

/-- 'laws.FnExactSim': WHATEVER THE INPUT: true; the input reads as it did. -/
def fnExactSimSpec : ChangeSpec := { name := "fnExactSim", fn := fun _ => fun
  | [d1, d2] => { results := [.lit (.bool true)], args := [d1, d2] }
  | _ => none }
def fnExactSimRow : OpenClaim := { program := "ytogjbnimohakjaagreat", sum := "fec0f0c4b2fdbab0c86d3b1bca24cb3a54c64bf10ea4aeba34090d0da22eab3c", func := "loop.example/g00645/laws.FnExactSim", spec := "fnExactSim", unfollowed := true, recurses := true, plainKeys := false, apart := false }
def FnExactSimSaid : Prop := fnExactSimRow.holds Tryz.pinned (OpenSpec.ofChange fnExactSimSpec)

/-- ITS FALSE NEIGHBOUR: 'it returns false'. Refute it at one input. -/
def fnExactSimWrong : ChangeSpec := { name := "fnExactSim", fn := fun _ => fun
  | [d1, d2] => { results := [.lit (.bool false)], args := [d1, d2] }
  | _ => none }
def FnExactSimWrongFalsely : Prop := fnExactSimRow.holds Tryz.pinned (OpenSpec.ofChange fnExactSimWrong)

/-- 'laws.FnExactRefines': WHATEVER THE INPUT: true; the input reads as it did. -/
def fnExactRefinesSpec : ChangeSpec := { name := "fnExactRefines", fn := fun _ => fun
  | [d1, d2] => { results := [.lit (.bool true)], args := [d1, d2] }
  | _ => none }
def fnExactRefinesRow : OpenClaim := { program := "ytogjbnimohakjaagreat", sum := "fec0f0c4b2fdbab0c86d3b1bca24cb3a54c64bf10ea4aeba34090d0da22eab3c", func := "loop.example/g00645/laws.FnExactRefines", spec := "fnExactRefines", unfollowed := true, recurses := true, plainKeys := false, apart := false }
def FnExactRefinesSaid : Prop := fnExactRefinesRow.holds Tryz.pinned (OpenSpec.ofChange fnExactRefinesSpec)

/-- ITS FALSE NEIGHBOUR: 'it returns false'. Refute it at one input. -/
def fnExactRefinesWrong : ChangeSpec := { name := "fnExactRefines", fn := fun _ => fun
  | [d1, d2] => { results := [.lit (.bool false)], args := [d1, d2] }
  | _ => none }
def FnExactRefinesWrongFalsely : Prop := fnExactRefinesRow.holds Tryz.pinned (OpenSpec.ofChange fnExactRefinesWrong)

/-- 'laws.FnExactSpoiler': WHATEVER THE INPUT: true; the input reads as it did. -/
def fnExactSpoilerSpec : ChangeSpec := { name := "fnExactSpoiler", fn := fun _ => fun
  | [d1, d2] => { results := [.lit (.bool true)], args := [d1, d2] }
  | _ => none }
def fnExactSpoilerRow : OpenClaim := { program := "ytogjbnimohakjaagreat", sum := "fec0f0c4b2fdbab0c86d3b1bca24cb3a54c64bf10ea4aeba34090d0da22eab3c", func := "loop.example/g00645/laws.FnExactSpoiler", spec := "fnExactSpoiler", unfollowed := true, recurses := true, plainKeys := false, apart := false }
def FnExactSpoilerSaid : Prop := fnExactSpoilerRow.holds Tryz.pinned (OpenSpec.ofChange fnExactSpoilerSpec)

/-- ITS FALSE NEIGHBOUR: 'it returns false'. Refute it at one input. -/
def fnExactSpoilerWrong : ChangeSpec := { name := "fnExactSpoiler", fn := fun _ => fun
  | [d1, d2] => { results := [.lit (.bool false)], args := [d1, d2] }
  | _ => none }
def FnExactSpoilerWrongFalsely : Prop := fnExactSpoilerRow.holds Tryz.pinned (OpenSpec.ofChange fnExactSpoilerWrong)

/-- 'laws.FnReflexive': WHATEVER THE INPUT: true; the input reads as it did. -/
def fnReflexiveSpec : ChangeSpec := { name := "fnReflexive", fn := fun _ => fun
  | [d] => { results := [.lit (.bool true)], args := [d] }
  | _ => none }
def fnReflexiveRow : OpenClaim := { program := "ytogjbnimohakjaagreat", sum := "fec0f0c4b2fdbab0c86d3b1bca24cb3a54c64bf10ea4aeba34090d0da22eab3c", func := "loop.example/g00645/laws.FnReflexive", spec := "fnReflexive", unfollowed := true, recurses := true, plainKeys := false, apart := false }
def FnReflexiveSaid : Prop := fnReflexiveRow.holds Tryz.pinned (OpenSpec.ofChange fnReflexiveSpec)

/-- ITS FALSE NEIGHBOUR: 'it returns false'. Refute it at one input. -/
def fnReflexiveWrong : ChangeSpec := { name := "fnReflexive", fn := fun _ => fun
  | [d] => { results := [.lit (.bool false)], args := [d] }
  | _ => none }
def FnReflexiveWrongFalsely : Prop := fnReflexiveRow.holds Tryz.pinned (OpenSpec.ofChange fnReflexiveWrong)

/-- 'laws.FnSim': WHATEVER THE INPUT: true; the input reads as it did. -/
def fnSimSpec : ChangeSpec := { name := "fnSim", fn := fun _ => fun
  | [d] => { results := [.lit (.bool true)], args := [d] }
  | _ => none }
def fnSimRow : OpenClaim := { program := "ytogjbnimohakjaagreat", sum := "fec0f0c4b2fdbab0c86d3b1bca24cb3a54c64bf10ea4aeba34090d0da22eab3c", func := "loop.example/g00645/laws.FnSim", spec := "fnSim", unfollowed := true, recurses := true, plainKeys := false, apart := false }
def FnSimSaid : Prop := fnSimRow.holds Tryz.pinned (OpenSpec.ofChange fnSimSpec)

/-- ITS FALSE NEIGHBOUR: 'it returns false'. Refute it at one input. -/
def fnSimWrong : ChangeSpec := { name := "fnSim", fn := fun _ => fun
  | [d] => { results := [.lit (.bool false)], args := [d] }
  | _ => none }
def FnSimWrongFalsely : Prop := fnSimRow.holds Tryz.pinned (OpenSpec.ofChange fnSimWrong)

/-- 'laws.FnSpoilt': WHATEVER THE INPUT: true; the input reads as it did. -/
def fnSpoiltSpec : ChangeSpec := { name := "fnSpoilt", fn := fun _ => fun
  | [d] => { results := [.lit (.bool true)], args := [d] }
  | _ => none }
def fnSpoiltRow : OpenClaim := { program := "ytogjbnimohakjaagreat", sum := "fec0f0c4b2fdbab0c86d3b1bca24cb3a54c64bf10ea4aeba34090d0da22eab3c", func := "loop.example/g00645/laws.FnSpoilt", spec := "fnSpoilt", unfollowed := true, recurses := true, plainKeys := false, apart := false }
def FnSpoiltSaid : Prop := fnSpoiltRow.holds Tryz.pinned (OpenSpec.ofChange fnSpoiltSpec)

/-- ITS FALSE NEIGHBOUR: 'it returns false'. Refute it at one input. -/
def fnSpoiltWrong : ChangeSpec := { name := "fnSpoilt", fn := fun _ => fun
  | [d] => { results := [.lit (.bool false)], args := [d] }
  | _ => none }
def FnSpoiltWrongFalsely : Prop := fnSpoiltRow.holds Tryz.pinned (OpenSpec.ofChange fnSpoiltWrong)

/-- 'laws.FnTop': WHATEVER THE INPUT: true; the input reads as it did. -/
def fnTopSpec : ChangeSpec := { name := "fnTop", fn := fun _ => fun
  | [d1, d2] => { results := [.lit (.bool true)], args := [d1, d2] }
  | _ => none }
def fnTopRow : OpenClaim := { program := "ytogjbnimohakjaagreat", sum := "fec0f0c4b2fdbab0c86d3b1bca24cb3a54c64bf10ea4aeba34090d0da22eab3c", func := "loop.example/g00645/laws.FnTop", spec := "fnTop", unfollowed := true, recurses := true, plainKeys := false, apart := false }
def FnTopSaid : Prop := fnTopRow.holds Tryz.pinned (OpenSpec.ofChange fnTopSpec)

/-- ITS FALSE NEIGHBOUR: 'it returns false'. Refute it at one input. -/
def fnTopWrong : ChangeSpec := { name := "fnTop", fn := fun _ => fun
  | [d1, d2] => { results := [.lit (.bool false)], args := [d1, d2] }
  | _ => none }
def FnTopWrongFalsely : Prop := fnTopRow.holds Tryz.pinned (OpenSpec.ofChange fnTopWrong)

/-- 'laws.FnExactProduct': WHATEVER THE INPUT: true; the input reads as it did. -/
def fnExactProductSpec : ChangeSpec := { name := "fnExactProduct", fn := fun _ => fun
  | [d1, d2] => { results := [.lit (.bool true)], args := [d1, d2] }
  | _ => none }
def fnExactProductRow : OpenClaim := { program := "ytogjbnimohakjaagreat", sum := "fec0f0c4b2fdbab0c86d3b1bca24cb3a54c64bf10ea4aeba34090d0da22eab3c", func := "loop.example/g00645/laws.FnExactProduct", spec := "fnExactProduct", unfollowed := true, recurses := true, plainKeys := false, apart := false }
def FnExactProductSaid : Prop := fnExactProductRow.holds Tryz.pinned (OpenSpec.ofChange fnExactProductSpec)

/-- ITS FALSE NEIGHBOUR: 'it returns false'. Refute it at one input. -/
def fnExactProductWrong : ChangeSpec := { name := "fnExactProduct", fn := fun _ => fun
  | [d1, d2] => { results := [.lit (.bool false)], args := [d1, d2] }
  | _ => none }
def FnExactProductWrongFalsely : Prop := fnExactProductRow.holds Tryz.pinned (OpenSpec.ofChange fnExactProductWrong)

/-- 'laws.FnExactBad': WHATEVER THE INPUT: true; the input reads as it did. -/
def fnExactBadSpec : ChangeSpec := { name := "fnExactBad", fn := fun _ => fun
  | [d1, d2] => { results := [.lit (.bool true)], args := [d1, d2] }
  | _ => none }
def fnExactBadRow : OpenClaim := { program := "ytogjbnimohakjaagreat", sum := "fec0f0c4b2fdbab0c86d3b1bca24cb3a54c64bf10ea4aeba34090d0da22eab3c", func := "loop.example/g00645/laws.FnExactBad", spec := "fnExactBad", unfollowed := true, recurses := true, plainKeys := false, apart := false }
def FnExactBadSaid : Prop := fnExactBadRow.holds Tryz.pinned (OpenSpec.ofChange fnExactBadSpec)

/-- ITS FALSE NEIGHBOUR: 'it returns false'. Refute it at one input. -/
def fnExactBadWrong : ChangeSpec := { name := "fnExactBad", fn := fun _ => fun
  | [d1, d2] => { results := [.lit (.bool false)], args := [d1, d2] }
  | _ => none }
def FnExactBadWrongFalsely : Prop := fnExactBadRow.holds Tryz.pinned (OpenSpec.ofChange fnExactBadWrong)

/-- 'laws.FnExactCompatible': WHATEVER THE INPUT: true; the input reads as it did. -/
def fnExactCompatibleSpec : ChangeSpec := { name := "fnExactCompatible", fn := fun _ => fun
  | [d1, d2] => { results := [.lit (.bool true)], args := [d1, d2] }
  | _ => none }
def fnExactCompatibleRow : OpenClaim := { program := "ytogjbnimohakjaagreat", sum := "fec0f0c4b2fdbab0c86d3b1bca24cb3a54c64bf10ea4aeba34090d0da22eab3c", func := "loop.example/g00645/laws.FnExactCompatible", spec := "fnExactCompatible", unfollowed := true, recurses := true, plainKeys := false, apart := false }
def FnExactCompatibleSaid : Prop := fnExactCompatibleRow.holds Tryz.pinned (OpenSpec.ofChange fnExactCompatibleSpec)

/-- ITS FALSE NEIGHBOUR: 'it returns false'. Refute it at one input. -/
def fnExactCompatibleWrong : ChangeSpec := { name := "fnExactCompatible", fn := fun _ => fun
  | [d1, d2] => { results := [.lit (.bool false)], args := [d1, d2] }
  | _ => none }
def FnExactCompatibleWrongFalsely : Prop := fnExactCompatibleRow.holds Tryz.pinned (OpenSpec.ofChange fnExactCompatibleWrong)

/- THE SECOND FORM. 'bulk': how many values and letters a reading holds, each counted each time it is reached (what is shared counts as often as it is met; a slice's spare places count too). A statement '..UptoSaid' is the law's where the arguments, and the package variables that the reading takes, are together of bulk at most 1048576: NARROWER than '..Said'. Prove '..Said' where nothing that the law and all that it calls make is longer than what came in: it says more and counts as full. Else prove '..UptoSaid'. A law counts once. -/
mutual
def uptoBulk {H : Type} : DataW H → Nat
  | .lit (.string bytes) => bytes.length + 1
  | .lit _ => 1
  | .nil => 1
  | .ptr d => uptoBulk d + 1
  | .slice elems spare => uptoBulkAll elems + uptoBulkAll spare + 1
  | .agg parts => uptoBulkAll parts + 1
  | .iface _ d => uptoBulk d + 1
  | .map entries => uptoBulkEntries entries + 1
  | .held _ => 1
def uptoBulkAll {H : Type} : List (DataW H) → Nat
  | [] => 0
  | d :: r => uptoBulk d + uptoBulkAll r
def uptoBulkEntries {H : Type} : List (Lit × DataW H) → Nat
  | [] => 0
  | x :: r => uptoBulkEntry x + uptoBulkEntries r
def uptoBulkEntry {H : Type} : Lit × DataW H → Nat
  | (.string bytes, d) => bytes.length + uptoBulk d + 1
  | (_, d) => uptoBulk d + 1
 end
def uptoSmall : (H : Type) → List (DataW H) → Bool := fun _ ds => decide (uptoBulkAll ds ≤ 1048576)
def OpenSpec.upto (s : _root_.Go.ChangeSpec) : _root_.Go.OpenSpec := { _root_.Go.OpenSpec.ofChange s with cond := some uptoSmall }

/-- 'laws.FnExactHolds', WHERE WHAT IT READS IS OF BULK AT MOST 1048576: true; the input reads as it did. -/
def fnExactHoldsUptoRow : OpenClaim := { program := "ytogjbnimohakjaagreat", sum := "fec0f0c4b2fdbab0c86d3b1bca24cb3a54c64bf10ea4aeba34090d0da22eab3c", func := "loop.example/g00645/laws.FnExactHolds", spec := "fnExactHolds", unfollowed := true, recurses := true, plainKeys := false, apart := false, narrowed := true }
def FnExactHoldsUptoSaid : Prop := fnExactHoldsUptoRow.holds Tryz.pinned (OpenSpec.upto fnExactHoldsSpec)

/-- 'laws.FnExactSim', WHERE WHAT IT READS IS OF BULK AT MOST 1048576: true; the input reads as it did. -/
def fnExactSimUptoRow : OpenClaim := { program := "ytogjbnimohakjaagreat", sum := "fec0f0c4b2fdbab0c86d3b1bca24cb3a54c64bf10ea4aeba34090d0da22eab3c", func := "loop.example/g00645/laws.FnExactSim", spec := "fnExactSim", unfollowed := true, recurses := true, plainKeys := false, apart := false, narrowed := true }
def FnExactSimUptoSaid : Prop := fnExactSimUptoRow.holds Tryz.pinned (OpenSpec.upto fnExactSimSpec)

/-- 'laws.FnExactRefines', WHERE WHAT IT READS IS OF BULK AT MOST 1048576: true; the input reads as it did. -/
def fnExactRefinesUptoRow : OpenClaim := { program := "ytogjbnimohakjaagreat", sum := "fec0f0c4b2fdbab0c86d3b1bca24cb3a54c64bf10ea4aeba34090d0da22eab3c", func := "loop.example/g00645/laws.FnExactRefines", spec := "fnExactRefines", unfollowed := true, recurses := true, plainKeys := false, apart := false, narrowed := true }
def FnExactRefinesUptoSaid : Prop := fnExactRefinesUptoRow.holds Tryz.pinned (OpenSpec.upto fnExactRefinesSpec)

/-- 'laws.FnExactSpoiler', WHERE WHAT IT READS IS OF BULK AT MOST 1048576: true; the input reads as it did. -/
def fnExactSpoilerUptoRow : OpenClaim := { program := "ytogjbnimohakjaagreat", sum := "fec0f0c4b2fdbab0c86d3b1bca24cb3a54c64bf10ea4aeba34090d0da22eab3c", func := "loop.example/g00645/laws.FnExactSpoiler", spec := "fnExactSpoiler", unfollowed := true, recurses := true, plainKeys := false, apart := false, narrowed := true }
def FnExactSpoilerUptoSaid : Prop := fnExactSpoilerUptoRow.holds Tryz.pinned (OpenSpec.upto fnExactSpoilerSpec)

/-- 'laws.FnReflexive', WHERE WHAT IT READS IS OF BULK AT MOST 1048576: true; the input reads as it did. -/
def fnReflexiveUptoRow : OpenClaim := { program := "ytogjbnimohakjaagreat", sum := "fec0f0c4b2fdbab0c86d3b1bca24cb3a54c64bf10ea4aeba34090d0da22eab3c", func := "loop.example/g00645/laws.FnReflexive", spec := "fnReflexive", unfollowed := true, recurses := true, plainKeys := false, apart := false, narrowed := true }
def FnReflexiveUptoSaid : Prop := fnReflexiveUptoRow.holds Tryz.pinned (OpenSpec.upto fnReflexiveSpec)

/-- 'laws.FnSim', WHERE WHAT IT READS IS OF BULK AT MOST 1048576: true; the input reads as it did. -/
def fnSimUptoRow : OpenClaim := { program := "ytogjbnimohakjaagreat", sum := "fec0f0c4b2fdbab0c86d3b1bca24cb3a54c64bf10ea4aeba34090d0da22eab3c", func := "loop.example/g00645/laws.FnSim", spec := "fnSim", unfollowed := true, recurses := true, plainKeys := false, apart := false, narrowed := true }
def FnSimUptoSaid : Prop := fnSimUptoRow.holds Tryz.pinned (OpenSpec.upto fnSimSpec)

/-- 'laws.FnSpoilt', WHERE WHAT IT READS IS OF BULK AT MOST 1048576: true; the input reads as it did. -/
def fnSpoiltUptoRow : OpenClaim := { program := "ytogjbnimohakjaagreat", sum := "fec0f0c4b2fdbab0c86d3b1bca24cb3a54c64bf10ea4aeba34090d0da22eab3c", func := "loop.example/g00645/laws.FnSpoilt", spec := "fnSpoilt", unfollowed := true, recurses := true, plainKeys := false, apart := false, narrowed := true }
def FnSpoiltUptoSaid : Prop := fnSpoiltUptoRow.holds Tryz.pinned (OpenSpec.upto fnSpoiltSpec)

/-- 'laws.FnTop', WHERE WHAT IT READS IS OF BULK AT MOST 1048576: true; the input reads as it did. -/
def fnTopUptoRow : OpenClaim := { program := "ytogjbnimohakjaagreat", sum := "fec0f0c4b2fdbab0c86d3b1bca24cb3a54c64bf10ea4aeba34090d0da22eab3c", func := "loop.example/g00645/laws.FnTop", spec := "fnTop", unfollowed := true, recurses := true, plainKeys := false, apart := false, narrowed := true }
def FnTopUptoSaid : Prop := fnTopUptoRow.holds Tryz.pinned (OpenSpec.upto fnTopSpec)

/-- 'laws.FnExactProduct', WHERE WHAT IT READS IS OF BULK AT MOST 1048576: true; the input reads as it did. -/
def fnExactProductUptoRow : OpenClaim := { program := "ytogjbnimohakjaagreat", sum := "fec0f0c4b2fdbab0c86d3b1bca24cb3a54c64bf10ea4aeba34090d0da22eab3c", func := "loop.example/g00645/laws.FnExactProduct", spec := "fnExactProduct", unfollowed := true, recurses := true, plainKeys := false, apart := false, narrowed := true }
def FnExactProductUptoSaid : Prop := fnExactProductUptoRow.holds Tryz.pinned (OpenSpec.upto fnExactProductSpec)

/-- 'laws.FnExactBad', WHERE WHAT IT READS IS OF BULK AT MOST 1048576: true; the input reads as it did. -/
def fnExactBadUptoRow : OpenClaim := { program := "ytogjbnimohakjaagreat", sum := "fec0f0c4b2fdbab0c86d3b1bca24cb3a54c64bf10ea4aeba34090d0da22eab3c", func := "loop.example/g00645/laws.FnExactBad", spec := "fnExactBad", unfollowed := true, recurses := true, plainKeys := false, apart := false, narrowed := true }
def FnExactBadUptoSaid : Prop := fnExactBadUptoRow.holds Tryz.pinned (OpenSpec.upto fnExactBadSpec)

/-- 'laws.FnExactCompatible', WHERE WHAT IT READS IS OF BULK AT MOST 1048576: true; the input reads as it did. -/
def fnExactCompatibleUptoRow : OpenClaim := { program := "ytogjbnimohakjaagreat", sum := "fec0f0c4b2fdbab0c86d3b1bca24cb3a54c64bf10ea4aeba34090d0da22eab3c", func := "loop.example/g00645/laws.FnExactCompatible", spec := "fnExactCompatible", unfollowed := true, recurses := true, plainKeys := false, apart := false, narrowed := true }
def FnExactCompatibleUptoSaid : Prop := fnExactCompatibleUptoRow.holds Tryz.pinned (OpenSpec.upto fnExactCompatibleSpec)

end Rows
end Go.Proofs.YtogjbnimohakjaaGreat
