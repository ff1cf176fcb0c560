/-
  No cell of these rows narrows 'for every input' (looked for: loops, veiled, ifaces, maps, wideKeys, modest, calm, conditions, laid).
  DERIVED. THE GIVEN ROWS OF THIS SEAT. 3 by the template 'for every input the law returns true; each argument reads behind the call as it read before'; 0 by the template 'total and deterministic' (their statements: YtalanlmhfggheaaTotals.lean).
  GIVEN WITH THE SEED: the statements are not yours to turn. If you find one false, say at which input.
  Laid BY PROGRAM, IN A SANDBOX (cutbox-rows.mjs): the forced cells as the released guide's own fill.sh prints them over the translation ce7523125425bdf4… (all of the seat's roots in one cut). By AI agents, Wed Nov 11 2026. No macro, syntax, notation, axiom, sorry.
-/
import Derived.Test.YtalanlmhfggheaaChecked
import GoSem.Claim
import GoSem.ClaimJoined
import GoSem.ClaimMapViews
import Derived.JoinedTies
import Derived.KernelRfl
namespace Go.Proofs.Ytalanlmhfggheaa
/- THE CELL 'sum', in the pinned program and in every row, IS THE sha256 OF THE DUMP (.gsa) THAT YtalanlmhfggheaaProg.lean LOADS. Nothing in Lean hashes anything: it is a label: what it is worth is what the hold of that sum in a sandbox is worth. -/
noncomputable def Try.pinned : Pinned := { name := "ytalanlmhfggheaa", sum := "ce7523125425bdf4cb6dd351d42c697a5c41314022104f8b622e3ae2760dab2c", checked := Try.checked }
namespace Rows
def none {H : Type} : Left H := { results := [], args := [] }

/-- 'laws.FnExactClashes': WHATEVER THE INPUT: true; the input reads as it did. -/
def fnExactClashesSpec : ChangeSpec := { name := "fnExactClashes", fn := fun _ => fun
  | [d1, d2] => { results := [.lit (.bool true)], args := [d1, d2] }
  | _ => none }
def fnExactClashesRow : OpenClaim := { program := "ytalanlmhfggheaa", sum := "ce7523125425bdf4cb6dd351d42c697a5c41314022104f8b622e3ae2760dab2c", func := "loop.example/g00645/laws.FnExactClashes", spec := "fnExactClashes", recurses := true, plainKeys := false, apart := false }
def FnExactClashesSaid : Prop := fnExactClashesRow.holds Try.pinned (OpenSpec.ofChange fnExactClashesSpec)

/-- ITS FALSE NEIGHBOUR: 'it returns false'. Refute it at one input. -/
def fnExactClashesWrong : ChangeSpec := { name := "fnExactClashes", fn := fun _ => fun
  | [d1, d2] => { results := [.lit (.bool false)], args := [d1, d2] }
  | _ => none }
def FnExactClashesWrongFalsely : Prop := fnExactClashesRow.holds Try.pinned (OpenSpec.ofChange fnExactClashesWrong)

/-- 'laws.FnExactMixTaken': WHATEVER THE INPUT: true; the input reads as it did. -/
def fnExactMixTakenSpec : ChangeSpec := { name := "fnExactMixTaken", fn := fun _ => fun
  | [d1, d2] => { results := [.lit (.bool true)], args := [d1, d2] }
  | _ => none }
def fnExactMixTakenRow : OpenClaim := { program := "ytalanlmhfggheaa", sum := "ce7523125425bdf4cb6dd351d42c697a5c41314022104f8b622e3ae2760dab2c", func := "loop.example/g00645/laws.FnExactMixTaken", spec := "fnExactMixTaken", unfollowed := true, recurses := true, plainKeys := false, apart := false }
def FnExactMixTakenSaid : Prop := fnExactMixTakenRow.holds Try.pinned (OpenSpec.ofChange fnExactMixTakenSpec)

/-- ITS FALSE NEIGHBOUR: 'it returns false'. Refute it at one input. -/
def fnExactMixTakenWrong : ChangeSpec := { name := "fnExactMixTaken", fn := fun _ => fun
  | [d1, d2] => { results := [.lit (.bool false)], args := [d1, d2] }
  | _ => none }
def FnExactMixTakenWrongFalsely : Prop := fnExactMixTakenRow.holds Try.pinned (OpenSpec.ofChange fnExactMixTakenWrong)

/-- 'laws.FnExactMixSaid': WHATEVER THE INPUT: true; the input reads as it did. -/
def fnExactMixSaidSpec : ChangeSpec := { name := "fnExactMixSaid", fn := fun _ => fun
  | [d1, d2] => { results := [.lit (.bool true)], args := [d1, d2] }
  | _ => none }
def fnExactMixSaidRow : OpenClaim := { program := "ytalanlmhfggheaa", sum := "ce7523125425bdf4cb6dd351d42c697a5c41314022104f8b622e3ae2760dab2c", func := "loop.example/g00645/laws.FnExactMixSaid", spec := "fnExactMixSaid", unfollowed := true, recurses := true, plainKeys := false, apart := false }
def FnExactMixSaidSaid : Prop := fnExactMixSaidRow.holds Try.pinned (OpenSpec.ofChange fnExactMixSaidSpec)

/-- ITS FALSE NEIGHBOUR: 'it returns false'. Refute it at one input. -/
def fnExactMixSaidWrong : ChangeSpec := { name := "fnExactMixSaid", fn := fun _ => fun
  | [d1, d2] => { results := [.lit (.bool false)], args := [d1, d2] }
  | _ => none }
def FnExactMixSaidWrongFalsely : Prop := fnExactMixSaidRow.holds Try.pinned (OpenSpec.ofChange fnExactMixSaidWrong)

/- THE SECOND FORM. 'bulk': how many values and letters a reading holds, each counted each time it is reached (what is shared counts as often as it is met; a slice's spare places count too). A statement '..UptoSaid' is the law's where the arguments, and the package variables that the reading takes, are together of bulk at most 1048576: NARROWER than '..Said'. Prove '..Said' where nothing that the law and all that it calls make is longer than what came in: it says more and counts as full. Else prove '..UptoSaid'. A law counts once. -/
mutual
def uptoBulk {H : Type} : DataW H → Nat
  | .lit (.string bytes) => bytes.length + 1
  | .lit _ => 1
  | .nil => 1
  | .ptr d => uptoBulk d + 1
  | .slice elems spare => uptoBulkAll elems + uptoBulkAll spare + 1
  | .agg parts => uptoBulkAll parts + 1
  | .iface _ d => uptoBulk d + 1
  | .map entries => uptoBulkEntries entries + 1
  | .held _ => 1
def uptoBulkAll {H : Type} : List (DataW H) → Nat
  | [] => 0
  | d :: r => uptoBulk d + uptoBulkAll r
def uptoBulkEntries {H : Type} : List (Lit × DataW H) → Nat
  | [] => 0
  | x :: r => uptoBulkEntry x + uptoBulkEntries r
def uptoBulkEntry {H : Type} : Lit × DataW H → Nat
  | (.string bytes, d) => bytes.length + uptoBulk d + 1
  | (_, d) => uptoBulk d + 1
 end
def uptoSmall : (H : Type) → List (DataW H) → Bool := fun _ ds => decide (uptoBulkAll ds ≤ 1048576)
def OpenSpec.upto (s : _root_.Go.ChangeSpec) : _root_.Go.OpenSpec := { _root_.Go.OpenSpec.ofChange s with cond := some uptoSmall }

/-- 'laws.FnExactClashes', WHERE WHAT IT READS IS OF BULK AT MOST 1048576: true; the input reads as it did. -/
def fnExactClashesUptoRow : OpenClaim := { program := "ytalanlmhfggheaa", sum := "ce7523125425bdf4cb6dd351d42c697a5c41314022104f8b622e3ae2760dab2c", func := "loop.example/g00645/laws.FnExactClashes", spec := "fnExactClashes", recurses := true, plainKeys := false, apart := false, narrowed := true }
def FnExactClashesUptoSaid : Prop := fnExactClashesUptoRow.holds Try.pinned (OpenSpec.upto fnExactClashesSpec)

/-- 'laws.FnExactMixTaken', WHERE WHAT IT READS IS OF BULK AT MOST 1048576: true; the input reads as it did. -/
def fnExactMixTakenUptoRow : OpenClaim := { program := "ytalanlmhfggheaa", sum := "ce7523125425bdf4cb6dd351d42c697a5c41314022104f8b622e3ae2760dab2c", func := "loop.example/g00645/laws.FnExactMixTaken", spec := "fnExactMixTaken", unfollowed := true, recurses := true, plainKeys := false, apart := false, narrowed := true }
def FnExactMixTakenUptoSaid : Prop := fnExactMixTakenUptoRow.holds Try.pinned (OpenSpec.upto fnExactMixTakenSpec)

/-- 'laws.FnExactMixSaid', WHERE WHAT IT READS IS OF BULK AT MOST 1048576: true; the input reads as it did. -/
def fnExactMixSaidUptoRow : OpenClaim := { program := "ytalanlmhfggheaa", sum := "ce7523125425bdf4cb6dd351d42c697a5c41314022104f8b622e3ae2760dab2c", func := "loop.example/g00645/laws.FnExactMixSaid", spec := "fnExactMixSaid", unfollowed := true, recurses := true, plainKeys := false, apart := false, narrowed := true }
def FnExactMixSaidUptoSaid : Prop := fnExactMixSaidUptoRow.holds Try.pinned (OpenSpec.upto fnExactMixSaidSpec)

end Rows
end Go.Proofs.Ytalanlmhfggheaa
