/-
  No cell of these rows narrows 'for every input' (looked for: loops, veiled, ifaces, maps, wideKeys, modest, calm, conditions, laid).
  DERIVED. THE GIVEN ROWS OF THIS SEAT. 11 by the template 'for every input the law returns true; each argument reads behind the call as it read before'; 0 by the template 'total and deterministic' (their statements: YtclmdlopefbpbaaTotals.lean).
  GIVEN WITH THE SEED: the statements are not yours to turn. If you find one false, say at which input.
  Laid BY PROGRAM, IN A SANDBOX (cutbox-rows.mjs): the forced cells as the released guide's own fill.sh prints them over the translation cb6535d937fe9368… (all of the seat's roots in one cut). By AI agents, Wed Nov 11 2026. No macro, syntax, notation, axiom, sorry.
-/
import Derived.Test.YtclmdlopefbpbaaChecked
import GoSem.Claim
import GoSem.ClaimJoined
import GoSem.ClaimMapViews
import Derived.JoinedTies
import Derived.KernelRfl
namespace Go.Proofs.Ytclmdlopefbpbaa
/- THE CELL 'sum', in the pinned program and in every row, IS THE sha256 OF THE DUMP (.gsa) THAT YtclmdlopefbpbaaProg.lean LOADS. Nothing in Lean hashes anything: it is a label: what it is worth is what the hold of that sum in a sandbox is worth. -/
noncomputable def Try.pinned : Pinned := { name := "ytclmdlopefbpbaa", sum := "cb6535d937fe9368c7791bb05035ee7dcb861253ea2d88f5f9ce3f6aaae7754f", checked := Try.checked }
namespace Rows
def none {H : Type} : Left H := { results := [], args := [] }

/-- 'laws.FnUnseen': WHATEVER THE INPUT: true; the input reads as it did. -/
def fnUnseenSpec : ChangeSpec := { name := "fnUnseen", fn := fun _ => fun
  | [d] => { results := [.lit (.bool true)], args := [d] }
  | _ => none }
def fnUnseenRow : OpenClaim := { program := "ytclmdlopefbpbaa", sum := "cb6535d937fe9368c7791bb05035ee7dcb861253ea2d88f5f9ce3f6aaae7754f", func := "loop.example/g00645/laws.FnUnseen", spec := "fnUnseen", unfollowed := true, recurses := true, apart := false }
def FnUnseenSaid : Prop := fnUnseenRow.holds Try.pinned (OpenSpec.ofChange fnUnseenSpec)

/-- ITS FALSE NEIGHBOUR: 'it returns false'. Refute it at one input. -/
def fnUnseenWrong : ChangeSpec := { name := "fnUnseen", fn := fun _ => fun
  | [d] => { results := [.lit (.bool false)], args := [d] }
  | _ => none }
def FnUnseenWrongFalsely : Prop := fnUnseenRow.holds Try.pinned (OpenSpec.ofChange fnUnseenWrong)

/-- 'laws.FnRuns': WHATEVER THE INPUT: true; the input reads as it did. -/
def fnRunsSpec : ChangeSpec := { name := "fnRuns", fn := fun _ => fun
  | [d] => { results := [.lit (.bool true)], args := [d] }
  | _ => none }
def fnRunsRow : OpenClaim := { program := "ytclmdlopefbpbaa", sum := "cb6535d937fe9368c7791bb05035ee7dcb861253ea2d88f5f9ce3f6aaae7754f", func := "loop.example/g00645/laws.FnRuns", spec := "fnRuns", unfollowed := true, recurses := true, apart := false }
def FnRunsSaid : Prop := fnRunsRow.holds Try.pinned (OpenSpec.ofChange fnRunsSpec)

/-- ITS FALSE NEIGHBOUR: 'it returns false'. Refute it at one input. -/
def fnRunsWrong : ChangeSpec := { name := "fnRuns", fn := fun _ => fun
  | [d] => { results := [.lit (.bool false)], args := [d] }
  | _ => none }
def FnRunsWrongFalsely : Prop := fnRunsRow.holds Try.pinned (OpenSpec.ofChange fnRunsWrong)

/-- 'laws.FnExactTaken': WHATEVER THE INPUT: true; the input reads as it did. -/
def fnExactTakenSpec : ChangeSpec := { name := "fnExactTaken", fn := fun _ => fun
  | [d1, d2] => { results := [.lit (.bool true)], args := [d1, d2] }
  | _ => none }
def fnExactTakenRow : OpenClaim := { program := "ytclmdlopefbpbaa", sum := "cb6535d937fe9368c7791bb05035ee7dcb861253ea2d88f5f9ce3f6aaae7754f", func := "loop.example/g00645/laws.FnExactTaken", spec := "fnExactTaken", recurses := true, apart := false }
def FnExactTakenSaid : Prop := fnExactTakenRow.holds Try.pinned (OpenSpec.ofChange fnExactTakenSpec)

/-- ITS FALSE NEIGHBOUR: 'it returns false'. Refute it at one input. -/
def fnExactTakenWrong : ChangeSpec := { name := "fnExactTaken", fn := fun _ => fun
  | [d1, d2] => { results := [.lit (.bool false)], args := [d1, d2] }
  | _ => none }
def FnExactTakenWrongFalsely : Prop := fnExactTakenRow.holds Try.pinned (OpenSpec.ofChange fnExactTakenWrong)

/-- 'laws.FnExactSaid': WHATEVER THE INPUT: true; the input reads as it did. -/
def fnExactSaidSpec : ChangeSpec := { name := "fnExactSaid", fn := fun _ => fun
  | [d1, d2] => { results := [.lit (.bool true)], args := [d1, d2] }
  | _ => none }
def fnExactSaidRow : OpenClaim := { program := "ytclmdlopefbpbaa", sum := "cb6535d937fe9368c7791bb05035ee7dcb861253ea2d88f5f9ce3f6aaae7754f", func := "loop.example/g00645/laws.FnExactSaid", spec := "fnExactSaid", recurses := true, apart := false }
def FnExactSaidSaid : Prop := fnExactSaidRow.holds Try.pinned (OpenSpec.ofChange fnExactSaidSpec)

/-- ITS FALSE NEIGHBOUR: 'it returns false'. Refute it at one input. -/
def fnExactSaidWrong : ChangeSpec := { name := "fnExactSaid", fn := fun _ => fun
  | [d1, d2] => { results := [.lit (.bool false)], args := [d1, d2] }
  | _ => none }
def FnExactSaidWrongFalsely : Prop := fnExactSaidRow.holds Try.pinned (OpenSpec.ofChange fnExactSaidWrong)

/-- 'laws.FnExactDone': WHATEVER THE INPUT: true; the input reads as it did. -/
def fnExactDoneSpec : ChangeSpec := { name := "fnExactDone", fn := fun _ => fun
  | [d1, d2] => { results := [.lit (.bool true)], args := [d1, d2] }
  | _ => none }
def fnExactDoneRow : OpenClaim := { program := "ytclmdlopefbpbaa", sum := "cb6535d937fe9368c7791bb05035ee7dcb861253ea2d88f5f9ce3f6aaae7754f", func := "loop.example/g00645/laws.FnExactDone", spec := "fnExactDone", recurses := true, apart := false }
def FnExactDoneSaid : Prop := fnExactDoneRow.holds Try.pinned (OpenSpec.ofChange fnExactDoneSpec)

/-- ITS FALSE NEIGHBOUR: 'it returns false'. Refute it at one input. -/
def fnExactDoneWrong : ChangeSpec := { name := "fnExactDone", fn := fun _ => fun
  | [d1, d2] => { results := [.lit (.bool false)], args := [d1, d2] }
  | _ => none }
def FnExactDoneWrongFalsely : Prop := fnExactDoneRow.holds Try.pinned (OpenSpec.ofChange fnExactDoneWrong)

/-- 'laws.FnExactAfter': WHATEVER THE INPUT: true; the input reads as it did. -/
def fnExactAfterSpec : ChangeSpec := { name := "fnExactAfter", fn := fun _ => fun
  | [d1, d2, d3] => { results := [.lit (.bool true)], args := [d1, d2, d3] }
  | _ => none }
def fnExactAfterRow : OpenClaim := { program := "ytclmdlopefbpbaa", sum := "cb6535d937fe9368c7791bb05035ee7dcb861253ea2d88f5f9ce3f6aaae7754f", func := "loop.example/g00645/laws.FnExactAfter", spec := "fnExactAfter", recurses := true, apart := false }
def FnExactAfterSaid : Prop := fnExactAfterRow.holds Try.pinned (OpenSpec.ofChange fnExactAfterSpec)

/-- ITS FALSE NEIGHBOUR: 'it returns false'. Refute it at one input. -/
def fnExactAfterWrong : ChangeSpec := { name := "fnExactAfter", fn := fun _ => fun
  | [d1, d2, d3] => { results := [.lit (.bool false)], args := [d1, d2, d3] }
  | _ => none }
def FnExactAfterWrongFalsely : Prop := fnExactAfterRow.holds Try.pinned (OpenSpec.ofChange fnExactAfterWrong)

/-- 'laws.FnExactClosure': WHATEVER THE INPUT: true; the input reads as it did. -/
def fnExactClosureSpec : ChangeSpec := { name := "fnExactClosure", fn := fun _ => fun
  | [d1, d2] => { results := [.lit (.bool true)], args := [d1, d2] }
  | _ => none }
def fnExactClosureRow : OpenClaim := { program := "ytclmdlopefbpbaa", sum := "cb6535d937fe9368c7791bb05035ee7dcb861253ea2d88f5f9ce3f6aaae7754f", func := "loop.example/g00645/laws.FnExactClosure", spec := "fnExactClosure", unfollowed := true, recurses := true, apart := false }
def FnExactClosureSaid : Prop := fnExactClosureRow.holds Try.pinned (OpenSpec.ofChange fnExactClosureSpec)

/-- ITS FALSE NEIGHBOUR: 'it returns false'. Refute it at one input. -/
def fnExactClosureWrong : ChangeSpec := { name := "fnExactClosure", fn := fun _ => fun
  | [d1, d2] => { results := [.lit (.bool false)], args := [d1, d2] }
  | _ => none }
def FnExactClosureWrongFalsely : Prop := fnExactClosureRow.holds Try.pinned (OpenSpec.ofChange fnExactClosureWrong)

/-- 'laws.FnExactSureTaken': WHATEVER THE INPUT: true; the input reads as it did. -/
def fnExactSureTakenSpec : ChangeSpec := { name := "fnExactSureTaken", fn := fun _ => fun
  | [d1, d2] => { results := [.lit (.bool true)], args := [d1, d2] }
  | _ => none }
def fnExactSureTakenRow : OpenClaim := { program := "ytclmdlopefbpbaa", sum := "cb6535d937fe9368c7791bb05035ee7dcb861253ea2d88f5f9ce3f6aaae7754f", func := "loop.example/g00645/laws.FnExactSureTaken", spec := "fnExactSureTaken", unfollowed := true, recurses := true, apart := false }
def FnExactSureTakenSaid : Prop := fnExactSureTakenRow.holds Try.pinned (OpenSpec.ofChange fnExactSureTakenSpec)

/-- ITS FALSE NEIGHBOUR: 'it returns false'. Refute it at one input. -/
def fnExactSureTakenWrong : ChangeSpec := { name := "fnExactSureTaken", fn := fun _ => fun
  | [d1, d2] => { results := [.lit (.bool false)], args := [d1, d2] }
  | _ => none }
def FnExactSureTakenWrongFalsely : Prop := fnExactSureTakenRow.holds Try.pinned (OpenSpec.ofChange fnExactSureTakenWrong)

/-- 'laws.FnExactMaySay': WHATEVER THE INPUT: true; the input reads as it did. -/
def fnExactMaySaySpec : ChangeSpec := { name := "fnExactMaySay", fn := fun _ => fun
  | [d1, d2] => { results := [.lit (.bool true)], args := [d1, d2] }
  | _ => none }
def fnExactMaySayRow : OpenClaim := { program := "ytclmdlopefbpbaa", sum := "cb6535d937fe9368c7791bb05035ee7dcb861253ea2d88f5f9ce3f6aaae7754f", func := "loop.example/g00645/laws.FnExactMaySay", spec := "fnExactMaySay", unfollowed := true, recurses := true, apart := false }
def FnExactMaySaySaid : Prop := fnExactMaySayRow.holds Try.pinned (OpenSpec.ofChange fnExactMaySaySpec)

/-- ITS FALSE NEIGHBOUR: 'it returns false'. Refute it at one input. -/
def fnExactMaySayWrong : ChangeSpec := { name := "fnExactMaySay", fn := fun _ => fun
  | [d1, d2] => { results := [.lit (.bool false)], args := [d1, d2] }
  | _ => none }
def FnExactMaySayWrongFalsely : Prop := fnExactMaySayRow.holds Try.pinned (OpenSpec.ofChange fnExactMaySayWrong)

/-- 'laws.FnExactFarAfter': WHATEVER THE INPUT: true; the input reads as it did. -/
def fnExactFarAfterSpec : ChangeSpec := { name := "fnExactFarAfter", fn := fun _ => fun
  | [d1, d2, d3] => { results := [.lit (.bool true)], args := [d1, d2, d3] }
  | _ => none }
def fnExactFarAfterRow : OpenClaim := { program := "ytclmdlopefbpbaa", sum := "cb6535d937fe9368c7791bb05035ee7dcb861253ea2d88f5f9ce3f6aaae7754f", func := "loop.example/g00645/laws.FnExactFarAfter", spec := "fnExactFarAfter", unfollowed := true, recurses := true, apart := false }
def FnExactFarAfterSaid : Prop := fnExactFarAfterRow.holds Try.pinned (OpenSpec.ofChange fnExactFarAfterSpec)

/-- ITS FALSE NEIGHBOUR: 'it returns false'. Refute it at one input. -/
def fnExactFarAfterWrong : ChangeSpec := { name := "fnExactFarAfter", fn := fun _ => fun
  | [d1, d2, d3] => { results := [.lit (.bool false)], args := [d1, d2, d3] }
  | _ => none }
def FnExactFarAfterWrongFalsely : Prop := fnExactFarAfterRow.holds Try.pinned (OpenSpec.ofChange fnExactFarAfterWrong)

/-- 'laws.FnExactRuns': WHATEVER THE INPUT: true; the input reads as it did. -/
def fnExactRunsSpec : ChangeSpec := { name := "fnExactRuns", fn := fun _ => fun
  | [d1, d2, d3] => { results := [.lit (.bool true)], args := [d1, d2, d3] }
  | _ => none }
def fnExactRunsRow : OpenClaim := { program := "ytclmdlopefbpbaa", sum := "cb6535d937fe9368c7791bb05035ee7dcb861253ea2d88f5f9ce3f6aaae7754f", func := "loop.example/g00645/laws.FnExactRuns", spec := "fnExactRuns", unfollowed := true, recurses := true, apart := false }
def FnExactRunsSaid : Prop := fnExactRunsRow.holds Try.pinned (OpenSpec.ofChange fnExactRunsSpec)

/-- ITS FALSE NEIGHBOUR: 'it returns false'. Refute it at one input. -/
def fnExactRunsWrong : ChangeSpec := { name := "fnExactRuns", fn := fun _ => fun
  | [d1, d2, d3] => { results := [.lit (.bool false)], args := [d1, d2, d3] }
  | _ => none }
def FnExactRunsWrongFalsely : Prop := fnExactRunsRow.holds Try.pinned (OpenSpec.ofChange fnExactRunsWrong)

/- THE SECOND FORM. 'bulk': how many values and letters a reading holds, each counted each time it is reached (what is shared counts as often as it is met; a slice's spare places count too). A statement '..UptoSaid' is the law's where the arguments, and the package variables that the reading takes, are together of bulk at most 1048576: NARROWER than '..Said'. Prove '..Said' where nothing that the law and all that it calls make is longer than what came in: it says more and counts as full. Else prove '..UptoSaid'. A law counts once. -/
mutual
def uptoBulk {H : Type} : DataW H → Nat
  | .lit (.string bytes) => bytes.length + 1
  | .lit _ => 1
  | .nil => 1
  | .ptr d => uptoBulk d + 1
  | .slice elems spare => uptoBulkAll elems + uptoBulkAll spare + 1
  | .agg parts => uptoBulkAll parts + 1
  | .iface _ d => uptoBulk d + 1
  | .map entries => uptoBulkEntries entries + 1
  | .held _ => 1
def uptoBulkAll {H : Type} : List (DataW H) → Nat
  | [] => 0
  | d :: r => uptoBulk d + uptoBulkAll r
def uptoBulkEntries {H : Type} : List (Lit × DataW H) → Nat
  | [] => 0
  | x :: r => uptoBulkEntry x + uptoBulkEntries r
def uptoBulkEntry {H : Type} : Lit × DataW H → Nat
  | (.string bytes, d) => bytes.length + uptoBulk d + 1
  | (_, d) => uptoBulk d + 1
 end
def uptoSmall : (H : Type) → List (DataW H) → Bool := fun _ ds => decide (uptoBulkAll ds ≤ 1048576)
def OpenSpec.upto (s : _root_.Go.ChangeSpec) : _root_.Go.OpenSpec := { _root_.Go.OpenSpec.ofChange s with cond := some uptoSmall }

/-- 'laws.FnUnseen', WHERE WHAT IT READS IS OF BULK AT MOST 1048576: true; the input reads as it did. -/
def fnUnseenUptoRow : OpenClaim := { program := "ytclmdlopefbpbaa", sum := "cb6535d937fe9368c7791bb05035ee7dcb861253ea2d88f5f9ce3f6aaae7754f", func := "loop.example/g00645/laws.FnUnseen", spec := "fnUnseen", unfollowed := true, recurses := true, apart := false, narrowed := true }
def FnUnseenUptoSaid : Prop := fnUnseenUptoRow.holds Try.pinned (OpenSpec.upto fnUnseenSpec)

/-- 'laws.FnRuns', WHERE WHAT IT READS IS OF BULK AT MOST 1048576: true; the input reads as it did. -/
def fnRunsUptoRow : OpenClaim := { program := "ytclmdlopefbpbaa", sum := "cb6535d937fe9368c7791bb05035ee7dcb861253ea2d88f5f9ce3f6aaae7754f", func := "loop.example/g00645/laws.FnRuns", spec := "fnRuns", unfollowed := true, recurses := true, apart := false, narrowed := true }
def FnRunsUptoSaid : Prop := fnRunsUptoRow.holds Try.pinned (OpenSpec.upto fnRunsSpec)

/-- 'laws.FnExactTaken', WHERE WHAT IT READS IS OF BULK AT MOST 1048576: true; the input reads as it did. -/
def fnExactTakenUptoRow : OpenClaim := { program := "ytclmdlopefbpbaa", sum := "cb6535d937fe9368c7791bb05035ee7dcb861253ea2d88f5f9ce3f6aaae7754f", func := "loop.example/g00645/laws.FnExactTaken", spec := "fnExactTaken", recurses := true, apart := false, narrowed := true }
def FnExactTakenUptoSaid : Prop := fnExactTakenUptoRow.holds Try.pinned (OpenSpec.upto fnExactTakenSpec)

/-- 'laws.FnExactSaid', WHERE WHAT IT READS IS OF BULK AT MOST 1048576: true; the input reads as it did. -/
def fnExactSaidUptoRow : OpenClaim := { program := "ytclmdlopefbpbaa", sum := "cb6535d937fe9368c7791bb05035ee7dcb861253ea2d88f5f9ce3f6aaae7754f", func := "loop.example/g00645/laws.FnExactSaid", spec := "fnExactSaid", recurses := true, apart := false, narrowed := true }
def FnExactSaidUptoSaid : Prop := fnExactSaidUptoRow.holds Try.pinned (OpenSpec.upto fnExactSaidSpec)

/-- 'laws.FnExactDone', WHERE WHAT IT READS IS OF BULK AT MOST 1048576: true; the input reads as it did. -/
def fnExactDoneUptoRow : OpenClaim := { program := "ytclmdlopefbpbaa", sum := "cb6535d937fe9368c7791bb05035ee7dcb861253ea2d88f5f9ce3f6aaae7754f", func := "loop.example/g00645/laws.FnExactDone", spec := "fnExactDone", recurses := true, apart := false, narrowed := true }
def FnExactDoneUptoSaid : Prop := fnExactDoneUptoRow.holds Try.pinned (OpenSpec.upto fnExactDoneSpec)

/-- 'laws.FnExactAfter', WHERE WHAT IT READS IS OF BULK AT MOST 1048576: true; the input reads as it did. -/
def fnExactAfterUptoRow : OpenClaim := { program := "ytclmdlopefbpbaa", sum := "cb6535d937fe9368c7791bb05035ee7dcb861253ea2d88f5f9ce3f6aaae7754f", func := "loop.example/g00645/laws.FnExactAfter", spec := "fnExactAfter", recurses := true, apart := false, narrowed := true }
def FnExactAfterUptoSaid : Prop := fnExactAfterUptoRow.holds Try.pinned (OpenSpec.upto fnExactAfterSpec)

/-- 'laws.FnExactClosure', WHERE WHAT IT READS IS OF BULK AT MOST 1048576: true; the input reads as it did. -/
def fnExactClosureUptoRow : OpenClaim := { program := "ytclmdlopefbpbaa", sum := "cb6535d937fe9368c7791bb05035ee7dcb861253ea2d88f5f9ce3f6aaae7754f", func := "loop.example/g00645/laws.FnExactClosure", spec := "fnExactClosure", unfollowed := true, recurses := true, apart := false, narrowed := true }
def FnExactClosureUptoSaid : Prop := fnExactClosureUptoRow.holds Try.pinned (OpenSpec.upto fnExactClosureSpec)

/-- 'laws.FnExactSureTaken', WHERE WHAT IT READS IS OF BULK AT MOST 1048576: true; the input reads as it did. -/
def fnExactSureTakenUptoRow : OpenClaim := { program := "ytclmdlopefbpbaa", sum := "cb6535d937fe9368c7791bb05035ee7dcb861253ea2d88f5f9ce3f6aaae7754f", func := "loop.example/g00645/laws.FnExactSureTaken", spec := "fnExactSureTaken", unfollowed := true, recurses := true, apart := false, narrowed := true }
def FnExactSureTakenUptoSaid : Prop := fnExactSureTakenUptoRow.holds Try.pinned (OpenSpec.upto fnExactSureTakenSpec)

/-- 'laws.FnExactMaySay', WHERE WHAT IT READS IS OF BULK AT MOST 1048576: true; the input reads as it did. -/
def fnExactMaySayUptoRow : OpenClaim := { program := "ytclmdlopefbpbaa", sum := "cb6535d937fe9368c7791bb05035ee7dcb861253ea2d88f5f9ce3f6aaae7754f", func := "loop.example/g00645/laws.FnExactMaySay", spec := "fnExactMaySay", unfollowed := true, recurses := true, apart := false, narrowed := true }
def FnExactMaySayUptoSaid : Prop := fnExactMaySayUptoRow.holds Try.pinned (OpenSpec.upto fnExactMaySaySpec)

/-- 'laws.FnExactFarAfter', WHERE WHAT IT READS IS OF BULK AT MOST 1048576: true; the input reads as it did. -/
def fnExactFarAfterUptoRow : OpenClaim := { program := "ytclmdlopefbpbaa", sum := "cb6535d937fe9368c7791bb05035ee7dcb861253ea2d88f5f9ce3f6aaae7754f", func := "loop.example/g00645/laws.FnExactFarAfter", spec := "fnExactFarAfter", unfollowed := true, recurses := true, apart := false, narrowed := true }
def FnExactFarAfterUptoSaid : Prop := fnExactFarAfterUptoRow.holds Try.pinned (OpenSpec.upto fnExactFarAfterSpec)

/-- 'laws.FnExactRuns', WHERE WHAT IT READS IS OF BULK AT MOST 1048576: true; the input reads as it did. -/
def fnExactRunsUptoRow : OpenClaim := { program := "ytclmdlopefbpbaa", sum := "cb6535d937fe9368c7791bb05035ee7dcb861253ea2d88f5f9ce3f6aaae7754f", func := "loop.example/g00645/laws.FnExactRuns", spec := "fnExactRuns", unfollowed := true, recurses := true, apart := false, narrowed := true }
def FnExactRunsUptoSaid : Prop := fnExactRunsUptoRow.holds Try.pinned (OpenSpec.upto fnExactRunsSpec)

end Rows
end Go.Proofs.Ytclmdlopefbpbaa
