/-
  No cell of these rows narrows 'for every input' (looked for: loops, veiled, ifaces, maps, wideKeys, modest, calm, conditions, laid).
  DERIVED. THE GIVEN ROWS OF THIS SEAT. 4 by the template 'for every input the law returns true; each argument reads behind the call as it read before'; 0 by the template 'total and deterministic' (their statements: YtfhfmblghihinabTotals.lean).
  GIVEN WITH THE SEED: the statements are not yours to turn. If you find one false, say at which input.
  Laid BY PROGRAM, IN A SANDBOX (cutbox-rows.mjs): the forced cells as the released guide's own fill.sh prints them over the translation 75d522a06bfca779… (all of the seat's roots in one cut). By AI agents, Wed Nov 11 2026. No macro, syntax, notation, axiom, sorry.
-/
import Derived.Test.YtfhfmblghihinabChecked
import GoSem.Claim
import GoSem.ClaimJoined
import GoSem.ClaimMapViews
import Derived.JoinedTies
import Derived.KernelRfl
namespace Go.Proofs.Ytfhfmblghihinab
/- THE CELL 'sum', in the pinned program and in every row, IS THE sha256 OF THE DUMP (.gsa) THAT YtfhfmblghihinabProg.lean LOADS. Nothing in Lean hashes anything: it is a label: what it is worth is what the hold of that sum in a sandbox is worth. -/
noncomputable def Try.pinned : Pinned := { name := "ytfhfmblghihinab", sum := "75d522a06bfca779ebeba579ac00d6b36a2ce550b25989d0f9ce8c60b4d61862", checked := Try.checked }
namespace Rows
def none {H : Type} : Left H := { results := [], args := [] }

/-- 'laws.FnExactSureTaken': WHATEVER THE INPUT: true; the input reads as it did. -/
def fnExactSureTakenSpec : ChangeSpec := { name := "fnExactSureTaken", fn := fun _ => fun
  | [d1, d2] => { results := [.lit (.bool true)], args := [d1, d2] }
  | _ => none }
def fnExactSureTakenRow : OpenClaim := { program := "ytfhfmblghihinab", sum := "75d522a06bfca779ebeba579ac00d6b36a2ce550b25989d0f9ce8c60b4d61862", func := "loop.example/g00645/laws.FnExactSureTaken", spec := "fnExactSureTaken", unfollowed := true, recurses := true, apart := false }
def FnExactSureTakenSaid : Prop := fnExactSureTakenRow.holds Try.pinned (OpenSpec.ofChange fnExactSureTakenSpec)

/-- ITS FALSE NEIGHBOUR: 'it returns false'. Refute it at one input. -/
def fnExactSureTakenWrong : ChangeSpec := { name := "fnExactSureTaken", fn := fun _ => fun
  | [d1, d2] => { results := [.lit (.bool false)], args := [d1, d2] }
  | _ => none }
def FnExactSureTakenWrongFalsely : Prop := fnExactSureTakenRow.holds Try.pinned (OpenSpec.ofChange fnExactSureTakenWrong)

/-- 'laws.FnExactMaySay': WHATEVER THE INPUT: true; the input reads as it did. -/
def fnExactMaySaySpec : ChangeSpec := { name := "fnExactMaySay", fn := fun _ => fun
  | [d1, d2] => { results := [.lit (.bool true)], args := [d1, d2] }
  | _ => none }
def fnExactMaySayRow : OpenClaim := { program := "ytfhfmblghihinab", sum := "75d522a06bfca779ebeba579ac00d6b36a2ce550b25989d0f9ce8c60b4d61862", func := "loop.example/g00645/laws.FnExactMaySay", spec := "fnExactMaySay", unfollowed := true, recurses := true, apart := false }
def FnExactMaySaySaid : Prop := fnExactMaySayRow.holds Try.pinned (OpenSpec.ofChange fnExactMaySaySpec)

/-- ITS FALSE NEIGHBOUR: 'it returns false'. Refute it at one input. -/
def fnExactMaySayWrong : ChangeSpec := { name := "fnExactMaySay", fn := fun _ => fun
  | [d1, d2] => { results := [.lit (.bool false)], args := [d1, d2] }
  | _ => none }
def FnExactMaySayWrongFalsely : Prop := fnExactMaySayRow.holds Try.pinned (OpenSpec.ofChange fnExactMaySayWrong)

/-- 'laws.FnExactFarAfter': WHATEVER THE INPUT: true; the input reads as it did. -/
def fnExactFarAfterSpec : ChangeSpec := { name := "fnExactFarAfter", fn := fun _ => fun
  | [d1, d2, d3] => { results := [.lit (.bool true)], args := [d1, d2, d3] }
  | _ => none }
def fnExactFarAfterRow : OpenClaim := { program := "ytfhfmblghihinab", sum := "75d522a06bfca779ebeba579ac00d6b36a2ce550b25989d0f9ce8c60b4d61862", func := "loop.example/g00645/laws.FnExactFarAfter", spec := "fnExactFarAfter", unfollowed := true, recurses := true, apart := false }
def FnExactFarAfterSaid : Prop := fnExactFarAfterRow.holds Try.pinned (OpenSpec.ofChange fnExactFarAfterSpec)

/-- ITS FALSE NEIGHBOUR: 'it returns false'. Refute it at one input. -/
def fnExactFarAfterWrong : ChangeSpec := { name := "fnExactFarAfter", fn := fun _ => fun
  | [d1, d2, d3] => { results := [.lit (.bool false)], args := [d1, d2, d3] }
  | _ => none }
def FnExactFarAfterWrongFalsely : Prop := fnExactFarAfterRow.holds Try.pinned (OpenSpec.ofChange fnExactFarAfterWrong)

/-- 'laws.FnUnseen': WHATEVER THE INPUT: true; the input reads as it did. -/
def fnUnseenSpec : ChangeSpec := { name := "fnUnseen", fn := fun _ => fun
  | [d] => { results := [.lit (.bool true)], args := [d] }
  | _ => none }
def fnUnseenRow : OpenClaim := { program := "ytfhfmblghihinab", sum := "75d522a06bfca779ebeba579ac00d6b36a2ce550b25989d0f9ce8c60b4d61862", func := "loop.example/g00645/laws.FnUnseen", spec := "fnUnseen", unfollowed := true, recurses := true, apart := false }
def FnUnseenSaid : Prop := fnUnseenRow.holds Try.pinned (OpenSpec.ofChange fnUnseenSpec)

/-- ITS FALSE NEIGHBOUR: 'it returns false'. Refute it at one input. -/
def fnUnseenWrong : ChangeSpec := { name := "fnUnseen", fn := fun _ => fun
  | [d] => { results := [.lit (.bool false)], args := [d] }
  | _ => none }
def FnUnseenWrongFalsely : Prop := fnUnseenRow.holds Try.pinned (OpenSpec.ofChange fnUnseenWrong)

/- THE SECOND FORM. 'bulk': how many values and letters a reading holds, each counted each time it is reached (what is shared counts as often as it is met; a slice's spare places count too). A statement '..UptoSaid' is the law's where the arguments, and the package variables that the reading takes, are together of bulk at most 1048576: NARROWER than '..Said'. Prove '..Said' where nothing that the law and all that it calls make is longer than what came in: it says more and counts as full. Else prove '..UptoSaid'. A law counts once. -/
mutual
def uptoBulk {H : Type} : DataW H → Nat
  | .lit (.string bytes) => bytes.length + 1
  | .lit _ => 1
  | .nil => 1
  | .ptr d => uptoBulk d + 1
  | .slice elems spare => uptoBulkAll elems + uptoBulkAll spare + 1
  | .agg parts => uptoBulkAll parts + 1
  | .iface _ d => uptoBulk d + 1
  | .map entries => uptoBulkEntries entries + 1
  | .held _ => 1
def uptoBulkAll {H : Type} : List (DataW H) → Nat
  | [] => 0
  | d :: r => uptoBulk d + uptoBulkAll r
def uptoBulkEntries {H : Type} : List (Lit × DataW H) → Nat
  | [] => 0
  | x :: r => uptoBulkEntry x + uptoBulkEntries r
def uptoBulkEntry {H : Type} : Lit × DataW H → Nat
  | (.string bytes, d) => bytes.length + uptoBulk d + 1
  | (_, d) => uptoBulk d + 1
 end
def uptoSmall : (H : Type) → List (DataW H) → Bool := fun _ ds => decide (uptoBulkAll ds ≤ 1048576)
def OpenSpec.upto (s : _root_.Go.ChangeSpec) : _root_.Go.OpenSpec := { _root_.Go.OpenSpec.ofChange s with cond := some uptoSmall }

/-- 'laws.FnExactSureTaken', WHERE WHAT IT READS IS OF BULK AT MOST 1048576: true; the input reads as it did. -/
def fnExactSureTakenUptoRow : OpenClaim := { program := "ytfhfmblghihinab", sum := "75d522a06bfca779ebeba579ac00d6b36a2ce550b25989d0f9ce8c60b4d61862", func := "loop.example/g00645/laws.FnExactSureTaken", spec := "fnExactSureTaken", unfollowed := true, recurses := true, apart := false, narrowed := true }
def FnExactSureTakenUptoSaid : Prop := fnExactSureTakenUptoRow.holds Try.pinned (OpenSpec.upto fnExactSureTakenSpec)

/-- 'laws.FnExactMaySay', WHERE WHAT IT READS IS OF BULK AT MOST 1048576: true; the input reads as it did. -/
def fnExactMaySayUptoRow : OpenClaim := { program := "ytfhfmblghihinab", sum := "75d522a06bfca779ebeba579ac00d6b36a2ce550b25989d0f9ce8c60b4d61862", func := "loop.example/g00645/laws.FnExactMaySay", spec := "fnExactMaySay", unfollowed := true, recurses := true, apart := false, narrowed := true }
def FnExactMaySayUptoSaid : Prop := fnExactMaySayUptoRow.holds Try.pinned (OpenSpec.upto fnExactMaySaySpec)

/-- 'laws.FnExactFarAfter', WHERE WHAT IT READS IS OF BULK AT MOST 1048576: true; the input reads as it did. -/
def fnExactFarAfterUptoRow : OpenClaim := { program := "ytfhfmblghihinab", sum := "75d522a06bfca779ebeba579ac00d6b36a2ce550b25989d0f9ce8c60b4d61862", func := "loop.example/g00645/laws.FnExactFarAfter", spec := "fnExactFarAfter", unfollowed := true, recurses := true, apart := false, narrowed := true }
def FnExactFarAfterUptoSaid : Prop := fnExactFarAfterUptoRow.holds Try.pinned (OpenSpec.upto fnExactFarAfterSpec)

/-- 'laws.FnUnseen', WHERE WHAT IT READS IS OF BULK AT MOST 1048576: true; the input reads as it did. -/
def fnUnseenUptoRow : OpenClaim := { program := "ytfhfmblghihinab", sum := "75d522a06bfca779ebeba579ac00d6b36a2ce550b25989d0f9ce8c60b4d61862", func := "loop.example/g00645/laws.FnUnseen", spec := "fnUnseen", unfollowed := true, recurses := true, apart := false, narrowed := true }
def FnUnseenUptoSaid : Prop := fnUnseenUptoRow.holds Try.pinned (OpenSpec.upto fnUnseenSpec)

end Rows
end Go.Proofs.Ytfhfmblghihinab
