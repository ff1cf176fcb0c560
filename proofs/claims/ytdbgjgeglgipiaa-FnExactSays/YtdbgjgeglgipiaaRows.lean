/-
  No cell of these rows narrows 'for every input' (looked for: loops, veiled, ifaces, maps, wideKeys, modest, calm, conditions, laid).
  DERIVED. THE GIVEN ROWS OF THIS SEAT. 2 by the template 'for every input the law returns true; each argument reads behind the call as it read before'; 0 by the template 'total and deterministic' (their statements: YtdbgjgeglgipiaaTotals.lean).
  GIVEN WITH THE SEED: the statements are not yours to turn. If you find one false, say at which input.
  Laid BY PROGRAM, IN A SANDBOX (cutbox-rows.mjs): the forced cells as the released guide's own fill.sh prints them over the translation e3413c74f7bade32… (all of the seat's roots in one cut). By AI agents, Wed Nov 11 2026. No macro, syntax, notation, axiom, sorry.
-/
import Derived.Test.YtdbgjgeglgipiaaChecked
import GoSem.Claim
import GoSem.ClaimJoined
import GoSem.ClaimMapViews
import Derived.JoinedTies
import Derived.KernelRfl
namespace Go.Proofs.Ytdbgjgeglgipiaa
/- THE CELL 'sum', in the pinned program and in every row, IS THE sha256 OF THE DUMP (.gsa) THAT YtdbgjgeglgipiaaProg.lean LOADS. Nothing in Lean hashes anything: it is a label: what it is worth is what the hold of that sum in a sandbox is worth. -/
noncomputable def Try.pinned : Pinned := { name := "ytdbgjgeglgipiaa", sum := "e3413c74f7bade32fe47b988c85606eadefeee837d35e0e8a86df2fd1fa6e59d", checked := Try.checked }
namespace Rows
def none {H : Type} : Left H := { results := [], args := [] }

/-- 'laws.FnExactSays': WHATEVER THE INPUT: true; the input reads as it did. -/
def fnExactSaysSpec : ChangeSpec := { name := "fnExactSays", fn := fun _ => fun
  | [d1, d2] => { results := [.lit (.bool true)], args := [d1, d2] }
  | _ => none }
def fnExactSaysRow : OpenClaim := { program := "ytdbgjgeglgipiaa", sum := "e3413c74f7bade32fe47b988c85606eadefeee837d35e0e8a86df2fd1fa6e59d", func := "loop.example/g00645/laws.FnExactSays", spec := "fnExactSays", unfollowed := true, recurses := true, apart := false }
def FnExactSaysSaid : Prop := fnExactSaysRow.holds Try.pinned (OpenSpec.ofChange fnExactSaysSpec)

/-- ITS FALSE NEIGHBOUR: 'it returns false'. Refute it at one input. -/
def fnExactSaysWrong : ChangeSpec := { name := "fnExactSays", fn := fun _ => fun
  | [d1, d2] => { results := [.lit (.bool false)], args := [d1, d2] }
  | _ => none }
def FnExactSaysWrongFalsely : Prop := fnExactSaysRow.holds Try.pinned (OpenSpec.ofChange fnExactSaysWrong)

/-- 'laws.FnExactAllFit': WHATEVER THE INPUT: true; the input reads as it did. -/
def fnExactAllFitSpec : ChangeSpec := { name := "fnExactAllFit", fn := fun _ => fun
  | [d] => { results := [.lit (.bool true)], args := [d] }
  | _ => none }
def fnExactAllFitRow : OpenClaim := { program := "ytdbgjgeglgipiaa", sum := "e3413c74f7bade32fe47b988c85606eadefeee837d35e0e8a86df2fd1fa6e59d", func := "loop.example/g00645/laws.FnExactAllFit", spec := "fnExactAllFit", unfollowed := true, recurses := true, apart := false }
def FnExactAllFitSaid : Prop := fnExactAllFitRow.holds Try.pinned (OpenSpec.ofChange fnExactAllFitSpec)

/-- ITS FALSE NEIGHBOUR: 'it returns false'. Refute it at one input. -/
def fnExactAllFitWrong : ChangeSpec := { name := "fnExactAllFit", fn := fun _ => fun
  | [d] => { results := [.lit (.bool false)], args := [d] }
  | _ => none }
def FnExactAllFitWrongFalsely : Prop := fnExactAllFitRow.holds Try.pinned (OpenSpec.ofChange fnExactAllFitWrong)

/- THE SECOND FORM. 'bulk': how many values and letters a reading holds, each counted each time it is reached (what is shared counts as often as it is met; a slice's spare places count too). A statement '..UptoSaid' is the law's where the arguments, and the package variables that the reading takes, are together of bulk at most 1048576: NARROWER than '..Said'. Prove '..Said' where nothing that the law and all that it calls make is longer than what came in: it says more and counts as full. Else prove '..UptoSaid'. A law counts once. -/
mutual
def uptoBulk {H : Type} : DataW H → Nat
  | .lit (.string bytes) => bytes.length + 1
  | .lit _ => 1
  | .nil => 1
  | .ptr d => uptoBulk d + 1
  | .slice elems spare => uptoBulkAll elems + uptoBulkAll spare + 1
  | .agg parts => uptoBulkAll parts + 1
  | .iface _ d => uptoBulk d + 1
  | .map entries => uptoBulkEntries entries + 1
  | .held _ => 1
def uptoBulkAll {H : Type} : List (DataW H) → Nat
  | [] => 0
  | d :: r => uptoBulk d + uptoBulkAll r
def uptoBulkEntries {H : Type} : List (Lit × DataW H) → Nat
  | [] => 0
  | x :: r => uptoBulkEntry x + uptoBulkEntries r
def uptoBulkEntry {H : Type} : Lit × DataW H → Nat
  | (.string bytes, d) => bytes.length + uptoBulk d + 1
  | (_, d) => uptoBulk d + 1
 end
def uptoSmall : (H : Type) → List (DataW H) → Bool := fun _ ds => decide (uptoBulkAll ds ≤ 1048576)
def OpenSpec.upto (s : _root_.Go.ChangeSpec) : _root_.Go.OpenSpec := { _root_.Go.OpenSpec.ofChange s with cond := some uptoSmall }

/-- 'laws.FnExactSays', WHERE WHAT IT READS IS OF BULK AT MOST 1048576: true; the input reads as it did. -/
def fnExactSaysUptoRow : OpenClaim := { program := "ytdbgjgeglgipiaa", sum := "e3413c74f7bade32fe47b988c85606eadefeee837d35e0e8a86df2fd1fa6e59d", func := "loop.example/g00645/laws.FnExactSays", spec := "fnExactSays", unfollowed := true, recurses := true, apart := false, narrowed := true }
def FnExactSaysUptoSaid : Prop := fnExactSaysUptoRow.holds Try.pinned (OpenSpec.upto fnExactSaysSpec)

/-- 'laws.FnExactAllFit', WHERE WHAT IT READS IS OF BULK AT MOST 1048576: true; the input reads as it did. -/
def fnExactAllFitUptoRow : OpenClaim := { program := "ytdbgjgeglgipiaa", sum := "e3413c74f7bade32fe47b988c85606eadefeee837d35e0e8a86df2fd1fa6e59d", func := "loop.example/g00645/laws.FnExactAllFit", spec := "fnExactAllFit", unfollowed := true, recurses := true, apart := false, narrowed := true }
def FnExactAllFitUptoSaid : Prop := fnExactAllFitUptoRow.holds Try.pinned (OpenSpec.upto fnExactAllFitSpec)

end Rows
end Go.Proofs.Ytdbgjgeglgipiaa
