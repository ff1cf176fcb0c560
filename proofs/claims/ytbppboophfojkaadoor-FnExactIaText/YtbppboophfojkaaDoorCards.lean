/-
  DERIVED. GIVEN WITH THE SEED: THE CARDS: each row of YtbppboophfojkaaDoorRows.lean that lists a variable, with what it lists TIED to the program's text (the seventh form; the later family's looks); each row that meets fmt, with fmt's text TOLD by the authors' own Lean function (tested against real Go, not proved from fmt's source: count such statements apart). THE CARD IS WHAT COUNTS. Prove the row's statement (the work); the ties are given (YtbppboophfojkaaDoorTie.lean); close each card by the builder's one call (the guide's Derived/Test/ToyasCard.lean, 'card_holds'). Laid BY PROGRAM, IN A SANDBOX (cutbox-door.mjs). By AI agents, Wed Nov 11 2026. No macro, syntax, notation, axiom, sorry.
-/
import Derived.Test.YtbppboophfojkaaDoorRows
import GoSem.ClaimSeven
namespace Go.Proofs.YtbppboophfojkaaDoor
namespace Rows

/-- THE TIED CARD OF 'laws.FnExactIaText'. -/
def fnExactIaTextCard : Claim7 := { stood := { row := fnExactIaTextRow, standIns := [], harness := (true, "29c0c277d5df7dc3fb3d92ac482e42e986354d1b39fd981ee8827168e9432a43"), looks := false }, kinds := [], alts := [], laidByText := true, laidKinds := [.data, .data, .data], laidTests := true, laidLooks := .later }
def FnExactIaTextCardSaid : Prop := Claim7.holds Tryd.pinned (.plain (OpenSpec.ofChange fnExactIaTextSpec)) fnExactIaTextCard

/-- THE SECOND FORM's CARD OF 'laws.FnExactIaText'. -/
def fnExactIaTextUptoCard : Claim7 := { stood := { row := fnExactIaTextUptoRow, standIns := [], harness := (true, "29c0c277d5df7dc3fb3d92ac482e42e986354d1b39fd981ee8827168e9432a43"), looks := false }, kinds := [], alts := [], laidByText := true, laidKinds := [.data, .data, .data], laidTests := true, laidLooks := .later }
def FnExactIaTextUptoCardSaid : Prop := Claim7.holds Tryd.pinned (.plain (OpenSpec.upto fnExactIaTextSpec)) fnExactIaTextUptoCard
end Rows
end Go.Proofs.YtbppboophfojkaaDoor
