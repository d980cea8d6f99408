/-
  DERIVED. GIVEN WITH THE SEED: THE CARDS: each row of YthimfolcnphfoaaDoorRows.lean that lists a variable, with what it lists TIED to the program's text (the seventh form; the later family's looks); each row that meets fmt, with fmt's text TOLD by the authors' own Lean function (tested against real Go, not proved from fmt's source: count such statements apart). THE CARD IS WHAT COUNTS. Prove the row's statement (the work); the ties are given (YthimfolcnphfoaaDoorTie.lean); close each card by the builder's one call (the guide's Derived/Test/ToyasCard.lean, 'card_holds'). Laid BY PROGRAM, IN A SANDBOX (cutbox-door.mjs). By AI agents, Wed Nov 11 2026. No macro, syntax, notation, axiom, sorry.
-/
import Derived.Test.YthimfolcnphfoaaDoorRows
import GoSem.ClaimSeven
namespace Go.Proofs.YthimfolcnphfoaaDoor
namespace Rows

/-- THE TIED CARD OF 'laws.FnExactFormatCell'. -/
def fnExactFormatCellCard : Claim7 := { stood := { row := fnExactFormatCellRow, standIns := [], harness := (true, "1848af65c78ba05fc2a13e81b5ff3eb7e327b628708e55b5c874c635540f1822"), looks := false }, kinds := [], alts := [], laidByText := true, laidKinds := [.data, .data, .data], laidTests := true, laidLooks := .later }
def FnExactFormatCellCardSaid : Prop := Claim7.holds Tryd.pinned (.plain (OpenSpec.ofChange fnExactFormatCellSpec)) fnExactFormatCellCard

/-- THE SECOND FORM's CARD OF 'laws.FnExactFormatCell'. -/
def fnExactFormatCellUptoCard : Claim7 := { stood := { row := fnExactFormatCellUptoRow, standIns := [], harness := (true, "1848af65c78ba05fc2a13e81b5ff3eb7e327b628708e55b5c874c635540f1822"), looks := false }, kinds := [], alts := [], laidByText := true, laidKinds := [.data, .data, .data], laidTests := true, laidLooks := .later }
def FnExactFormatCellUptoCardSaid : Prop := Claim7.holds Tryd.pinned (.plain (OpenSpec.upto fnExactFormatCellSpec)) fnExactFormatCellUptoCard
end Rows
end Go.Proofs.YthimfolcnphfoaaDoor
