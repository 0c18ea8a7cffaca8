/-
  DERIVED. GIVEN WITH THE SEED: THE CARDS: each row of YtkkiiffhfjkoaaaGreatDoorRows.lean that lists a variable, with what it lists TIED to the program's text (the seventh form; the later family's looks); each row that meets fmt, with fmt's text TOLD by the authors' own Lean function (tested against real Go, not proved from fmt's source: count such statements apart). THE CARD IS WHAT COUNTS. Prove the row's statement (the work); the ties are given (YtkkiiffhfjkoaaaGreatDoorTie.lean); close each card by the builder's one call (the guide's Derived/Test/ToyasCard.lean, 'card_holds'). Laid BY PROGRAM, IN A SANDBOX (cutbox-door.mjs). By AI agents, Wed Nov 11 2026. No macro, syntax, notation, axiom, sorry.
-/
import Derived.Test.YtkkiiffhfjkoaaaGreatDoorRows
import GoSem.ClaimSeven
namespace Go.Proofs.YtkkiiffhfjkoaaaGreatDoor
namespace Rows

/-- THE TIED CARD OF 'laws.FnExactPrintSystem'. -/
def fnExactPrintSystemCard : Claim7 := { stood := { row := fnExactPrintSystemRow, standIns := [], harness := (true, "e646631fbabdfccbd659be0637e4376b619bfeae3efe59ee702e6ab4d1c2c4aa"), looks := true }, kinds := [], alts := [], laidByText := true, laidKinds := [.data, .data, .data, .data, .data], laidTests := true, laidLooks := .later }
def FnExactPrintSystemCardSaid : Prop := Claim7.holds Tryz.pinned (.plain (OpenSpec.ofChange fnExactPrintSystemSpec)) fnExactPrintSystemCard

/-- THE SECOND FORM's CARD OF 'laws.FnExactPrintSystem'. -/
def fnExactPrintSystemUptoCard : Claim7 := { stood := { row := fnExactPrintSystemUptoRow, standIns := [], harness := (true, "e646631fbabdfccbd659be0637e4376b619bfeae3efe59ee702e6ab4d1c2c4aa"), looks := true }, kinds := [], alts := [], laidByText := true, laidKinds := [.data, .data, .data, .data, .data], laidTests := true, laidLooks := .later }
def FnExactPrintSystemUptoCardSaid : Prop := Claim7.holds Tryz.pinned (.plain (OpenSpec.upto fnExactPrintSystemSpec)) fnExactPrintSystemUptoCard
end Rows
end Go.Proofs.YtkkiiffhfjkoaaaGreatDoor
