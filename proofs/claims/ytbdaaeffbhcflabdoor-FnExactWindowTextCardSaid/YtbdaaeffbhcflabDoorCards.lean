/-
  DERIVED. GIVEN WITH THE SEED: THE CARDS: each row of YtbdaaeffbhcflabDoorRows.lean that lists a variable, with what it lists TIED to the program's text (the seventh form; the later family's looks); each row that meets fmt, with fmt's text TOLD by the authors' own Lean function (tested against real Go, not proved from fmt's source: count such statements apart). THE CARD IS WHAT COUNTS. Prove the row's statement (the work); the ties are given (YtbdaaeffbhcflabDoorTie.lean); close each card by the builder's one call (the guide's Derived/Test/ToyasCard.lean, 'card_holds'). Laid BY PROGRAM, IN A SANDBOX (cutbox-door.mjs). By AI agents, Wed Nov 11 2026. No macro, syntax, notation, axiom, sorry.
-/
import Derived.Test.YtbdaaeffbhcflabDoorRows
import GoSem.ClaimSeven
namespace Go.Proofs.YtbdaaeffbhcflabDoor
namespace Rows

/-- THE TIED CARD OF 'laws.FnExactWindowText'. -/
def fnExactWindowTextCard : Claim7 := { stood := { row := fnExactWindowTextRow, standIns := [], harness := (true, "053742fc194b5e9d6ac9dea97e8f77005141ab13a8707a9689f18c58759fc6e3"), looks := false }, kinds := [], alts := [], laidByText := true, laidKinds := [.data, .data, .data], laidTests := true, laidLooks := .later }
def FnExactWindowTextCardSaid : Prop := Claim7.holds Tryd.pinned (.plain (OpenSpec.ofChange fnExactWindowTextSpec)) fnExactWindowTextCard

/-- THE SECOND FORM's CARD OF 'laws.FnExactWindowText'. -/
def fnExactWindowTextUptoCard : Claim7 := { stood := { row := fnExactWindowTextUptoRow, standIns := [], harness := (true, "053742fc194b5e9d6ac9dea97e8f77005141ab13a8707a9689f18c58759fc6e3"), looks := false }, kinds := [], alts := [], laidByText := true, laidKinds := [.data, .data, .data], laidTests := true, laidLooks := .later }
def FnExactWindowTextUptoCardSaid : Prop := Claim7.holds Tryd.pinned (.plain (OpenSpec.upto fnExactWindowTextSpec)) fnExactWindowTextUptoCard
end Rows
end Go.Proofs.YtbdaaeffbhcflabDoor
