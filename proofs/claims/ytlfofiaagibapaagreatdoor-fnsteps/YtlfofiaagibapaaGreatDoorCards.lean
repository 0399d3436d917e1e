/-
  DERIVED. GIVEN WITH THE SEED: THE CARDS: each row of YtlfofiaagibapaaGreatDoorRows.lean that lists a variable, with what it lists TIED to the program's text (the seventh form; the later family's looks); each row that meets fmt, with fmt's text TOLD by the authors' own Lean function (tested against real Go, not proved from fmt's source: count such statements apart). THE CARD IS WHAT COUNTS. Prove the row's statement (the work); the ties are given (YtlfofiaagibapaaGreatDoorTie.lean); close each card by the builder's one call (the guide's Derived/Test/ToyasCard.lean, 'card_holds'). Laid BY PROGRAM, IN A SANDBOX (cutbox-door.mjs). By AI agents, Wed Nov 11 2026. No macro, syntax, notation, axiom, sorry.
-/
import Derived.Test.YtlfofiaagibapaaGreatDoorRows
import GoSem.ClaimSeven
namespace Go.Proofs.YtlfofiaagibapaaGreatDoor
namespace Rows

/-- THE TIED CARD OF 'laws.FnElse'. -/
def fnElseCard : Claim7 := { stood := { row := fnElseRow, standIns := [], harness := (true, "68844f90aa80b05c471c23b0bdea9ae5e4d1b64e8db64bb0bcecb5c8d6b7afc8"), looks := true }, kinds := [], alts := [], laidByText := true, laidKinds := [.data, .data, .data], laidTests := true, laidLooks := .later }
def FnElseCardSaid : Prop := Claim7.holds Tryz.pinned (.plain (OpenSpec.ofChange fnElseSpec)) fnElseCard

/-- THE TIED CARD OF 'laws.FnSteps'. -/
def fnStepsCard : Claim7 := { stood := { row := fnStepsRow, standIns := [], harness := (true, "68844f90aa80b05c471c23b0bdea9ae5e4d1b64e8db64bb0bcecb5c8d6b7afc8"), looks := true }, kinds := [], alts := [], laidByText := true, laidKinds := [.data, .data, .data], laidTests := true, laidLooks := .later }
def FnStepsCardSaid : Prop := Claim7.holds Tryz.pinned (.plain (OpenSpec.ofChange fnStepsSpec)) fnStepsCard

/-- THE SECOND FORM's CARD OF 'laws.FnElse'. -/
def fnElseUptoCard : Claim7 := { stood := { row := fnElseUptoRow, standIns := [], harness := (true, "68844f90aa80b05c471c23b0bdea9ae5e4d1b64e8db64bb0bcecb5c8d6b7afc8"), looks := true }, kinds := [], alts := [], laidByText := true, laidKinds := [.data, .data, .data], laidTests := true, laidLooks := .later }
def FnElseUptoCardSaid : Prop := Claim7.holds Tryz.pinned (.plain (OpenSpec.upto fnElseSpec)) fnElseUptoCard

/-- THE SECOND FORM's CARD OF 'laws.FnSteps'. -/
def fnStepsUptoCard : Claim7 := { stood := { row := fnStepsUptoRow, standIns := [], harness := (true, "68844f90aa80b05c471c23b0bdea9ae5e4d1b64e8db64bb0bcecb5c8d6b7afc8"), looks := true }, kinds := [], alts := [], laidByText := true, laidKinds := [.data, .data, .data], laidTests := true, laidLooks := .later }
def FnStepsUptoCardSaid : Prop := Claim7.holds Tryz.pinned (.plain (OpenSpec.upto fnStepsSpec)) fnStepsUptoCard
end Rows
end Go.Proofs.YtlfofiaagibapaaGreatDoor
