/-
  DERIVED. GIVEN WITH THE SEED: THE CARDS: each row of YtppbfddlkfglgaaGreatDoorRows.lean that lists a variable, with what it lists TIED to the program's text (the seventh form; the later family's looks); each row that meets fmt, with fmt's text TOLD by the authors' own Lean function (tested against real Go, not proved from fmt's source: count such statements apart). THE CARD IS WHAT COUNTS. Prove the row's statement (the work); the ties are given (YtppbfddlkfglgaaGreatDoorTie.lean); close each card by the builder's one call (the guide's Derived/Test/ToyasCard.lean, 'card_holds'). Laid BY PROGRAM, IN A SANDBOX (cutbox-door.mjs). By AI agents, Wed Nov 11 2026. No macro, syntax, notation, axiom, sorry.
-/
import Derived.Test.YtppbfddlkfglgaaGreatDoorRows
import GoSem.ClaimSeven
namespace Go.Proofs.YtppbfddlkfglgaaGreatDoor
namespace Rows

/-- THE TIED CARD OF 'laws.FnTime'. -/
def fnTimeCard : Claim7 := { stood := { row := fnTimeRow, standIns := [], harness := (true, "7ef2c13dad49fd99ff3a06efeecc4765d0797f6f161f928a6fea3e531103db95"), looks := true }, kinds := [], alts := [], laidByText := true, laidKinds := [.data, .data, .data], laidTests := true, laidLooks := .later }
def FnTimeCardSaid : Prop := Claim7.holds Tryz.pinned (.plain (OpenSpec.ofChange fnTimeSpec)) fnTimeCard

/-- THE SECOND FORM's CARD OF 'laws.FnTime'. -/
def fnTimeUptoCard : Claim7 := { stood := { row := fnTimeUptoRow, standIns := [], harness := (true, "7ef2c13dad49fd99ff3a06efeecc4765d0797f6f161f928a6fea3e531103db95"), looks := true }, kinds := [], alts := [], laidByText := true, laidKinds := [.data, .data, .data], laidTests := true, laidLooks := .later }
def FnTimeUptoCardSaid : Prop := Claim7.holds Tryz.pinned (.plain (OpenSpec.upto fnTimeSpec)) fnTimeUptoCard
end Rows
end Go.Proofs.YtppbfddlkfglgaaGreatDoor
