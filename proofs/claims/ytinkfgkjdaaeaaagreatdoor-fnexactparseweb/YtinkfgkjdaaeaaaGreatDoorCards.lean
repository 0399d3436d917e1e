/-
  DERIVED. GIVEN WITH THE SEED: THE CARDS: each row of YtinkfgkjdaaeaaaGreatDoorRows.lean that lists a variable, with what it lists TIED to the program's text (the seventh form; the later family's looks); each row that meets fmt, with fmt's text TOLD by the authors' own Lean function (tested against real Go, not proved from fmt's source: count such statements apart). THE CARD IS WHAT COUNTS. Prove the row's statement (the work); the ties are given (YtinkfgkjdaaeaaaGreatDoorTie.lean); close each card by the builder's one call (the guide's Derived/Test/ToyasCard.lean, 'card_holds'). Laid BY PROGRAM, IN A SANDBOX (cutbox-door.mjs). By AI agents, Wed Nov 11 2026. No macro, syntax, notation, axiom, sorry.
-/
import Derived.Test.YtinkfgkjdaaeaaaGreatDoorRows
import GoSem.ClaimSeven
namespace Go.Proofs.YtinkfgkjdaaeaaaGreatDoor
namespace Rows

/-- THE TIED CARD OF 'laws.FnExactParseWeb'. -/
def fnExactParseWebCard : Claim7 := { stood := { row := fnExactParseWebRow, standIns := [], harness := (true, "8f4e750ef32d7d7f7e9f1cc420dc18b7f17fe2b9864e3fba94f8838324a2629f"), looks := true }, kinds := [], alts := [], laidByText := true, laidKinds := [.data, .data, .data, .data, .handle, .sentinel, .sentinel, .sentinel, .sentinel, .sentinel, .sentinel, .sentinel, .sentinel, .pinned], laidTests := true, laidLooks := .later }
def FnExactParseWebCardSaid : Prop := Claim7.holds Tryz.pinned (.plain (OpenSpec.ofChange fnExactParseWebSpec)) fnExactParseWebCard

/-- THE SECOND FORM's CARD OF 'laws.FnExactParseWeb'. -/
def fnExactParseWebUptoCard : Claim7 := { stood := { row := fnExactParseWebUptoRow, standIns := [], harness := (true, "8f4e750ef32d7d7f7e9f1cc420dc18b7f17fe2b9864e3fba94f8838324a2629f"), looks := true }, kinds := [], alts := [], laidByText := true, laidKinds := [.data, .data, .data, .data, .handle, .sentinel, .sentinel, .sentinel, .sentinel, .sentinel, .sentinel, .sentinel, .sentinel, .pinned], laidTests := true, laidLooks := .later }
def FnExactParseWebUptoCardSaid : Prop := Claim7.holds Tryz.pinned (.plain (OpenSpec.upto fnExactParseWebSpec)) fnExactParseWebUptoCard
end Rows
end Go.Proofs.YtinkfgkjdaaeaaaGreatDoor
