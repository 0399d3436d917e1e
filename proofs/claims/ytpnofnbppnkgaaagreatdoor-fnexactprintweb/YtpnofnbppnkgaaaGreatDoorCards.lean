/-
  DERIVED. GIVEN WITH THE SEED: THE CARDS: each row of YtpnofnbppnkgaaaGreatDoorRows.lean that lists a variable, with what it lists TIED to the program's text (the seventh form; the later family's looks); each row that meets fmt, with fmt's text TOLD by the authors' own Lean function (tested against real Go, not proved from fmt's source: count such statements apart). THE CARD IS WHAT COUNTS. Prove the row's statement (the work); the ties are given (YtpnofnbppnkgaaaGreatDoorTie.lean); close each card by the builder's one call (the guide's Derived/Test/ToyasCard.lean, 'card_holds'). Laid BY PROGRAM, IN A SANDBOX (cutbox-door.mjs). By AI agents, Wed Nov 11 2026. No macro, syntax, notation, axiom, sorry.
-/
import Derived.Test.YtpnofnbppnkgaaaGreatDoorRows
import GoSem.ClaimSeven
namespace Go.Proofs.YtpnofnbppnkgaaaGreatDoor
namespace Rows

/-- THE TIED CARD OF 'laws.FnExactPrintWeb'. -/
def fnExactPrintWebCard : Claim7 := { stood := { row := fnExactPrintWebRow, standIns := [], harness := (true, "12219a9c34f849a13fdb246d69480e79035df4d5a183c840a0843d28dae18169"), looks := true }, kinds := [], alts := [], laidByText := true, laidKinds := [.data, .data, .data], laidTests := true, laidLooks := .later }
def FnExactPrintWebCardSaid : Prop := Claim7.holds Tryz.pinned (.plain (OpenSpec.ofChange fnExactPrintWebSpec)) fnExactPrintWebCard

/-- THE SECOND FORM's CARD OF 'laws.FnExactPrintWeb'. -/
def fnExactPrintWebUptoCard : Claim7 := { stood := { row := fnExactPrintWebUptoRow, standIns := [], harness := (true, "12219a9c34f849a13fdb246d69480e79035df4d5a183c840a0843d28dae18169"), looks := true }, kinds := [], alts := [], laidByText := true, laidKinds := [.data, .data, .data], laidTests := true, laidLooks := .later }
def FnExactPrintWebUptoCardSaid : Prop := Claim7.holds Tryz.pinned (.plain (OpenSpec.upto fnExactPrintWebSpec)) fnExactPrintWebUptoCard
end Rows
end Go.Proofs.YtpnofnbppnkgaaaGreatDoor
