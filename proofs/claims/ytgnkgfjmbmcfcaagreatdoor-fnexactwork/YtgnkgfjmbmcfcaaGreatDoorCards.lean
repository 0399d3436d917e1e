/-
  DERIVED. GIVEN WITH THE SEED: THE CARDS: each row of YtgnkgfjmbmcfcaaGreatDoorRows.lean that lists a variable, with what it lists TIED to the program's text (the seventh form; the later family's looks); each row that meets fmt, with fmt's text TOLD by the authors' own Lean function (tested against real Go, not proved from fmt's source: count such statements apart). THE CARD IS WHAT COUNTS. Prove the row's statement (the work); the ties are given (YtgnkgfjmbmcfcaaGreatDoorTie.lean); close each card by the builder's one call (the guide's Derived/Test/ToyasCard.lean, 'card_holds'). Laid BY PROGRAM, IN A SANDBOX (cutbox-door.mjs). By AI agents, Wed Nov 11 2026. No macro, syntax, notation, axiom, sorry.
-/
import Derived.Test.YtgnkgfjmbmcfcaaGreatDoorRows
import GoSem.ClaimSeven
namespace Go.Proofs.YtgnkgfjmbmcfcaaGreatDoor
namespace Rows

/-- THE TIED CARD OF 'laws.FnExactWork'. -/
def fnExactWorkCard : Claim7 := { stood := { row := fnExactWorkRow, standIns := [], harness := (true, "cccb5267c5adcc1c0ce2b60d1b947a0a06a0556cbee374b8b69a27b99bdf6988"), looks := true }, kinds := [], alts := [], laidByText := true, laidKinds := [.data, .data, .data], laidTests := true, laidLooks := .later }
def FnExactWorkCardSaid : Prop := Claim7.holds Tryz.pinned (.plain (OpenSpec.ofChange fnExactWorkSpec)) fnExactWorkCard

/-- THE SECOND FORM's CARD OF 'laws.FnExactWork'. -/
def fnExactWorkUptoCard : Claim7 := { stood := { row := fnExactWorkUptoRow, standIns := [], harness := (true, "cccb5267c5adcc1c0ce2b60d1b947a0a06a0556cbee374b8b69a27b99bdf6988"), looks := true }, kinds := [], alts := [], laidByText := true, laidKinds := [.data, .data, .data], laidTests := true, laidLooks := .later }
def FnExactWorkUptoCardSaid : Prop := Claim7.holds Tryz.pinned (.plain (OpenSpec.upto fnExactWorkSpec)) fnExactWorkUptoCard
end Rows
end Go.Proofs.YtgnkgfjmbmcfcaaGreatDoor
