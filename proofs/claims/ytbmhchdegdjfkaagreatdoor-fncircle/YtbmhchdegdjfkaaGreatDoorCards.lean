/-
  DERIVED. GIVEN WITH THE SEED: THE CARDS: each row of YtbmhchdegdjfkaaGreatDoorRows.lean that lists a variable, with what it lists TIED to the program's text (the seventh form; the later family's looks); each row that meets fmt, with fmt's text TOLD by the authors' own Lean function (tested against real Go, not proved from fmt's source: count such statements apart). THE CARD IS WHAT COUNTS. Prove the row's statement (the work); the ties are given (YtbmhchdegdjfkaaGreatDoorTie.lean); close each card by the builder's one call (the guide's Derived/Test/ToyasCard.lean, 'card_holds'). Laid BY PROGRAM, IN A SANDBOX (cutbox-door.mjs). By AI agents, Wed Nov 11 2026. No macro, syntax, notation, axiom, sorry.
-/
import Derived.Test.YtbmhchdegdjfkaaGreatDoorRows
import GoSem.ClaimSeven
namespace Go.Proofs.YtbmhchdegdjfkaaGreatDoor
namespace Rows

/-- THE TIED CARD OF 'laws.FnCircle'. -/
def fnCircleCard : Claim7 := { stood := { row := fnCircleRow, standIns := [], harness := (true, "d1c3d55472f49f213d63bc54925a2b43aec595c8149db301a2d065316221b152"), looks := true }, kinds := [], alts := [], laidByText := true, laidKinds := [.data, .data, .data], laidTests := true, laidLooks := .later }
def FnCircleCardSaid : Prop := Claim7.holds Tryz.pinned (.plain (OpenSpec.ofChange fnCircleSpec)) fnCircleCard

/-- THE TIED CARD OF 'laws.FnWhy'. -/
def fnWhyCard : Claim7 := { stood := { row := fnWhyRow, standIns := [], harness := (true, "d1c3d55472f49f213d63bc54925a2b43aec595c8149db301a2d065316221b152"), looks := true }, kinds := [], alts := [], laidByText := true, laidKinds := [.data, .data, .data], laidTests := true, laidLooks := .later }
def FnWhyCardSaid : Prop := Claim7.holds Tryz.pinned (.plain (OpenSpec.ofChange fnWhySpec)) fnWhyCard

/-- THE SECOND FORM's CARD OF 'laws.FnCircle'. -/
def fnCircleUptoCard : Claim7 := { stood := { row := fnCircleUptoRow, standIns := [], harness := (true, "d1c3d55472f49f213d63bc54925a2b43aec595c8149db301a2d065316221b152"), looks := true }, kinds := [], alts := [], laidByText := true, laidKinds := [.data, .data, .data], laidTests := true, laidLooks := .later }
def FnCircleUptoCardSaid : Prop := Claim7.holds Tryz.pinned (.plain (OpenSpec.upto fnCircleSpec)) fnCircleUptoCard

/-- THE SECOND FORM's CARD OF 'laws.FnWhy'. -/
def fnWhyUptoCard : Claim7 := { stood := { row := fnWhyUptoRow, standIns := [], harness := (true, "d1c3d55472f49f213d63bc54925a2b43aec595c8149db301a2d065316221b152"), looks := true }, kinds := [], alts := [], laidByText := true, laidKinds := [.data, .data, .data], laidTests := true, laidLooks := .later }
def FnWhyUptoCardSaid : Prop := Claim7.holds Tryz.pinned (.plain (OpenSpec.upto fnWhySpec)) fnWhyUptoCard
end Rows
end Go.Proofs.YtbmhchdegdjfkaaGreatDoor
