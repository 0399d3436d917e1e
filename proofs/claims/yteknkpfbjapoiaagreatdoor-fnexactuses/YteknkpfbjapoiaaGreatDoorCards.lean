/-
  DERIVED. GIVEN WITH THE SEED: THE CARDS: each row of YteknkpfbjapoiaaGreatDoorRows.lean that lists a variable, with what it lists TIED to the program's text (the seventh form; the later family's looks); each row that meets fmt, with fmt's text TOLD by the authors' own Lean function (tested against real Go, not proved from fmt's source: count such statements apart). THE CARD IS WHAT COUNTS. Prove the row's statement (the work); the ties are given (YteknkpfbjapoiaaGreatDoorTie.lean); close each card by the builder's one call (the guide's Derived/Test/ToyasCard.lean, 'card_holds'). Laid BY PROGRAM, IN A SANDBOX (cutbox-door.mjs). By AI agents, Wed Nov 11 2026. No macro, syntax, notation, axiom, sorry.
-/
import Derived.Test.YteknkpfbjapoiaaGreatDoorRows
import GoSem.ClaimSeven
namespace Go.Proofs.YteknkpfbjapoiaaGreatDoor
namespace Rows

/-- THE TIED CARD OF 'laws.FnExactTold'. -/
def fnExactToldCard : Claim7 := { stood := { row := fnExactToldRow, standIns := [], harness := (true, "d2c324b0e6a611d653fccd3fa53489c61e0b88f7c67146bba0ae04257d219c02"), looks := true }, kinds := [], alts := [], laidByText := true, laidKinds := [.data, .data, .data], laidTests := true, laidLooks := .later }
def FnExactToldCardSaid : Prop := Claim7.holds Tryz.pinned (.plain (OpenSpec.ofChange fnExactToldSpec)) fnExactToldCard

/-- THE TIED CARD OF 'laws.FnExactCircle'. -/
def fnExactCircleCard : Claim7 := { stood := { row := fnExactCircleRow, standIns := [], harness := (true, "d2c324b0e6a611d653fccd3fa53489c61e0b88f7c67146bba0ae04257d219c02"), looks := true }, kinds := [], alts := [], laidByText := true, laidKinds := [.data, .data, .data], laidTests := true, laidLooks := .later }
def FnExactCircleCardSaid : Prop := Claim7.holds Tryz.pinned (.plain (OpenSpec.ofChange fnExactCircleSpec)) fnExactCircleCard

/-- THE TIED CARD OF 'laws.FnExactStuck'. -/
def fnExactStuckCard : Claim7 := { stood := { row := fnExactStuckRow, standIns := [], harness := (true, "d2c324b0e6a611d653fccd3fa53489c61e0b88f7c67146bba0ae04257d219c02"), looks := true }, kinds := [], alts := [], laidByText := true, laidKinds := [.data, .data, .data], laidTests := true, laidLooks := .later }
def FnExactStuckCardSaid : Prop := Claim7.holds Tryz.pinned (.plain (OpenSpec.ofChange fnExactStuckSpec)) fnExactStuckCard

/-- THE TIED CARD OF 'laws.FnExactUses'. -/
def fnExactUsesCard : Claim7 := { stood := { row := fnExactUsesRow, standIns := [], harness := (true, "d2c324b0e6a611d653fccd3fa53489c61e0b88f7c67146bba0ae04257d219c02"), looks := true }, kinds := [], alts := [], laidByText := true, laidKinds := [.data, .data, .data], laidTests := true, laidLooks := .later }
def FnExactUsesCardSaid : Prop := Claim7.holds Tryz.pinned (.plain (OpenSpec.ofChange fnExactUsesSpec)) fnExactUsesCard

/-- THE SECOND FORM's CARD OF 'laws.FnExactTold'. -/
def fnExactToldUptoCard : Claim7 := { stood := { row := fnExactToldUptoRow, standIns := [], harness := (true, "d2c324b0e6a611d653fccd3fa53489c61e0b88f7c67146bba0ae04257d219c02"), looks := true }, kinds := [], alts := [], laidByText := true, laidKinds := [.data, .data, .data], laidTests := true, laidLooks := .later }
def FnExactToldUptoCardSaid : Prop := Claim7.holds Tryz.pinned (.plain (OpenSpec.upto fnExactToldSpec)) fnExactToldUptoCard

/-- THE SECOND FORM's CARD OF 'laws.FnExactCircle'. -/
def fnExactCircleUptoCard : Claim7 := { stood := { row := fnExactCircleUptoRow, standIns := [], harness := (true, "d2c324b0e6a611d653fccd3fa53489c61e0b88f7c67146bba0ae04257d219c02"), looks := true }, kinds := [], alts := [], laidByText := true, laidKinds := [.data, .data, .data], laidTests := true, laidLooks := .later }
def FnExactCircleUptoCardSaid : Prop := Claim7.holds Tryz.pinned (.plain (OpenSpec.upto fnExactCircleSpec)) fnExactCircleUptoCard

/-- THE SECOND FORM's CARD OF 'laws.FnExactStuck'. -/
def fnExactStuckUptoCard : Claim7 := { stood := { row := fnExactStuckUptoRow, standIns := [], harness := (true, "d2c324b0e6a611d653fccd3fa53489c61e0b88f7c67146bba0ae04257d219c02"), looks := true }, kinds := [], alts := [], laidByText := true, laidKinds := [.data, .data, .data], laidTests := true, laidLooks := .later }
def FnExactStuckUptoCardSaid : Prop := Claim7.holds Tryz.pinned (.plain (OpenSpec.upto fnExactStuckSpec)) fnExactStuckUptoCard

/-- THE SECOND FORM's CARD OF 'laws.FnExactUses'. -/
def fnExactUsesUptoCard : Claim7 := { stood := { row := fnExactUsesUptoRow, standIns := [], harness := (true, "d2c324b0e6a611d653fccd3fa53489c61e0b88f7c67146bba0ae04257d219c02"), looks := true }, kinds := [], alts := [], laidByText := true, laidKinds := [.data, .data, .data], laidTests := true, laidLooks := .later }
def FnExactUsesUptoCardSaid : Prop := Claim7.holds Tryz.pinned (.plain (OpenSpec.upto fnExactUsesSpec)) fnExactUsesUptoCard
end Rows
end Go.Proofs.YteknkpfbjapoiaaGreatDoor
