/-
  DERIVED. GIVEN WITH THE SEED: THE CARDS: each row of YtjbipapbckajnaaGreatDoorRows.lean that lists a variable, with what it lists TIED to the program's text (the seventh form; the later family's looks); each row that meets fmt, with fmt's text TOLD by the authors' own Lean function (tested against real Go, not proved from fmt's source: count such statements apart). THE CARD IS WHAT COUNTS. Prove the row's statement (the work); the ties are given (YtjbipapbckajnaaGreatDoorTie.lean); close each card by the builder's one call (the guide's Derived/Test/ToyasCard.lean, 'card_holds'). Laid BY PROGRAM, IN A SANDBOX (cutbox-door.mjs). By AI agents, Wed Nov 11 2026. No macro, syntax, notation, axiom, sorry.
-/
import Derived.Test.YtjbipapbckajnaaGreatDoorRows
import GoSem.ClaimSeven
namespace Go.Proofs.YtjbipapbckajnaaGreatDoor
namespace Rows

/-- THE TIED CARD OF 'laws.FnHeart'. -/
def fnHeartCard : Claim7 := { stood := { row := fnHeartRow, standIns := [], harness := (true, "286529a40bfa95c76e5563d5ecaa26751ae68ff1bcf8d3eeb1b10517b6c69a80"), looks := true }, kinds := [], alts := [], laidByText := true, laidKinds := [.data, .data, .data], laidTests := true, laidLooks := .later }
def FnHeartCardSaid : Prop := Claim7.holds Tryz.pinned (.plain (OpenSpec.ofChange fnHeartSpec)) fnHeartCard

/-- THE TIED CARD OF 'laws.FnStuck'. -/
def fnStuckCard : Claim7 := { stood := { row := fnStuckRow, standIns := [], harness := (true, "286529a40bfa95c76e5563d5ecaa26751ae68ff1bcf8d3eeb1b10517b6c69a80"), looks := true }, kinds := [], alts := [], laidByText := true, laidKinds := [.data, .data, .data], laidTests := true, laidLooks := .later }
def FnStuckCardSaid : Prop := Claim7.holds Tryz.pinned (.plain (OpenSpec.ofChange fnStuckSpec)) fnStuckCard

/-- THE SECOND FORM's CARD OF 'laws.FnHeart'. -/
def fnHeartUptoCard : Claim7 := { stood := { row := fnHeartUptoRow, standIns := [], harness := (true, "286529a40bfa95c76e5563d5ecaa26751ae68ff1bcf8d3eeb1b10517b6c69a80"), looks := true }, kinds := [], alts := [], laidByText := true, laidKinds := [.data, .data, .data], laidTests := true, laidLooks := .later }
def FnHeartUptoCardSaid : Prop := Claim7.holds Tryz.pinned (.plain (OpenSpec.upto fnHeartSpec)) fnHeartUptoCard

/-- THE SECOND FORM's CARD OF 'laws.FnStuck'. -/
def fnStuckUptoCard : Claim7 := { stood := { row := fnStuckUptoRow, standIns := [], harness := (true, "286529a40bfa95c76e5563d5ecaa26751ae68ff1bcf8d3eeb1b10517b6c69a80"), looks := true }, kinds := [], alts := [], laidByText := true, laidKinds := [.data, .data, .data], laidTests := true, laidLooks := .later }
def FnStuckUptoCardSaid : Prop := Claim7.holds Tryz.pinned (.plain (OpenSpec.upto fnStuckSpec)) fnStuckUptoCard
end Rows
end Go.Proofs.YtjbipapbckajnaaGreatDoor
