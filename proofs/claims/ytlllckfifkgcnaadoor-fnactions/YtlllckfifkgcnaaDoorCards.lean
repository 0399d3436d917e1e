/-
  DERIVED. GIVEN WITH THE SEED: THE CARDS: each row of YtlllckfifkgcnaaDoorRows.lean that lists a variable, with what it lists TIED to the program's text (the seventh form; the later family's looks); each row that meets fmt, with fmt's text TOLD by the authors' own Lean function (tested against real Go, not proved from fmt's source: count such statements apart). THE CARD IS WHAT COUNTS. Prove the row's statement (the work); the ties are given (YtlllckfifkgcnaaDoorTie.lean); close each card by the builder's one call (the guide's Derived/Test/ToyasCard.lean, 'card_holds'). Laid BY PROGRAM, IN A SANDBOX (cutbox-door.mjs). By AI agents, Wed Nov 11 2026. No macro, syntax, notation, axiom, sorry.
-/
import Derived.Test.YtlllckfifkgcnaaDoorRows
import GoSem.ClaimSeven
namespace Go.Proofs.YtlllckfifkgcnaaDoor
namespace Rows

/-- THE TIED CARD OF 'laws.FnActions'. -/
def fnActionsCard : Claim7 := { stood := { row := fnActionsRow, standIns := [], harness := (true, "0c2bb9748bb9ff9356daff9205efdb3f5d1f5d38ce774748f035de4d717ee2e4"), looks := true }, kinds := [], alts := [], laidByText := true, laidKinds := [.data, .data, .data], laidTests := true, laidLooks := .later }
def FnActionsCardSaid : Prop := Claim7.holds Tryd.pinned (.plain (OpenSpec.ofChange fnActionsSpec)) fnActionsCard

/-- THE TIED CARD OF 'laws.FnExactFinish'. -/
def fnExactFinishCard : Claim7 := { stood := { row := fnExactFinishRow, standIns := [], harness := (true, "0c2bb9748bb9ff9356daff9205efdb3f5d1f5d38ce774748f035de4d717ee2e4"), looks := true }, kinds := [], alts := [], laidByText := true, laidKinds := [.data, .data, .data], laidTests := true, laidLooks := .later }
def FnExactFinishCardSaid : Prop := Claim7.holds Tryd.pinned (.plain (OpenSpec.ofChange fnExactFinishSpec)) fnExactFinishCard

/-- THE SECOND FORM's CARD OF 'laws.FnActions'. -/
def fnActionsUptoCard : Claim7 := { stood := { row := fnActionsUptoRow, standIns := [], harness := (true, "0c2bb9748bb9ff9356daff9205efdb3f5d1f5d38ce774748f035de4d717ee2e4"), looks := true }, kinds := [], alts := [], laidByText := true, laidKinds := [.data, .data, .data], laidTests := true, laidLooks := .later }
def FnActionsUptoCardSaid : Prop := Claim7.holds Tryd.pinned (.plain (OpenSpec.upto fnActionsSpec)) fnActionsUptoCard

/-- THE SECOND FORM's CARD OF 'laws.FnExactFinish'. -/
def fnExactFinishUptoCard : Claim7 := { stood := { row := fnExactFinishUptoRow, standIns := [], harness := (true, "0c2bb9748bb9ff9356daff9205efdb3f5d1f5d38ce774748f035de4d717ee2e4"), looks := true }, kinds := [], alts := [], laidByText := true, laidKinds := [.data, .data, .data], laidTests := true, laidLooks := .later }
def FnExactFinishUptoCardSaid : Prop := Claim7.holds Tryd.pinned (.plain (OpenSpec.upto fnExactFinishSpec)) fnExactFinishUptoCard
end Rows
end Go.Proofs.YtlllckfifkgcnaaDoor
