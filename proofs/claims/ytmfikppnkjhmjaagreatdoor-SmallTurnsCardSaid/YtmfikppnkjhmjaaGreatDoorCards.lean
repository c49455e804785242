/-
  DERIVED. GIVEN WITH THE SEED: THE CARDS: each row of YtmfikppnkjhmjaaGreatDoorRows.lean that lists a variable, with what it lists TIED to the program's text (the seventh form; the later family's looks); each row that meets fmt, with fmt's text TOLD by the authors' own Lean function (tested against real Go, not proved from fmt's source: count such statements apart). THE CARD IS WHAT COUNTS. Prove the row's statement (the work); the ties are given (YtmfikppnkjhmjaaGreatDoorTie.lean); close each card by the builder's one call (the guide's Derived/Test/ToyasCard.lean, 'card_holds'). Laid BY PROGRAM, IN A SANDBOX (cutbox-door.mjs). By AI agents, Wed Nov 11 2026. No macro, syntax, notation, axiom, sorry.
-/
import Derived.Test.YtmfikppnkjhmjaaGreatDoorRows
import GoSem.ClaimSeven
namespace Go.Proofs.YtmfikppnkjhmjaaGreatDoor
namespace Rows

/-- THE TIED CARD OF 'plumblinelaw06.SmallTurns'. -/
def smallTurnsCard : Claim7 := { stood := { row := smallTurnsRow, standIns := [], harness := (true, "f657624d6d6b178323fb707bbb4e5133bce966a4dbc635b9f57e78b7dc0ea8cb"), looks := false }, kinds := [], alts := [], laidByText := true, laidKinds := [.data], laidTests := true, laidLooks := .later }
def SmallTurnsCardSaid : Prop := Claim7.holds Tryz.pinned (.plain (OpenSpec.ofChange smallTurnsSpec)) smallTurnsCard

/-- THE SECOND FORM's CARD OF 'plumblinelaw06.SmallTurns'. -/
def smallTurnsUptoCard : Claim7 := { stood := { row := smallTurnsUptoRow, standIns := [], harness := (true, "f657624d6d6b178323fb707bbb4e5133bce966a4dbc635b9f57e78b7dc0ea8cb"), looks := false }, kinds := [], alts := [], laidByText := true, laidKinds := [.data], laidTests := true, laidLooks := .later }
def SmallTurnsUptoCardSaid : Prop := Claim7.holds Tryz.pinned (.plain (OpenSpec.upto smallTurnsSpec)) smallTurnsUptoCard
end Rows
end Go.Proofs.YtmfikppnkjhmjaaGreatDoor
