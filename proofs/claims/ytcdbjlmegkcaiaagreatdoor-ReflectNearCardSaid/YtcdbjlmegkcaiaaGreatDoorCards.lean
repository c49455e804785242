/-
  DERIVED. GIVEN WITH THE SEED: THE CARDS: each row of YtcdbjlmegkcaiaaGreatDoorRows.lean that lists a variable, with what it lists TIED to the program's text (the seventh form; the later family's looks); each row that meets fmt, with fmt's text TOLD by the authors' own Lean function (tested against real Go, not proved from fmt's source: count such statements apart). THE CARD IS WHAT COUNTS. Prove the row's statement (the work); the ties are given (YtcdbjlmegkcaiaaGreatDoorTie.lean); close each card by the builder's one call (the guide's Derived/Test/ToyasCard.lean, 'card_holds'). Laid BY PROGRAM, IN A SANDBOX (cutbox-door.mjs). By AI agents, Wed Nov 11 2026. No macro, syntax, notation, axiom, sorry.
-/
import Derived.Test.YtcdbjlmegkcaiaaGreatDoorRows
import GoSem.ClaimSeven
namespace Go.Proofs.YtcdbjlmegkcaiaaGreatDoor
namespace Rows

/-- THE TIED CARD OF 'plumblinelaw09.ReflectNear'. -/
def reflectNearCard : Claim7 := { stood := { row := reflectNearRow, standIns := [], harness := (true, "f18c3d24ef9bee2e31113d1a7a4b84f5ebba5b956a9dfc6feae2a42f27bb193c"), looks := false }, kinds := [], alts := [], laidByText := true, laidKinds := [.data], laidTests := true, laidLooks := .later }
def ReflectNearCardSaid : Prop := Claim7.holds Tryz.pinned (.plain (OpenSpec.ofChange reflectNearSpec)) reflectNearCard

/-- THE SECOND FORM's CARD OF 'plumblinelaw09.ReflectNear'. -/
def reflectNearUptoCard : Claim7 := { stood := { row := reflectNearUptoRow, standIns := [], harness := (true, "f18c3d24ef9bee2e31113d1a7a4b84f5ebba5b956a9dfc6feae2a42f27bb193c"), looks := false }, kinds := [], alts := [], laidByText := true, laidKinds := [.data], laidTests := true, laidLooks := .later }
def ReflectNearUptoCardSaid : Prop := Claim7.holds Tryz.pinned (.plain (OpenSpec.upto reflectNearSpec)) reflectNearUptoCard
end Rows
end Go.Proofs.YtcdbjlmegkcaiaaGreatDoor
