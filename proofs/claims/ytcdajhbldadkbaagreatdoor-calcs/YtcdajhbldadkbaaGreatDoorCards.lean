/-
  DERIVED. GIVEN WITH THE SEED: THE CARDS: each row of YtcdajhbldadkbaaGreatDoorRows.lean that lists a variable, with what it lists TIED to the program's text (the seventh form; the later family's looks); each row that meets fmt, with fmt's text TOLD by the authors' own Lean function (tested against real Go, not proved from fmt's source: count such statements apart). THE CARD IS WHAT COUNTS. Prove the row's statement (the work); the ties are given (YtcdajhbldadkbaaGreatDoorTie.lean); close each card by the builder's one call (the guide's Derived/Test/ToyasCard.lean, 'card_holds'). Laid BY PROGRAM, IN A SANDBOX (cutbox-door.mjs). By AI agents, Wed Nov 11 2026. No macro, syntax, notation, axiom, sorry.
-/
import Derived.Test.YtcdajhbldadkbaaGreatDoorRows
import GoSem.ClaimSeven
namespace Go.Proofs.YtcdajhbldadkbaaGreatDoor
namespace Rows

/-- THE TIED CARD OF 'abacuslaw.Calcs'. -/
def calcsCard : Claim7 := { stood := { row := calcsRow, standIns := [], harness := (true, "a32b2d5375bb5c41e85cffb580da7809bf13ff689ec3a4e0b1c70c55e7c29e84"), looks := false }, kinds := [], alts := [], laidByText := true, laidKinds := [.data, .data, .data], laidTests := true, laidLooks := .later }
def CalcsCardSaid : Prop := Claim7.holds Tryz.pinned (.plain (OpenSpec.ofChange calcsSpec)) calcsCard

/-- THE SECOND FORM's CARD OF 'abacuslaw.Calcs'. -/
def calcsUptoCard : Claim7 := { stood := { row := calcsUptoRow, standIns := [], harness := (true, "a32b2d5375bb5c41e85cffb580da7809bf13ff689ec3a4e0b1c70c55e7c29e84"), looks := false }, kinds := [], alts := [], laidByText := true, laidKinds := [.data, .data, .data], laidTests := true, laidLooks := .later }
def CalcsUptoCardSaid : Prop := Claim7.holds Tryz.pinned (.plain (OpenSpec.upto calcsSpec)) calcsUptoCard
end Rows
end Go.Proofs.YtcdajhbldadkbaaGreatDoor
