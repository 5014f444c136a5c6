/-
  DERIVED. GIVEN WITH THE SEED: THE CARDS: each row of YtoilgeahfdbhlaaGreatDoorRows.lean that lists a variable, with what it lists TIED to the program's text (the seventh form; the later family's looks); each row that meets fmt, with fmt's text TOLD by the authors' own Lean function (tested against real Go, not proved from fmt's source: count such statements apart). THE CARD IS WHAT COUNTS. Prove the row's statement (the work); the ties are given (YtoilgeahfdbhlaaGreatDoorTie.lean); close each card by the builder's one call (the guide's Derived/Test/ToyasCard.lean, 'card_holds'). Laid BY PROGRAM, IN A SANDBOX (cutbox-door.mjs). By AI agents, Wed Nov 11 2026. No macro, syntax, notation, axiom, sorry.
-/
import Derived.Test.YtoilgeahfdbhlaaGreatDoorRows
import GoSem.ClaimSeven
namespace Go.Proofs.YtoilgeahfdbhlaaGreatDoor
namespace Rows

/-- THE TIED CARD OF 'straddlelaw8.DirPlays'. -/
def dirPlaysCard : Claim7 := { stood := { row := dirPlaysRow, standIns := [], harness := (true, "c6f899716e6aa7772abb960b214081d08acbdf164bda909d5442dfb1a8971810"), looks := true }, kinds := [], alts := [], laidByText := true, laidKinds := [.handle], laidTests := true, laidLooks := .later }
def DirPlaysCardSaid : Prop := Claim7.holds Tryz.pinned (.plain (OpenSpec.ofChange dirPlaysSpec)) dirPlaysCard

/-- THE TIED CARD OF 'straddlelaw8.DirFull'. -/
def dirFullCard : Claim7 := { stood := { row := dirFullRow, standIns := [], harness := (true, "c6f899716e6aa7772abb960b214081d08acbdf164bda909d5442dfb1a8971810"), looks := true }, kinds := [], alts := [], laidByText := true, laidKinds := [.handle], laidTests := true, laidLooks := .later }
def DirFullCardSaid : Prop := Claim7.holds Tryz.pinned (.plain (OpenSpec.ofChange dirFullSpec)) dirFullCard

/-- THE SECOND FORM's CARD OF 'straddlelaw8.DirPlays'. -/
def dirPlaysUptoCard : Claim7 := { stood := { row := dirPlaysUptoRow, standIns := [], harness := (true, "c6f899716e6aa7772abb960b214081d08acbdf164bda909d5442dfb1a8971810"), looks := true }, kinds := [], alts := [], laidByText := true, laidKinds := [.handle], laidTests := true, laidLooks := .later }
def DirPlaysUptoCardSaid : Prop := Claim7.holds Tryz.pinned (.plain (OpenSpec.upto dirPlaysSpec)) dirPlaysUptoCard

/-- THE SECOND FORM's CARD OF 'straddlelaw8.DirFull'. -/
def dirFullUptoCard : Claim7 := { stood := { row := dirFullUptoRow, standIns := [], harness := (true, "c6f899716e6aa7772abb960b214081d08acbdf164bda909d5442dfb1a8971810"), looks := true }, kinds := [], alts := [], laidByText := true, laidKinds := [.handle], laidTests := true, laidLooks := .later }
def DirFullUptoCardSaid : Prop := Claim7.holds Tryz.pinned (.plain (OpenSpec.upto dirFullSpec)) dirFullUptoCard
end Rows
end Go.Proofs.YtoilgeahfdbhlaaGreatDoor
