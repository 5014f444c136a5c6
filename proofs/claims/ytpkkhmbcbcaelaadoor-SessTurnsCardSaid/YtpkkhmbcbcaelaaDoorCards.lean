/-
  DERIVED. GIVEN WITH THE SEED: THE CARDS: each row of YtpkkhmbcbcaelaaDoorRows.lean that lists a variable, with what it lists TIED to the program's text (the seventh form; the later family's looks); each row that meets fmt, with fmt's text TOLD by the authors' own Lean function (tested against real Go, not proved from fmt's source: count such statements apart). THE CARD IS WHAT COUNTS. Prove the row's statement (the work); the ties are given (YtpkkhmbcbcaelaaDoorTie.lean); close each card by the builder's one call (the guide's Derived/Test/ToyasCard.lean, 'card_holds'). Laid BY PROGRAM, IN A SANDBOX (cutbox-door.mjs). By AI agents, Wed Nov 11 2026. No macro, syntax, notation, axiom, sorry.
-/
import Derived.Test.YtpkkhmbcbcaelaaDoorRows
import GoSem.ClaimSeven
namespace Go.Proofs.YtpkkhmbcbcaelaaDoor
namespace Rows

/-- THE TIED CARD OF 'straddlelaw25.SessPlays'. -/
def sessPlaysCard : Claim7 := { stood := { row := sessPlaysRow, standIns := [], harness := (true, "6a0b9eb6f980037570f08b8a4e252b4165c82f5b9b188955bf15a2da97aea187"), looks := true }, kinds := [], alts := [], laidByText := true, laidKinds := [.handle], laidTests := true, laidLooks := .later }
def SessPlaysCardSaid : Prop := Claim7.holds Tryd.pinned (.plain (OpenSpec.ofChange sessPlaysSpec)) sessPlaysCard

/-- THE TIED CARD OF 'straddlelaw25.SessTurns'. -/
def sessTurnsCard : Claim7 := { stood := { row := sessTurnsRow, standIns := [], harness := (true, "6a0b9eb6f980037570f08b8a4e252b4165c82f5b9b188955bf15a2da97aea187"), looks := true }, kinds := [], alts := [], laidByText := true, laidKinds := [.handle], laidTests := true, laidLooks := .later }
def SessTurnsCardSaid : Prop := Claim7.holds Tryd.pinned (.plain (OpenSpec.ofChange sessTurnsSpec)) sessTurnsCard

/-- THE TIED CARD OF 'straddlelaw25.SessLate'. -/
def sessLateCard : Claim7 := { stood := { row := sessLateRow, standIns := [], harness := (true, "6a0b9eb6f980037570f08b8a4e252b4165c82f5b9b188955bf15a2da97aea187"), looks := true }, kinds := [], alts := [], laidByText := true, laidKinds := [.handle], laidTests := true, laidLooks := .later }
def SessLateCardSaid : Prop := Claim7.holds Tryd.pinned (.plain (OpenSpec.ofChange sessLateSpec)) sessLateCard

/-- THE TIED CARD OF 'straddlelaw25.SessApart'. -/
def sessApartCard : Claim7 := { stood := { row := sessApartRow, standIns := [], harness := (true, "6a0b9eb6f980037570f08b8a4e252b4165c82f5b9b188955bf15a2da97aea187"), looks := true }, kinds := [], alts := [], laidByText := true, laidKinds := [.handle], laidTests := true, laidLooks := .later }
def SessApartCardSaid : Prop := Claim7.holds Tryd.pinned (.plain (OpenSpec.ofChange sessApartSpec)) sessApartCard

/-- THE SECOND FORM's CARD OF 'straddlelaw25.SessPlays'. -/
def sessPlaysUptoCard : Claim7 := { stood := { row := sessPlaysUptoRow, standIns := [], harness := (true, "6a0b9eb6f980037570f08b8a4e252b4165c82f5b9b188955bf15a2da97aea187"), looks := true }, kinds := [], alts := [], laidByText := true, laidKinds := [.handle], laidTests := true, laidLooks := .later }
def SessPlaysUptoCardSaid : Prop := Claim7.holds Tryd.pinned (.plain (OpenSpec.upto sessPlaysSpec)) sessPlaysUptoCard

/-- THE SECOND FORM's CARD OF 'straddlelaw25.SessTurns'. -/
def sessTurnsUptoCard : Claim7 := { stood := { row := sessTurnsUptoRow, standIns := [], harness := (true, "6a0b9eb6f980037570f08b8a4e252b4165c82f5b9b188955bf15a2da97aea187"), looks := true }, kinds := [], alts := [], laidByText := true, laidKinds := [.handle], laidTests := true, laidLooks := .later }
def SessTurnsUptoCardSaid : Prop := Claim7.holds Tryd.pinned (.plain (OpenSpec.upto sessTurnsSpec)) sessTurnsUptoCard

/-- THE SECOND FORM's CARD OF 'straddlelaw25.SessLate'. -/
def sessLateUptoCard : Claim7 := { stood := { row := sessLateUptoRow, standIns := [], harness := (true, "6a0b9eb6f980037570f08b8a4e252b4165c82f5b9b188955bf15a2da97aea187"), looks := true }, kinds := [], alts := [], laidByText := true, laidKinds := [.handle], laidTests := true, laidLooks := .later }
def SessLateUptoCardSaid : Prop := Claim7.holds Tryd.pinned (.plain (OpenSpec.upto sessLateSpec)) sessLateUptoCard

/-- THE SECOND FORM's CARD OF 'straddlelaw25.SessApart'. -/
def sessApartUptoCard : Claim7 := { stood := { row := sessApartUptoRow, standIns := [], harness := (true, "6a0b9eb6f980037570f08b8a4e252b4165c82f5b9b188955bf15a2da97aea187"), looks := true }, kinds := [], alts := [], laidByText := true, laidKinds := [.handle], laidTests := true, laidLooks := .later }
def SessApartUptoCardSaid : Prop := Claim7.holds Tryd.pinned (.plain (OpenSpec.upto sessApartSpec)) sessApartUptoCard
end Rows
end Go.Proofs.YtpkkhmbcbcaelaaDoor
