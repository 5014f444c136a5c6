/-
  DERIVED. GIVEN WITH THE SEED: THE CARDS: each row of YtkcgklaoefbglaaGreatDoorRows.lean that lists a variable, with what it lists TIED to the program's text (the seventh form; the later family's looks); each row that meets fmt, with fmt's text TOLD by the authors' own Lean function (tested against real Go, not proved from fmt's source: count such statements apart). THE CARD IS WHAT COUNTS. Prove the row's statement (the work); the ties are given (YtkcgklaoefbglaaGreatDoorTie.lean); close each card by the builder's one call (the guide's Derived/Test/ToyasCard.lean, 'card_holds'). Laid BY PROGRAM, IN A SANDBOX (cutbox-door.mjs). By AI agents, Wed Nov 11 2026. No macro, syntax, notation, axiom, sorry.
-/
import Derived.Test.YtkcgklaoefbglaaGreatDoorRows
import GoSem.ClaimSeven
namespace Go.Proofs.YtkcgklaoefbglaaGreatDoor
namespace Rows

/-- THE TIED CARD OF 'straddlelaw15.QuoteChecks'. -/
def quoteChecksCard : Claim7 := { stood := { row := quoteChecksRow, standIns := [], harness := (true, "e9f133afcb504a9867ab06df085cb0a7a0c8f05eee077b677477393ededa9ef9"), looks := true }, kinds := [], alts := [], laidByText := true, laidKinds := [.handle], laidTests := true, laidLooks := .later }
def QuoteChecksCardSaid : Prop := Claim7.holds Tryz.pinned (.plain (OpenSpec.ofChange quoteChecksSpec)) quoteChecksCard

/-- THE SECOND FORM's CARD OF 'straddlelaw15.QuoteChecks'. -/
def quoteChecksUptoCard : Claim7 := { stood := { row := quoteChecksUptoRow, standIns := [], harness := (true, "e9f133afcb504a9867ab06df085cb0a7a0c8f05eee077b677477393ededa9ef9"), looks := true }, kinds := [], alts := [], laidByText := true, laidKinds := [.handle], laidTests := true, laidLooks := .later }
def QuoteChecksUptoCardSaid : Prop := Claim7.holds Tryz.pinned (.plain (OpenSpec.upto quoteChecksSpec)) quoteChecksUptoCard
end Rows
end Go.Proofs.YtkcgklaoefbglaaGreatDoor
