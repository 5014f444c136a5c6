/-
  DERIVED. GIVEN WITH THE SEED: THE CARDS: each row of YtldgacnoliekdaaDoorRows.lean that lists a variable, with what it lists TIED to the program's text (the seventh form; the later family's looks); each row that meets fmt, with fmt's text TOLD by the authors' own Lean function (tested against real Go, not proved from fmt's source: count such statements apart). THE CARD IS WHAT COUNTS. Prove the row's statement (the work); the ties are given (YtldgacnoliekdaaDoorTie.lean); close each card by the builder's one call (the guide's Derived/Test/ToyasCard.lean, 'card_holds'). Laid BY PROGRAM, IN A SANDBOX (cutbox-door.mjs). By AI agents, Wed Nov 11 2026. No macro, syntax, notation, axiom, sorry.
-/
import Derived.Test.YtldgacnoliekdaaDoorRows
import GoSem.ClaimSeven
namespace Go.Proofs.YtldgacnoliekdaaDoor
namespace Rows

/-- THE TIED CARD OF 'straddlelaw2.SumsAny'. -/
def sumsAnyCard : Claim7 := { stood := { row := sumsAnyRow, standIns := [], harness := (true, "b93be7be893d150fa053b8cbf28422591d2054eab99b8d9f98c2f67a0688260f"), looks := true }, kinds := [], alts := [], laidByText := true, laidKinds := [.handle, .data], laidTests := true, laidLooks := .later }
def SumsAnyCardSaid : Prop := Claim7.holds Tryd.pinned (.plain (OpenSpec.ofChange sumsAnySpec)) sumsAnyCard

/-- THE TIED CARD OF 'straddlelaw2.SumsTurned'. -/
def sumsTurnedCard : Claim7 := { stood := { row := sumsTurnedRow, standIns := [], harness := (true, "b93be7be893d150fa053b8cbf28422591d2054eab99b8d9f98c2f67a0688260f"), looks := true }, kinds := [], alts := [], laidByText := true, laidKinds := [.handle, .data], laidTests := true, laidLooks := .later }
def SumsTurnedCardSaid : Prop := Claim7.holds Tryd.pinned (.plain (OpenSpec.ofChange sumsTurnedSpec)) sumsTurnedCard

/-- THE SECOND FORM's CARD OF 'straddlelaw2.SumsAny'. -/
def sumsAnyUptoCard : Claim7 := { stood := { row := sumsAnyUptoRow, standIns := [], harness := (true, "b93be7be893d150fa053b8cbf28422591d2054eab99b8d9f98c2f67a0688260f"), looks := true }, kinds := [], alts := [], laidByText := true, laidKinds := [.handle, .data], laidTests := true, laidLooks := .later }
def SumsAnyUptoCardSaid : Prop := Claim7.holds Tryd.pinned (.plain (OpenSpec.upto sumsAnySpec)) sumsAnyUptoCard

/-- THE SECOND FORM's CARD OF 'straddlelaw2.SumsTurned'. -/
def sumsTurnedUptoCard : Claim7 := { stood := { row := sumsTurnedUptoRow, standIns := [], harness := (true, "b93be7be893d150fa053b8cbf28422591d2054eab99b8d9f98c2f67a0688260f"), looks := true }, kinds := [], alts := [], laidByText := true, laidKinds := [.handle, .data], laidTests := true, laidLooks := .later }
def SumsTurnedUptoCardSaid : Prop := Claim7.holds Tryd.pinned (.plain (OpenSpec.upto sumsTurnedSpec)) sumsTurnedUptoCard
end Rows
end Go.Proofs.YtldgacnoliekdaaDoor
