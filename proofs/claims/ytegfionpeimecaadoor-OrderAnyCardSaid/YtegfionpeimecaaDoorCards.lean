/-
  DERIVED. GIVEN WITH THE SEED: THE CARDS: each row of YtegfionpeimecaaDoorRows.lean that lists a variable, with what it lists TIED to the program's text (the seventh form; the later family's looks); each row that meets fmt, with fmt's text TOLD by the authors' own Lean function (tested against real Go, not proved from fmt's source: count such statements apart). THE CARD IS WHAT COUNTS. Prove the row's statement (the work); the ties are given (YtegfionpeimecaaDoorTie.lean); close each card by the builder's one call (the guide's Derived/Test/ToyasCard.lean, 'card_holds'). Laid BY PROGRAM, IN A SANDBOX (cutbox-door.mjs). By AI agents, Wed Nov 11 2026. No macro, syntax, notation, axiom, sorry.
-/
import Derived.Test.YtegfionpeimecaaDoorRows
import GoSem.ClaimSeven
namespace Go.Proofs.YtegfionpeimecaaDoor
namespace Rows

/-- THE TIED CARD OF 'straddlelaw11.OrderAny'. -/
def orderAnyCard : Claim7 := { stood := { row := orderAnyRow, standIns := [], harness := (true, "3543c55317b0e37cecd5ae8602e89763b4aef45a7320beba3140e6c487a80e2b"), looks := true }, kinds := [], alts := [], laidByText := true, laidKinds := [.data, .data, .data, .handle], laidTests := true, laidLooks := .later }
def OrderAnyCardSaid : Prop := Claim7.holds Tryd.pinned (.plain (OpenSpec.ofChange orderAnySpec)) orderAnyCard

/-- THE TIED CARD OF 'straddlelaw11.OrderTwo'. -/
def orderTwoCard : Claim7 := { stood := { row := orderTwoRow, standIns := [], harness := (true, "3543c55317b0e37cecd5ae8602e89763b4aef45a7320beba3140e6c487a80e2b"), looks := true }, kinds := [], alts := [], laidByText := true, laidKinds := [.data, .data, .data], laidTests := true, laidLooks := .later }
def OrderTwoCardSaid : Prop := Claim7.holds Tryd.pinned (.plain (OpenSpec.ofChange orderTwoSpec)) orderTwoCard

/-- THE TIED CARD OF 'straddlelaw11.OrderThree'. -/
def orderThreeCard : Claim7 := { stood := { row := orderThreeRow, standIns := [], harness := (true, "3543c55317b0e37cecd5ae8602e89763b4aef45a7320beba3140e6c487a80e2b"), looks := true }, kinds := [], alts := [], laidByText := true, laidKinds := [.data, .data, .data], laidTests := true, laidLooks := .later }
def OrderThreeCardSaid : Prop := Claim7.holds Tryd.pinned (.plain (OpenSpec.ofChange orderThreeSpec)) orderThreeCard

/-- THE TIED CARD OF 'straddlelaw11.OrderTakes'. -/
def orderTakesCard : Claim7 := { stood := { row := orderTakesRow, standIns := [], harness := (true, "3543c55317b0e37cecd5ae8602e89763b4aef45a7320beba3140e6c487a80e2b"), looks := true }, kinds := [], alts := [], laidByText := true, laidKinds := [.data, .data, .data], laidTests := true, laidLooks := .later }
def OrderTakesCardSaid : Prop := Claim7.holds Tryd.pinned (.plain (OpenSpec.ofChange orderTakesSpec)) orderTakesCard

/-- THE SECOND FORM's CARD OF 'straddlelaw11.OrderAny'. -/
def orderAnyUptoCard : Claim7 := { stood := { row := orderAnyUptoRow, standIns := [], harness := (true, "3543c55317b0e37cecd5ae8602e89763b4aef45a7320beba3140e6c487a80e2b"), looks := true }, kinds := [], alts := [], laidByText := true, laidKinds := [.data, .data, .data, .handle], laidTests := true, laidLooks := .later }
def OrderAnyUptoCardSaid : Prop := Claim7.holds Tryd.pinned (.plain (OpenSpec.upto orderAnySpec)) orderAnyUptoCard

/-- THE SECOND FORM's CARD OF 'straddlelaw11.OrderTwo'. -/
def orderTwoUptoCard : Claim7 := { stood := { row := orderTwoUptoRow, standIns := [], harness := (true, "3543c55317b0e37cecd5ae8602e89763b4aef45a7320beba3140e6c487a80e2b"), looks := true }, kinds := [], alts := [], laidByText := true, laidKinds := [.data, .data, .data], laidTests := true, laidLooks := .later }
def OrderTwoUptoCardSaid : Prop := Claim7.holds Tryd.pinned (.plain (OpenSpec.upto orderTwoSpec)) orderTwoUptoCard

/-- THE SECOND FORM's CARD OF 'straddlelaw11.OrderThree'. -/
def orderThreeUptoCard : Claim7 := { stood := { row := orderThreeUptoRow, standIns := [], harness := (true, "3543c55317b0e37cecd5ae8602e89763b4aef45a7320beba3140e6c487a80e2b"), looks := true }, kinds := [], alts := [], laidByText := true, laidKinds := [.data, .data, .data], laidTests := true, laidLooks := .later }
def OrderThreeUptoCardSaid : Prop := Claim7.holds Tryd.pinned (.plain (OpenSpec.upto orderThreeSpec)) orderThreeUptoCard

/-- THE SECOND FORM's CARD OF 'straddlelaw11.OrderTakes'. -/
def orderTakesUptoCard : Claim7 := { stood := { row := orderTakesUptoRow, standIns := [], harness := (true, "3543c55317b0e37cecd5ae8602e89763b4aef45a7320beba3140e6c487a80e2b"), looks := true }, kinds := [], alts := [], laidByText := true, laidKinds := [.data, .data, .data], laidTests := true, laidLooks := .later }
def OrderTakesUptoCardSaid : Prop := Claim7.holds Tryd.pinned (.plain (OpenSpec.upto orderTakesSpec)) orderTakesUptoCard
end Rows
end Go.Proofs.YtegfionpeimecaaDoor
