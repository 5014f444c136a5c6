/-
  DERIVED. GIVEN WITH THE SEED: THE CARDS: each row of YtihdebgofjacpaaDoorRows.lean that lists a variable, with what it lists TIED to the program's text (the seventh form; the later family's looks); each row that meets fmt, with fmt's text TOLD by the authors' own Lean function (tested against real Go, not proved from fmt's source: count such statements apart). THE CARD IS WHAT COUNTS. Prove the row's statement (the work); the ties are given (YtihdebgofjacpaaDoorTie.lean); close each card by the builder's one call (the guide's Derived/Test/ToyasCard.lean, 'card_holds'). Laid BY PROGRAM, IN A SANDBOX (cutbox-door.mjs). By AI agents, Wed Nov 11 2026. No macro, syntax, notation, axiom, sorry.
-/
import Derived.Test.YtihdebgofjacpaaDoorRows
import GoSem.ClaimSeven
namespace Go.Proofs.YtihdebgofjacpaaDoor
namespace Rows

/-- THE TIED CARD OF 'straddlelaw6.GridAny'. -/
def gridAnyCard : Claim7 := { stood := { row := gridAnyRow, standIns := [], harness := (true, "ebec53f3330550f97b1e79033923231f02608589a81ecc1795303ddb981d0979"), looks := true }, kinds := [], alts := [], laidByText := true, laidKinds := [.handle], laidTests := true, laidLooks := .later }
def GridAnyCardSaid : Prop := Claim7.holds Tryd.pinned (.plain (OpenSpec.ofChange gridAnySpec)) gridAnyCard

/-- THE SECOND FORM's CARD OF 'straddlelaw6.GridAny'. -/
def gridAnyUptoCard : Claim7 := { stood := { row := gridAnyUptoRow, standIns := [], harness := (true, "ebec53f3330550f97b1e79033923231f02608589a81ecc1795303ddb981d0979"), looks := true }, kinds := [], alts := [], laidByText := true, laidKinds := [.handle], laidTests := true, laidLooks := .later }
def GridAnyUptoCardSaid : Prop := Claim7.holds Tryd.pinned (.plain (OpenSpec.upto gridAnySpec)) gridAnyUptoCard
end Rows
end Go.Proofs.YtihdebgofjacpaaDoor
