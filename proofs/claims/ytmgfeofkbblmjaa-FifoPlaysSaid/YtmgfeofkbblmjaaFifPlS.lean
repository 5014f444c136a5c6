/- FifoPlays: a round of the play, its code. -/
import Derived.Test.YtmgfeofkbblmjaaFifPlM
import Derived.Test.YtmgfeofkbblmjaaFifAct
import Derived.Deep.RegionLaw
import Derived.Deep.RegionHeld3
set_option linter.unusedSimpArgs false
namespace Go.Proofs.Ytmgfeofkbblmjaa
open Go.RowKit Go.Mem1 Go.FifMath

/-- At the head of a round of the play. -/
def PlJ (w0 : World) (B g R C : Nat) (vM vF : Value) (nx : Int) (w : World) : Prop := ∃ M F, PlB w0 B g R C vM vF M M F F w ∧ nx = ((M.length + F.length : Nat) : Int)
/-- The rounds of a code's outermost loops, in the code's order. -/
def loopsOf : Code → List Code
  | .loop c => [c]
  | .seq x y => loopsOf x ++ loopsOf y
  | .cond _ x y => loopsOf x ++ loopsOf y
  | .block _ x => loopsOf x
  | .scope x => loopsOf x
  | _ => []
end Go.Proofs.Ytmgfeofkbblmjaa
