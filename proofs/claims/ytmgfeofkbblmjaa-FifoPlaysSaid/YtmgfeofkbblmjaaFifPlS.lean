/- FifoPlays: a round of the play, its code. -/
import Derived.Test.YtmgfeofkbblmjaaFifPlM
import Derived.Test.YtmgfeofkbblmjaaFifAct
import Derived.Deep.RegionLaw
import Derived.Deep.RegionHeld3
set_option linter.unusedSimpArgs false
namespace Go.Proofs.Ytmgfeofkbblmjaa
open Go.RowKit Go.Mem1 Go.FifMath

/-- At the head of a round of the play. -/
def PlJ (w0 : World) (B g R C : Nat) (vM vF : Value) (nx : Int) (w : World) : Prop := ∃ M F, PlB w0 B g R C vM vF M M F F w ∧ nx = ((M.length + F.length : Nat) : Int)
/-- The first loop of a code: its round. -/
def firstLoop : Code → Option Code
  | .loop c => some c
  | .seq a b => match firstLoop a with
    | some c => some c
    | none => firstLoop b
  | .block _ c => firstLoop c
  | .scope c => firstLoop c
  | .cond _ a b => match firstLoop a with
    | some c => some c
    | none => firstLoop b
  | _ => none
end Go.Proofs.Ytmgfeofkbblmjaa
