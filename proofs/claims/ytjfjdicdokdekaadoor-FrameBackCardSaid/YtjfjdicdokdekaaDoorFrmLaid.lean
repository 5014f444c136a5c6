/- What the frame's rows lay: errors.errorType, crc.halves. -/
import Derived.Test.YtjfjdicdokdekaaDoorFCrcAdd
import Derived.Test.YtjfjdicdokdekaaDoorAs
import Derived.Test.YtjfjdicdokdekaaDoorCards
import Derived.Test.YtjfjdicdokdekaaDoorTie
import Derived.ProofKit
import Derived.OpenShut
import Derived.ChangeOld
import Derived.Below
import Derived.LaidMore
import Derived.Lib.LaidTab
import Derived.LaidHandle
import Derived.LaidLaws
import Derived.Stop.Joined
import Derived.SevenTiedAt
namespace Go.Proofs.YtjfjdicdokdekaaDoor
open Go Go.ChangeShapes Go.WideShapes Go.ChangeAt Go.RowKit Go.Mem1

def laidF : List (String × DataW Unit) := [("errors.errorType", Rows.laid_errors_errorType), ("straddle/crc.halves", Rows.laid_straddle_crc_halves)]
theorem doorF_met (os : Os) (args : Array Value) : laidMetH Tryd.prog laidF ((World.doorLaid Tryd.prog 400 os).forCall (fun _ _ => 0) ⟨#[], args, []⟩).memory :=
  laidMetH_of_parts (laidMet_of_run' 60 (by kernel_rfl) (by kernel_rfl)) (by kernel_rfl)
theorem etF : Tryd.prog.globalNamed "errors.errorType" = some 0 := by kernel_rfl
theorem rtF : (Tryd.prog.cutTypes.find? (·.1 == "internal/reflectlite.rtype")).map (·.2) = some 148 := by kernel_rfl
theorem sizeTF : Tryd.prog.types.size = 311 - 100 := by kernel_rfl
theorem oneRowF : ((List.range (311 - 100)).filter fun t => Tryd.prog.rowNamed t [101, 114, 114, 111, 114]) = [34] := by kernel_rfl
/-- What the condition gives the walks. -/
theorem errTypeF_of {W : World} (h : laidMetH Tryd.prog laidF W) : ErrType W := by
  have h' : laidMet Tryd.prog [("straddle/crc.halves", Rows.laid_straddle_crc_halves)] W ∧ handlesMet Tryd.prog [("errors.errorType", Rows.laid_errors_errorType)] W := h
  obtain ⟨name, u, ty, e1, e2, e3, e4, e5⟩ := h'.2 _ (List.mem_singleton.2 rfl)
  have en : name = [101, 114, 114, 111, 114] := (Option.some.inj e1).symm
  subst en
  obtain rfl := Option.some.inj (rtF.symm.trans e2)
  have hm : ty ∈ (List.range (311 - 100)).filter fun t => Tryd.prog.rowNamed t [101, 114, 114, 111, 114] := List.mem_filter.2 ⟨List.mem_range.2 (by rw [← sizeTF]; exact e3), e4⟩
  rw [oneRowF] at hm
  obtain rfl := List.mem_singleton.1 hm
  have hh : typeHandle Tryd.prog 34 = hnd 34 := by kernel_rfl
  rw [hh] at e5
  unfold ErrType
  simpa using World.var?_cell etF e5 0
theorem htF : Tryd.prog.globalNamed "straddle/crc.halves" = some 1 := by kernel_rfl
def halvesZ : List Int := halvesL.map fun (k : Nat) => (k : Int)
theorem halvesF_of {W : World} (h : laidMetH Tryd.prog laidF W) : Halves W := by
  have h' : laidMet Tryd.prog [("straddle/crc.halves", Rows.laid_straddle_crc_halves)] W ∧ handlesMet Tryd.prog [("errors.errorType", Rows.laid_errors_errorType)] W := h
  have hz : Lib.TabIs Tryd.prog W "straddle/crc.halves" .u32 halvesZ :=
    Lib.tabIs_of_head (t := 170) (e := 51) (n := 16) (rest := []) htF (by kernel_rfl) Tryd.underlying170 Tryd.underlying51 (by kernel_rfl) (by kernel_rfl) h'.1
  intro k hk
  have := hz.cell htF k (by simpa [halvesZ, halvesL] using hk)
  rw [this]
  have : ∀ k : Fin 16, halvesZ.getD k.val 0 = ((halvesL.getD k.val 0 : Nat) : Int) := by decide
  rw [this ⟨k, hk⟩]
end Go.Proofs.YtjfjdicdokdekaaDoor
