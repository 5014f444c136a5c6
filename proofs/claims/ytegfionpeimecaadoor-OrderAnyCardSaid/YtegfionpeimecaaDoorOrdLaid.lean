/- What the row lists gives the walks: the table of powers of ten. -/
import Derived.Test.YtegfionpeimecaaDoorMsgLaid
import Derived.Test.YtegfionpeimecaaDoorOrdNum
namespace Go.Proofs.YtegfionpeimecaaDoor
open Go Go.RowKit Go.Mem1 Go.ChangeAt

theorem laid10 : Rows.laid_internal_strconv_uint64pow10 (H := Unit) = Lib.tabData .u64 Lib.pow10Tab := by kernel_rfl
theorem tab_of {W : World} (h : laidMetH Tryd.prog laidE W) : Tab W := by
  have h' : laidMet Tryd.prog laidD W ∧ handlesMet Tryd.prog [("errors.errorType", Rows.laid_errors_errorType)] W := h
  have h3 : laidMet Tryd.prog [("internal/strconv.uint64pow10", Rows.laid_internal_strconv_uint64pow10)] W := laidMet.tail (laidMet.tail (show laidMet _ (_ :: _ :: _ :: []) W from h'.1))
  rw [laid10] at h3
  exact Lib.tabIs_of_head (t := 121) (e := 88) (n := 20) (rest := []) ht10 (by kernel_rfl) Tryd.underlying121 Tryd.underlying88 (by kernel_rfl) (by kernel_rfl) h3
end Go.Proofs.YtegfionpeimecaaDoor
