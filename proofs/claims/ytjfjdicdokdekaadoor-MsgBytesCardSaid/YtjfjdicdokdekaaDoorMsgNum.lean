/- Numbers of any size in words: what strconv.Itoa, num.Text and the reference's Text make of them, where the library's table lies as its text lays it. -/
import Derived.Test.YtjfjdicdokdekaaDoorMsgLine
import Derived.Test.YtjfjdicdokdekaaDoorShelfItoa
import Derived.Test.YtjfjdicdokdekaaDoorTextAll
import Derived.Test.YtjfjdicdokdekaaDoorErrAll
import Derived.Test.YtjfjdicdokdekaaDoorMsgLaid
import Derived.Lib.ItoaLen
import Derived.Lib.AppendIntMem
import Derived.Stop.LaidErr
namespace Go.Proofs.YtjfjdicdokdekaaDoor
open Go Go.RowKit Go.Mem1 Go.ChangeAt

def Tab (w : World) : Prop := Lib.TabIs Tryd.prog w "internal/strconv.uint64pow10" .u64 Lib.pow10Tab
theorem ht10 : Tryd.prog.globalNamed "internal/strconv.uint64pow10" = some 2 := by kernel_rfl
theorem Tab.keep {w w' : World} (h : Tab w) (hB : Below w.heap.size w w') : Tab w' := by
  have h0 := h.cell ht10 0 (by rw [Lib.pow10Tab_length]; omega)
  have hlt := World.block_lt_of_cell? w _ h0
  have hb := hB.block _ hlt
  unfold Tab Lib.TabIs World.var? at *
  rw [ht10] at h ⊢
  simp only [Option.bind_some, hb] at h ⊢
  exact h
theorem itoaTxt_size (n : Int) (h : -9223372036854775808 ≤ n ∧ n ≤ 9223372036854775807) : (sl (Lib.itoa n)).size ≤ 30 := by
  have := Lib.itoa_length_le n h.1 h.2
  show (Lib.itoa n).length ≤ 30
  omega
theorem below_of_grow {w : World} {w' : World} (h : ∃ k os, w' = Go.Sort.grow (w.drewN k) os) : Below w.heap.size w w' := by
  obtain ⟨k, os, rfl⟩ := h
  exact Lib.below_grow w.heap.size w (Nat.le_refl _) k os
def bd64 (n : Int) : Prop := -9223372036854775808 ≤ n ∧ n ≤ 9223372036854775807
theorem numFull : Num (fun n => sl (Lib.itoa n)) bd64 Tab where
  itoa := fun k w hk hK => (Tryd.strconv_Itoa k hk.1 hk.2 w hK).mono fun _ _ h => ⟨h.1, below_of_grow h.2⟩
  text := fun k w hk => refText_all k w hk.1 hk.2
  keep := fun _ _ h hB => h.keep hB
  size := fun k hk => itoaTxt_size k hk
theorem numText_full (n : Int) (h : bd64 n) (w : World) (hK : Tab w) : Calls Tryd.prog 87 #[.int .i64 n] w fun r w' => r = .returned (.string (sl (Lib.itoa n))) ∧ Below w.heap.size w w' := by
  have hc := (Tryd.strconv_FormatInt_10 n h.1 h.2 w hK).mono fun e w' h => (show e = .returned (.string (sl (Lib.itoa n))) ∧ Below w.heap.size w w' from ⟨h.1, below_of_grow h.2⟩)
  have H := Lib.hid hc
  clear hc hK
  go_enter Tryd.func87, Tryd.ntmps87
  go_wp2_with (go_at_call 92; refine H.out.mono ?_; rintro e w' ⟨rfl, B⟩)
  go_ret
  exact ⟨rfl, B⟩
theorem numTFull : NumT (fun n => sl (Lib.itoa n)) bd64 Tab where
  text := fun k w hk hK => numText_full k hk w hK
  keep := fun _ _ h hB => h.keep hB
  size := fun k hk => itoaTxt_size k hk
theorem laid10 : Rows.laid_internal_strconv_uint64pow10 (H := Unit) = Lib.tabData .u64 Lib.pow10Tab := by kernel_rfl
theorem tab_of {W : World} (h : laidMetH Tryd.prog laidE W) : Tab W := by
  have h' : laidMet Tryd.prog laidD W ∧ handlesMet Tryd.prog [("errors.errorType", Rows.laid_errors_errorType)] W := h
  have h3 : laidMet Tryd.prog [("internal/strconv.uint64pow10", Rows.laid_internal_strconv_uint64pow10)] W := laidMet.tail (laidMet.tail (show laidMet _ (_ :: _ :: _ :: []) W from h'.1))
  rw [laid10] at h3
  exact Lib.tabIs_of_head (t := 179) (e := 144) (n := 20) (rest := []) ht10 (by kernel_rfl) Tryd.underlying179 Tryd.underlying144 (by kernel_rfl) (by kernel_rfl) h3
end Go.Proofs.YtjfjdicdokdekaaDoor
