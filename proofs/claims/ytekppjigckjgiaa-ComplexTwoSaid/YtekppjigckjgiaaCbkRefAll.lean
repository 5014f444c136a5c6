/- The reference's book of complex orders: Insert, Remove, Reduce of anything. -/
import Derived.Test.YtekppjigckjgiaaCbkIns
import Derived.Test.YtekppjigckjgiaaCbkIn2
import Derived.Test.YtekppjigckjgiaaCbkRem
import Derived.Test.YtekppjigckjgiaaCbkRed
import Derived.Test.YtekppjigckjgiaaCbkRedG
import Derived.Test.YtekppjigckjgiaaCbkRedL
set_option linter.unusedSimpArgs false
namespace Go.Proofs.Ytekppjigckjgiaa
open Go.RowKit Go.Mem1 Go.CbkMath

section
variable {w : World} {B g : Nat} {v1 v2 : Value} {D : Dk}
theorem rins_any (h : RefAt w B g v1 v2 D) (hI : Inv D) (o : CO) : Calls Try.prog 10 #[.pointer (some ⟨g, 0, Option.none⟩), coV o] w (RIns w B g D o) := by
  by_cases hE : insE D o = 0
  · exact rins_ok h hI hE
  · exact rins_bad h hI.most hE
theorem rrem_any (h : RefAt w B g v1 v2 D) (hI : Inv D) (id : Int) : Calls Try.prog 13 #[.pointer (some ⟨g, 0, Option.none⟩), .int .i64 id] w (RRem w B g v1 v2 D id) := by
  cases hE : get2 D id with
  | none => exact rrem_bad h hI.most hE
  | some p => exact rrem_ok h hI hE
theorem rred_any (h : RefAt w B g v1 v2 D) (hI : Inv D) (id u : Int) : Calls Try.prog 15 #[.pointer (some ⟨g, 0, Option.none⟩), .int .i64 id, .int .i64 u] w (RRed w B g D id u) := by
  cases hE : get2 D id with
  | none => exact rred_name h hI.most u hE
  | some p =>
    by_cases hu : 1 ≤ u ∧ u ≤ p.2.un
    · by_cases hu2 : u = p.2.un
      · exact rred_gone h hI hE hu.1 hu2
      · exact rred_less h hI hE hu.1 (by omega)
    · exact rred_arg h hI hE hu
end
end Go.Proofs.Ytekppjigckjgiaa
