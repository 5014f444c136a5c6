/- From a reading of an argument to an order. -/
import Derived.Test.YtegfionpeimecaaDoorOrdSmall
import Derived.ProofKit
import Derived.OpenShut
import Derived.ChangeOld
import Derived.Below
import Derived.Deep.Slices
namespace Go.Proofs.YtegfionpeimecaaDoor
open Go Go.ChangeShapes Go.WideShapes Go.ChangeAt Go.RowKit Go.Mem1 Go.Deep Go.OrdMath

theorem i64_wf {z : Int} (h : (Lit.int .i64 z).wf = true) : -9223372036854775808 ≤ z ∧ z ≤ 9223372036854775807 := by
  simpa [Lit.wf, IntKind.min, IntKind.max, IntKind.signed, IntKind.bits] using h
/-- All numbers of an order are such. -/
def OkO (o : Ord) : Prop := (-9223372036854775808 ≤ o.id ∧ o.id ≤ 9223372036854775807) ∧ (-9223372036854775808 ≤ o.own ∧ o.own ≤ 9223372036854775807) ∧ (-9223372036854775808 ≤ o.q ∧ o.q ≤ 9223372036854775807) ∧ (-9223372036854775808 ≤ o.pr ∧ o.pr ≤ 9223372036854775807)
set_option maxRecDepth 100000 in
theorem open_ord {H : Type} {enc : TypeId × Value → H} {W : World} {held : Bool} {r : Reach} {b0 : Nat} {v : Value} {d : DataW H} {p : List MemPlace}
    (hv : Value.okWide Tryd.prog W r b0 23 v) (h : ∃ m, DataW.trod enc Tryd.prog W 0 (fun _ => true) held m 23 v.cells.toList = some (d, p)) :
    ∃ o : Ord, v = ordV o ∧ OkO o := by
  have hC : Tryd.prog.cellsOf 23 = 7 := by kernel_rfl
  have h1 : Tryd.prog.cellsOf 2 = 1 := by kernel_rfl
  have h2 : Tryd.prog.cellsOf 3 = 1 := by kernel_rfl
  have h3 : Tryd.prog.cellsOf 4 = 1 := by kernel_rfl
  obtain ⟨cs, rfl, hsz⟩ := okWide_struct Tryd.underlying23 hv
  obtain ⟨l⟩ := cs
  obtain ⟨fuel, hf⟩ := h
  match l, hsz.trans hC with
  | [c0, c1, c2, c3, c4, c5, c6], _ =>
    obtain ⟨xs, n2, _, _, _, hlen, hg⟩ := DataW.trod_struct Tryd.underlying23 hf
    match xs, hlen with
    | [y0, y1, y2, y3, y4, y5, y6], _ =>
      have f0 : DataW.trod enc Tryd.prog W 0 (fun _ => true) held n2 2 (([c0, c1, c2, c3, c4, c5, c6].drop 0).take (Tryd.prog.cellsOf 2)) = some y0 := hg 0 _ rfl
      have f1 : DataW.trod enc Tryd.prog W 0 (fun _ => true) held n2 3 (([c0, c1, c2, c3, c4, c5, c6].drop 1).take (Tryd.prog.cellsOf 3)) = some y1 := hg 1 _ rfl
      have f2 : DataW.trod enc Tryd.prog W 0 (fun _ => true) held n2 3 (([c0, c1, c2, c3, c4, c5, c6].drop 2).take (Tryd.prog.cellsOf 3)) = some y2 := hg 2 _ rfl
      have f3 : DataW.trod enc Tryd.prog W 0 (fun _ => true) held n2 2 (([c0, c1, c2, c3, c4, c5, c6].drop 3).take (Tryd.prog.cellsOf 2)) = some y3 := hg 3 _ rfl
      have f4 : DataW.trod enc Tryd.prog W 0 (fun _ => true) held n2 2 (([c0, c1, c2, c3, c4, c5, c6].drop 4).take (Tryd.prog.cellsOf 2)) = some y4 := hg 4 _ rfl
      have f5 : DataW.trod enc Tryd.prog W 0 (fun _ => true) held n2 4 (([c0, c1, c2, c3, c4, c5, c6].drop 5).take (Tryd.prog.cellsOf 4)) = some y5 := hg 5 _ rfl
      have f6 : DataW.trod enc Tryd.prog W 0 (fun _ => true) held n2 3 (([c0, c1, c2, c3, c4, c5, c6].drop 6).take (Tryd.prog.cellsOf 3)) = some y6 := hg 6 _ rfl
      rw [h1] at f0 f3 f4
      rw [h2] at f1 f2 f6
      rw [h3] at f5
      obtain ⟨z0, e0, _, w0⟩ := DataW.trod_int Tryd.underlying2 (x := y0) (by simpa using f0)
      obtain ⟨z1, e1, _, w1⟩ := DataW.trod_int Tryd.underlying3 (x := y1) (by simpa using f1)
      obtain ⟨z2, e2, _, w2⟩ := DataW.trod_int Tryd.underlying3 (x := y2) (by simpa using f2)
      obtain ⟨z3, e3, _, w3⟩ := DataW.trod_int Tryd.underlying2 (x := y3) (by simpa using f3)
      obtain ⟨z4, e4, _, w4⟩ := DataW.trod_int Tryd.underlying2 (x := y4) (by simpa using f4)
      obtain ⟨z5, e5, _⟩ := DataW.trod_bool Tryd.underlying4 (x := y5) (by simpa using f5)
      obtain ⟨z6, e6, _, w6⟩ := DataW.trod_int Tryd.underlying3 (x := y6) (by simpa using f6)
      injection e0 with e0; injection e1 with e1; injection e2 with e2; injection e3 with e3; injection e4 with e4; injection e5 with e5; injection e6 with e6
      subst e0; subst e1; subst e2; subst e3; subst e4; subst e5; subst e6
      exact ⟨⟨z0, z1, z2, z3, z4, z5, z6⟩, rfl, i64_wf w0, i64_wf w1, i64_wf w4, i64_wf w3⟩
end Go.Proofs.YtegfionpeimecaaDoor
