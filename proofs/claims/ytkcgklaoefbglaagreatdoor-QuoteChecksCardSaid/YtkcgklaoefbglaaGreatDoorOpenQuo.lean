/- From a reading of an argument to a quote. -/
import Derived.Test.YtkcgklaoefbglaaGreatDoorQuoChk
import Derived.ProofKit
import Derived.OpenShut
import Derived.ChangeOld
import Derived.Below
import Derived.Deep.Slices
namespace Go.Proofs.YtkcgklaoefbglaaGreatDoor
open Go Go.ChangeShapes Go.WideShapes Go.ChangeAt Go.RowKit Go.Mem1 Go.Deep

set_option maxRecDepth 100000 in
theorem open_quo {H : Type} {enc : TypeId × Value → H} {W : World} {held : Bool} {r : Reach} {b0 : Nat} {v : Value} {d : DataW H} {p : List MemPlace}
    (hv : Value.okWide Tryz.prog W r b0 23 v) (h : ∃ m, DataW.trod enc Tryz.prog W 0 (fun _ => true) held m 23 v.cells.toList = some (d, p)) :
    ∃ q : Quo, v = quoV q := by
  have hC : Tryz.prog.cellsOf 23 = 4 := by kernel_rfl
  have h1 : Tryz.prog.cellsOf 2 = 1 := by kernel_rfl
  obtain ⟨cs, rfl, hsz⟩ := okWide_struct Tryz.underlying23 hv
  obtain ⟨l⟩ := cs
  obtain ⟨fuel, hf⟩ := h
  match l, hsz.trans hC with
  | [c0, c1, c2, c3], _ =>
    obtain ⟨xs, n2, _, _, _, hlen, hg⟩ := DataW.trod_struct Tryz.underlying23 hf
    match xs, hlen with
    | [y0, y1, y2, y3], _ =>
      have f0 : DataW.trod enc Tryz.prog W 0 (fun _ => true) held n2 2 (([c0, c1, c2, c3].drop 0).take (Tryz.prog.cellsOf 2)) = some y0 := hg 0 _ rfl
      have f1 : DataW.trod enc Tryz.prog W 0 (fun _ => true) held n2 2 (([c0, c1, c2, c3].drop 1).take (Tryz.prog.cellsOf 2)) = some y1 := hg 1 _ rfl
      have f2 : DataW.trod enc Tryz.prog W 0 (fun _ => true) held n2 2 (([c0, c1, c2, c3].drop 2).take (Tryz.prog.cellsOf 2)) = some y2 := hg 2 _ rfl
      have f3 : DataW.trod enc Tryz.prog W 0 (fun _ => true) held n2 2 (([c0, c1, c2, c3].drop 3).take (Tryz.prog.cellsOf 2)) = some y3 := hg 3 _ rfl
      rw [h1] at f0 f1 f2 f3
      obtain ⟨z0, e0, _, w0⟩ := DataW.trod_int Tryz.underlying2 (x := y0) (by simpa using f0)
      obtain ⟨z1, e1, _, w1⟩ := DataW.trod_int Tryz.underlying2 (x := y1) (by simpa using f1)
      obtain ⟨z2, e2, _, w2⟩ := DataW.trod_int Tryz.underlying2 (x := y2) (by simpa using f2)
      obtain ⟨z3, e3, _, w3⟩ := DataW.trod_int Tryz.underlying2 (x := y3) (by simpa using f3)
      injection e0 with e0; injection e1 with e1; injection e2 with e2; injection e3 with e3
      subst e0; subst e1; subst e2; subst e3
      exact ⟨⟨z0, z1, z2, z3⟩, rfl⟩
end Go.Proofs.YtkcgklaoefbglaaGreatDoor
