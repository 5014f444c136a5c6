/- From a reading of an argument to the words of the walks: a table of Steps. -/
import Derived.Test.YtkcgklaoefbglaaGreatDoorGrdMem
import Derived.ProofKit
import Derived.OpenShut
import Derived.ChangeOld
import Derived.Below
import Derived.Deep.Slices
namespace Go.Proofs.YtkcgklaoefbglaaGreatDoor
open Go.ChangeShapes Go.WideShapes Go.ChangeAt Go.RowKit Go.Mem1 Go.Deep Go.GridMath

theorem tOwn : ownKnob Tryz.prog.godebug = none := by kernel_rfl
theorem tLaidOut : laidOutB Tryz.prog = true := by kernel_rfl
set_option maxRecDepth 100000 in
theorem open_table {H : Type} {enc : TypeId × Value → H} {W : World} {held : Bool} {a : Option Addr} {n c : Nat} {d : DataW H} {p : List MemPlace}
    (h : ∃ m, DataW.trod enc Tryz.prog W 0 (fun _ => true) held m 25 (Value.slice a n c).cells.toList = some (d, p)) : ∃ l, TabAt W W.heap.size a n l := by
  obtain ⟨fuel, hf⟩ := h
  have hC : Tryz.prog.cellsOf 43 = 2 := by kernel_rfl
  have h2 : Tryz.prog.cellsOf 2 = 1 := by kernel_rfl
  rcases open_slice Tryz.underlying25 hf with ⟨hcs, _⟩ | ⟨x, n', c', m, k, D, Pl, hcs, _, hl, hm, hmm, _, hx⟩
  · simp [Value.cells] at hcs
    obtain ⟨rfl, rfl, rfl⟩ := hcs
    exact ⟨[], TabAt.empty _ _ _⟩
  · simp [Value.cells] at hcs
    obtain ⟨rfl, rfl, rfl⟩ := hcs
    simp only [if_true] at hmm
    subst hmm
    rw [hC] at hx
    obtain ⟨f, hfx⟩ := choose_lt (α := Stp) (n := n) (p := fun i s => ∃ b off, some x = some ⟨b, off, none⟩ ∧ b < W.heap.size ∧ W.cell? ⟨b, off + i * 2, none⟩ = some (.int .i64 s.1) ∧ W.cell? ⟨b, off + i * 2 + 1, none⟩ = some (.int .i64 s.2)) (fun i hi => by
      obtain ⟨cs', hc, ht⟩ := hx i (by omega)
      obtain ⟨_, hlen, hat⟩ := World.cells?_some hc
      obtain ⟨xs, n2, _, _, _, hxl, hf⟩ := DataW.trod_struct Tryz.underlying43 ht
      match cs', hlen, xs, hxl with
      | [u0, u1], _, [y0, y1], _ =>
        have f0 : DataW.trod enc Tryz.prog W 0 (fun _ => true) held n2 2 (([u0, u1].drop 0).take (Tryz.prog.cellsOf 2)) = some y0 := hf 0 _ rfl
        have f1 : DataW.trod enc Tryz.prog W 0 (fun _ => true) held n2 2 (([u0, u1].drop 1).take (Tryz.prog.cellsOf 2)) = some y1 := hf 1 _ rfl
        rw [h2] at f0 f1
        obtain ⟨z0, e0, _, _⟩ := DataW.trod_int Tryz.underlying2 (x := y0) (by simpa using f0)
        obtain ⟨z1, e1, _, _⟩ := DataW.trod_int Tryz.underlying2 (x := y1) (by simpa using f1)
        have g0 := hat 0 (by omega)
        have g1 := hat 1 (by omega)
        injection e0 with e0
        injection e1 with e1
        subst e0; subst e1
        obtain ⟨b, off, spot⟩ := x
        have hsp : spot = none := by
          obtain ⟨cs0, hc0', ht0⟩ := hx 0 (by omega)
          obtain ⟨_, hlen0, hat0⟩ := World.cells?_some hc0'
          match cs0, hlen0 with
          | [_, _], _ =>
            have h00 := hat0 0 (by omega)
            simpa [Addr.add] using World.cell?_spot (show W.cell? _ = some _ from h00)
        subst hsp
        rw [Go.Deep.add_add, Addr.add_lit] at g0 g1
        refine ⟨(z0, z1), b, off, rfl, World.block_lt_of_cell? W _ g0, ?_, ?_⟩
        · simpa using g0
        · rw [Nat.add_assoc]; simpa using g1)
    refine ⟨(List.range n).map f, ⟨by simp, fun k s hs => ?_⟩⟩
    have hk : k < n := by
      rcases Nat.lt_or_ge k n with h | h
      · exact h
      · rw [List.getElem?_eq_none (by simpa using h)] at hs; cases hs
    rw [List.getElem?_map, List.getElem?_range hk] at hs
    injection hs with hs
    subst hs
    exact hfx k hk
end Go.Proofs.YtkcgklaoefbglaaGreatDoor
