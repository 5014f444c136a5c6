/- From a reading of an argument to the words of the walks: a row of acts (straddlelaw14.Act). -/
import Derived.Test.YtfidihmiadjpjaaOpenBy
set_option linter.unusedSimpArgs false
namespace Go.Proofs.Ytfidihmiadjpjaa
open Go.ChangeShapes Go.WideShapes Go.ChangeAt Go.RowKit Go.Mem1 Go.Deep

/-- An act: its kind, its owner, series, side, its order's number, its quantity. -/
structure Ac where
  op : Int
  ow : Int
  se : Int
  si : Int
  id : Int
  q : Int
instance : Inhabited Ac := ⟨⟨0, 0, 0, 0, 0, 0⟩⟩
/-- A slice value that reads as acts, below block B. -/
structure Acts (w : World) (B : Nat) (A : Option Addr) (n : Nat) (l : List Ac) : Prop where
  len : l.length = n
  at_ : ∀ (k : Nat) (x : Ac), l[k]? = some x → ∃ b off, A = some ⟨b, off, none⟩ ∧ b < B ∧ w.cell? ⟨b, off + k * 6, none⟩ = some (.int .i64 x.op) ∧ w.cell? ⟨b, off + k * 6 + 1, none⟩ = some (.int .i64 x.ow) ∧ w.cell? ⟨b, off + k * 6 + 2, none⟩ = some (.int .i64 x.se) ∧ w.cell? ⟨b, off + k * 6 + 3, none⟩ = some (.int .i64 x.si) ∧ w.cell? ⟨b, off + k * 6 + 4, none⟩ = some (.int .i64 x.id) ∧ w.cell? ⟨b, off + k * 6 + 5, none⟩ = some (.int .i64 x.q)
theorem Acts.get {w : World} {B : Nat} {A : Option Addr} {n : Nat} {l : List Ac} (h : Acts w B A n l) {k : Nat} (hk : k < n) : ∃ x, l[k]? = some x := ⟨l[k]'(by rw [h.len]; exact hk), List.getElem?_eq_getElem _⟩
set_option maxRecDepth 100000 in
theorem open_acts {H : Type} {enc : TypeId × Value → H} {W : World} {held : Bool} {a : Option Addr} {n c : Nat} {d : DataW H} {p : List MemPlace}
    (h : ∃ m, DataW.trod enc Try.prog W 0 (fun _ => true) held m 22 (Value.slice a n c).cells.toList = some (d, p)) : ∃ l, Acts W W.heap.size a n l := by
  obtain ⟨fuel, hf⟩ := h
  have hC : Try.prog.cellsOf 28 = 6 := by kernel_rfl
  have h3 : Try.prog.cellsOf 3 = 1 := by kernel_rfl
  have h2 : Try.prog.cellsOf 2 = 1 := by kernel_rfl
  rcases open_slice Try.underlying22 hf with ⟨hcs, _⟩ | ⟨x, n', c', m, k, D, Pl, hcs, _, hl, hm, hmm, _, hx⟩
  · simp [Value.cells] at hcs
    obtain ⟨rfl, rfl, rfl⟩ := hcs
    exact ⟨[], ⟨rfl, fun k i hi => by simp at hi⟩⟩
  · simp [Value.cells] at hcs
    obtain ⟨rfl, rfl, rfl⟩ := hcs
    simp only [if_true] at hmm
    subst hmm
    rw [hC] at hx
    obtain ⟨f, hfx⟩ := choose_lt (α := Ac) (n := n) (p := fun i s => ∃ b off, some x = some ⟨b, off, none⟩ ∧ b < W.heap.size ∧ W.cell? ⟨b, off + i * 6, none⟩ = some (.int .i64 s.op) ∧ W.cell? ⟨b, off + i * 6 + 1, none⟩ = some (.int .i64 s.ow) ∧ W.cell? ⟨b, off + i * 6 + 2, none⟩ = some (.int .i64 s.se) ∧ W.cell? ⟨b, off + i * 6 + 3, none⟩ = some (.int .i64 s.si) ∧ W.cell? ⟨b, off + i * 6 + 4, none⟩ = some (.int .i64 s.id) ∧ W.cell? ⟨b, off + i * 6 + 5, none⟩ = some (.int .i64 s.q)) (fun i hi => by
      obtain ⟨cs', hc, ht⟩ := hx i (by omega)
      obtain ⟨_, hlen, hat⟩ := World.cells?_some hc
      obtain ⟨xs, n2, _, _, _, hxl, hf⟩ := DataW.trod_struct Try.underlying28 ht
      match cs', hlen, xs, hxl with
      | [u0, u1, u2, u3, u4, u5], _, [y0, y1, y2, y3, y4, y5], _ =>
        have f0 : DataW.trod enc Try.prog W 0 (fun _ => true) held n2 3 (([u0, u1, u2, u3, u4, u5].drop 0).take (Try.prog.cellsOf 3)) = some y0 := hf 0 _ rfl
        have f1 : DataW.trod enc Try.prog W 0 (fun _ => true) held n2 3 (([u0, u1, u2, u3, u4, u5].drop 1).take (Try.prog.cellsOf 3)) = some y1 := hf 1 _ rfl
        have f2 : DataW.trod enc Try.prog W 0 (fun _ => true) held n2 3 (([u0, u1, u2, u3, u4, u5].drop 2).take (Try.prog.cellsOf 3)) = some y2 := hf 2 _ rfl
        have f3 : DataW.trod enc Try.prog W 0 (fun _ => true) held n2 3 (([u0, u1, u2, u3, u4, u5].drop 3).take (Try.prog.cellsOf 3)) = some y3 := hf 3 _ rfl
        have f4 : DataW.trod enc Try.prog W 0 (fun _ => true) held n2 2 (([u0, u1, u2, u3, u4, u5].drop 4).take (Try.prog.cellsOf 2)) = some y4 := hf 4 _ rfl
        have f5 : DataW.trod enc Try.prog W 0 (fun _ => true) held n2 2 (([u0, u1, u2, u3, u4, u5].drop 5).take (Try.prog.cellsOf 2)) = some y5 := hf 5 _ rfl
        rw [h3] at f0 f1 f2 f3
        rw [h2] at f4 f5
        obtain ⟨z0, e0, _, _⟩ := DataW.trod_int Try.underlying3 (x := y0) (by simpa using f0)
        obtain ⟨z1, e1, _, _⟩ := DataW.trod_int Try.underlying3 (x := y1) (by simpa using f1)
        obtain ⟨z2, e2, _, _⟩ := DataW.trod_int Try.underlying3 (x := y2) (by simpa using f2)
        obtain ⟨z3, e3, _, _⟩ := DataW.trod_int Try.underlying3 (x := y3) (by simpa using f3)
        obtain ⟨z4, e4, _, _⟩ := DataW.trod_int Try.underlying2 (x := y4) (by simpa using f4)
        obtain ⟨z5, e5, _, _⟩ := DataW.trod_int Try.underlying2 (x := y5) (by simpa using f5)
        have g0 := hat 0 (by omega)
        have g1 := hat 1 (by omega)
        have g2 := hat 2 (by omega)
        have g3 := hat 3 (by omega)
        have g4 := hat 4 (by omega)
        have g5 := hat 5 (by omega)
        injection e0 with e0
        injection e1 with e1
        injection e2 with e2
        injection e3 with e3
        injection e4 with e4
        injection e5 with e5
        subst e0; subst e1; subst e2; subst e3; subst e4; subst e5
        obtain ⟨b, off, spot⟩ := x
        have hsp : spot = none := by
          obtain ⟨cs0, hc0', ht0⟩ := hx 0 (by omega)
          obtain ⟨_, hlen0, hat0⟩ := World.cells?_some hc0'
          match cs0, hlen0 with
          | [_, _, _, _, _, _], _ =>
            have h00 := hat0 0 (by omega)
            simpa [Addr.add] using World.cell?_spot (show W.cell? _ = some _ from h00)
        subst hsp
        rw [Go.Deep.add_add, Addr.add_lit] at g0 g1 g2 g3 g4 g5
        refine ⟨⟨z0, z1, z2, z3, z4, z5⟩, b, off, rfl, World.block_lt_of_cell? W _ g0, ?_, ?_, ?_, ?_, ?_, ?_⟩
        · simpa using g0
        · rw [Nat.add_assoc]; simpa using g1
        · rw [Nat.add_assoc]; simpa using g2
        · rw [Nat.add_assoc]; simpa using g3
        · rw [Nat.add_assoc]; simpa using g4
        · rw [Nat.add_assoc]; simpa using g5)
    refine ⟨(List.range n).map f, ⟨by simp, fun k s hs => ?_⟩⟩
    have hk : k < n := by
      rcases Nat.lt_or_ge k n with h | h
      · exact h
      · rw [List.getElem?_eq_none (by simpa using h)] at hs; cases hs
    rw [List.getElem?_map, List.getElem?_range hk] at hs
    injection hs with hs
    subst hs
    exact hfx k hk
end Go.Proofs.Ytfidihmiadjpjaa
