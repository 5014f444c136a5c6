/- From a reading of an argument to the words of the walks: a row of acts (straddlelaw21.Act). -/
import Derived.Test.YtekppjigckjgiaaOpenCo
set_option linter.unusedSimpArgs false
namespace Go.Proofs.Ytekppjigckjgiaa
open Go.ChangeShapes Go.WideShapes Go.ChangeAt Go.RowKit Go.Mem1 Go.Deep

/-- An act: its kind, its order, its number, how many. -/
structure Ac where
  op : Int
  oi : Int
  oo : Int
  os : Int
  on : Int
  ou : Int
  id : Int
  u : Int
instance : Inhabited Ac := ⟨⟨0, 0, 0, 0, 0, 0, 0, 0⟩⟩
/-- A slice value that reads as acts, below block B. -/
structure Acts (w : World) (B : Nat) (A : Option Addr) (n : Nat) (l : List Ac) : Prop where
  len : l.length = n
  at_ : ∀ (k : Nat) (x : Ac), l[k]? = some x → ∃ b off, A = some ⟨b, off, Option.none⟩ ∧ b < B ∧ w.cell? ⟨b, off + k * 8, Option.none⟩ = some (.int .i64 x.op) ∧ w.cell? ⟨b, off + k * 8 + 1, Option.none⟩ = some (.int .i64 x.oi) ∧ w.cell? ⟨b, off + k * 8 + 2, Option.none⟩ = some (.int .i64 x.oo) ∧ w.cell? ⟨b, off + k * 8 + 3, Option.none⟩ = some (.int .i64 x.os) ∧ w.cell? ⟨b, off + k * 8 + 4, Option.none⟩ = some (.int .i64 x.on) ∧ w.cell? ⟨b, off + k * 8 + 5, Option.none⟩ = some (.int .i64 x.ou) ∧ w.cell? ⟨b, off + k * 8 + 6, Option.none⟩ = some (.int .i64 x.id) ∧ w.cell? ⟨b, off + k * 8 + 7, Option.none⟩ = some (.int .i64 x.u)
theorem Acts.get {w : World} {B : Nat} {A : Option Addr} {n : Nat} {l : List Ac} (h : Acts w B A n l) {k : Nat} (hk : k < n) : ∃ x, l[k]? = some x := ⟨l[k]'(by rw [h.len]; exact hk), List.getElem?_eq_getElem _⟩
set_option maxRecDepth 100000 in
theorem open_acts {H : Type} {enc : TypeId × Value → H} {W : World} {held : Bool} {a : Option Addr} {n c : Nat} {d : DataW H} {p : List MemPlace}
    (h : ∃ m, DataW.trod enc Try.prog W 0 (fun _ => true) held m 22 (Value.slice a n c).cells.toList = some (d, p)) : ∃ l, Acts W W.heap.size a n l := by
  obtain ⟨fuel, hf⟩ := h
  have hC : Try.prog.cellsOf 33 = 8 := by kernel_rfl
  have h3 : Try.prog.cellsOf 3 = 1 := by kernel_rfl
  have h2 : Try.prog.cellsOf 2 = 1 := by kernel_rfl
  have h5 : Try.prog.cellsOf 31 = 5 := by kernel_rfl
  rcases open_slice Try.underlying22 hf with ⟨hcs, _⟩ | ⟨x, n', c', m, k, D, Pl, hcs, _, hl, hm, hmm, _, hx⟩
  · simp [Value.cells] at hcs
    obtain ⟨rfl, rfl, rfl⟩ := hcs
    exact ⟨[], ⟨rfl, fun k i hi => by simp at hi⟩⟩
  · simp [Value.cells] at hcs
    obtain ⟨rfl, rfl, rfl⟩ := hcs
    simp only [if_true] at hmm
    subst hmm
    rw [hC] at hx
    obtain ⟨f, hfx⟩ := choose_lt (α := Ac) (n := n) (p := fun i s => ∃ b off, some x = some ⟨b, off, Option.none⟩ ∧ b < W.heap.size ∧ W.cell? ⟨b, off + i * 8, Option.none⟩ = some (.int .i64 s.op) ∧ W.cell? ⟨b, off + i * 8 + 1, Option.none⟩ = some (.int .i64 s.oi) ∧ W.cell? ⟨b, off + i * 8 + 2, Option.none⟩ = some (.int .i64 s.oo) ∧ W.cell? ⟨b, off + i * 8 + 3, Option.none⟩ = some (.int .i64 s.os) ∧ W.cell? ⟨b, off + i * 8 + 4, Option.none⟩ = some (.int .i64 s.on) ∧ W.cell? ⟨b, off + i * 8 + 5, Option.none⟩ = some (.int .i64 s.ou) ∧ W.cell? ⟨b, off + i * 8 + 6, Option.none⟩ = some (.int .i64 s.id) ∧ W.cell? ⟨b, off + i * 8 + 7, Option.none⟩ = some (.int .i64 s.u)) (fun i hi => by
      obtain ⟨cs', hc, ht⟩ := hx i (by omega)
      obtain ⟨_, hlen, hat⟩ := World.cells?_some hc
      obtain ⟨xs, n2, _, _, _, hxl, hf⟩ := DataW.trod_struct Try.underlying33 ht
      match cs', hlen, xs, hxl with
      | [u0, u1, u2, u3, u4, u5, u6, u7], _, [y0, y1, y2, y3], _ =>
        have f0 : DataW.trod enc Try.prog W 0 (fun _ => true) held n2 3 (([u0, u1, u2, u3, u4, u5, u6, u7].drop 0).take (Try.prog.cellsOf 3)) = some y0 := hf 0 _ rfl
        have f1 : DataW.trod enc Try.prog W 0 (fun _ => true) held n2 31 (([u0, u1, u2, u3, u4, u5, u6, u7].drop 1).take (Try.prog.cellsOf 31)) = some y1 := hf 1 _ rfl
        have f6 : DataW.trod enc Try.prog W 0 (fun _ => true) held n2 2 (([u0, u1, u2, u3, u4, u5, u6, u7].drop 6).take (Try.prog.cellsOf 2)) = some y2 := hf 2 _ rfl
        have f7 : DataW.trod enc Try.prog W 0 (fun _ => true) held n2 2 (([u0, u1, u2, u3, u4, u5, u6, u7].drop 7).take (Try.prog.cellsOf 2)) = some y3 := hf 3 _ rfl
        rw [h3] at f0
        rw [h5] at f1
        rw [h2] at f6 f7
        obtain ⟨ys, n3, _, _, _, hyl, hg⟩ := DataW.trod_struct Try.underlying31 (x := y1) (by simpa using f1)
        match ys, hyl with
        | [t0, t1, t2, t3, t4], _ =>
          have g0 : DataW.trod enc Try.prog W 0 (fun _ => true) held n3 2 (([u1, u2, u3, u4, u5].drop 0).take (Try.prog.cellsOf 2)) = some t0 := hg 0 _ rfl
          have g1 : DataW.trod enc Try.prog W 0 (fun _ => true) held n3 3 (([u1, u2, u3, u4, u5].drop 1).take (Try.prog.cellsOf 3)) = some t1 := hg 1 _ rfl
          have g2 : DataW.trod enc Try.prog W 0 (fun _ => true) held n3 3 (([u1, u2, u3, u4, u5].drop 2).take (Try.prog.cellsOf 3)) = some t2 := hg 2 _ rfl
          have g3 : DataW.trod enc Try.prog W 0 (fun _ => true) held n3 2 (([u1, u2, u3, u4, u5].drop 3).take (Try.prog.cellsOf 2)) = some t3 := hg 3 _ rfl
          have g4 : DataW.trod enc Try.prog W 0 (fun _ => true) held n3 2 (([u1, u2, u3, u4, u5].drop 4).take (Try.prog.cellsOf 2)) = some t4 := hg 4 _ rfl
          rw [h2] at g0 g3 g4
          rw [h3] at g1 g2
          obtain ⟨z0, e0, _, _⟩ := DataW.trod_int Try.underlying3 (x := y0) (by simpa using f0)
          obtain ⟨z1, e1, _, _⟩ := DataW.trod_int Try.underlying2 (x := t0) (by simpa using g0)
          obtain ⟨z2, e2, _, _⟩ := DataW.trod_int Try.underlying3 (x := t1) (by simpa using g1)
          obtain ⟨z3, e3, _, _⟩ := DataW.trod_int Try.underlying3 (x := t2) (by simpa using g2)
          obtain ⟨z4, e4, _, _⟩ := DataW.trod_int Try.underlying2 (x := t3) (by simpa using g3)
          obtain ⟨z5, e5, _, _⟩ := DataW.trod_int Try.underlying2 (x := t4) (by simpa using g4)
          obtain ⟨z6, e6, _, _⟩ := DataW.trod_int Try.underlying2 (x := y2) (by simpa using f6)
          obtain ⟨z7, e7, _, _⟩ := DataW.trod_int Try.underlying2 (x := y3) (by simpa using f7)
          have k0 := hat 0 (by omega)
          have k1 := hat 1 (by omega)
          have k2 := hat 2 (by omega)
          have k3 := hat 3 (by omega)
          have k4 := hat 4 (by omega)
          have k5 := hat 5 (by omega)
          have k6 := hat 6 (by omega)
          have k7 := hat 7 (by omega)
          injection e0 with e0
          injection e1 with e1
          injection e2 with e2
          injection e3 with e3
          injection e4 with e4
          injection e5 with e5
          injection e6 with e6
          injection e7 with e7
          subst e0; subst e1; subst e2; subst e3; subst e4; subst e5; subst e6; subst e7
          obtain ⟨b, off, spot⟩ := x
          have hsp : spot = Option.none := by
            obtain ⟨cs0, hc0', ht0⟩ := hx 0 (by omega)
            obtain ⟨_, hlen0, hat0⟩ := World.cells?_some hc0'
            match cs0, hlen0 with
            | [_, _, _, _, _, _, _, _], _ =>
              have h00 := hat0 0 (by omega)
              simpa [Addr.add] using World.cell?_spot (show W.cell? _ = some _ from h00)
          subst hsp
          rw [Go.Deep.add_add, Addr.add_lit] at k0 k1 k2 k3 k4 k5 k6 k7
          refine ⟨⟨z0, z1, z2, z3, z4, z5, z6, z7⟩, b, off, rfl, World.block_lt_of_cell? W _ k0, ?_, ?_, ?_, ?_, ?_, ?_, ?_, ?_⟩
          · simpa using k0
          · rw [Nat.add_assoc]; simpa using k1
          · rw [Nat.add_assoc]; simpa using k2
          · rw [Nat.add_assoc]; simpa using k3
          · rw [Nat.add_assoc]; simpa using k4
          · rw [Nat.add_assoc]; simpa using k5
          · rw [Nat.add_assoc]; simpa using k6
          · rw [Nat.add_assoc]; simpa using k7)
    refine ⟨(List.range n).map f, ⟨by simp, fun k s hs => ?_⟩⟩
    have hk : k < n := by
      rcases Nat.lt_or_ge k n with h | h
      · exact h
      · rw [List.getElem?_eq_none (by simpa using h)] at hs; cases hs
    rw [List.getElem?_map, List.getElem?_range hk] at hs
    injection hs with hs
    subst hs
    exact hfx k hk
end Go.Proofs.Ytekppjigckjgiaa
