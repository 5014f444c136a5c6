/- A row of items (straddlelaw3.Item): a flag, a number, a row of bytes; opened from an argument. -/
import Derived.Test.YtdgnkpbokoomkaaOpenB
import Derived.Test.YtdgnkpbokoomkaaCodMath
namespace Go.Proofs.Ytdgnkpbokoomkaa
open Go.ChangeShapes Go.WideShapes Go.ChangeAt Go.RowKit Go.Mem1 Go.Deep

structure Itm where
  t : Bool
  z : Int
  l : List Nat
instance : Inhabited Itm := ⟨⟨false, 0, []⟩⟩
/-- An item's bytes. -/
def Itm.enc (i : Itm) : List Nat := if i.t then CodMath.ren i.l else CodMath.ien i.z
/-- A slice value that reads as items, below block B. -/
structure Items (w : World) (B : Nat) (A : Option Addr) (n : Nat) (its : List Itm) : Prop where
  len : its.length = n
  at_ : ∀ (k : Nat) (i : Itm), its[k]? = some i → ∃ b off A1 n1 c1, A = some ⟨b, off, none⟩ ∧ b < B ∧ w.cell? ⟨b, off + k * 3, none⟩ = some (.bool i.t) ∧ w.cell? ⟨b, off + k * 3 + 1, none⟩ = some (.int .i64 i.z) ∧
    w.cell? ⟨b, off + k * 3 + 2, none⟩ = some (.slice A1 n1 c1) ∧ (A1 = none → c1 = 0) ∧ Byt w B A1 n1 i.l ∧ -9223372036854775808 ≤ i.z ∧ i.z ≤ 9223372036854775807
theorem Items.carry {w w' : World} {B : Nat} {A : Option Addr} {n : Nat} {its : List Itm} (h : Items w B A n its) (hb : Below B w w') : Items w' B A n its :=
  ⟨h.len, fun k i hi => by
    obtain ⟨b, off, A1, n1, c1, e, hlt, h1, h2, h3, h4, h5, h6⟩ := h.at_ k i hi
    exact ⟨b, off, A1, n1, c1, e, hlt, (hb.cell (p := ⟨b, _, none⟩) hlt).trans h1, (hb.cell (p := ⟨b, _, none⟩) hlt).trans h2, (hb.cell (p := ⟨b, _, none⟩) hlt).trans h3, h4, h5.carry hb, h6⟩⟩
theorem Items.get {w : World} {B : Nat} {A : Option Addr} {n : Nat} {its : List Itm} (h : Items w B A n its) {k : Nat} (hk : k < n) : ∃ i, its[k]? = some i := ⟨its[k]'(by rw [h.len]; exact hk), List.getElem?_eq_getElem _⟩

theorem open_items {H : Type} {enc : TypeId × Value → H} {W : World} {held : Bool} {a : Option Addr} {n c : Nat} {d : DataW H} {p : List MemPlace}
    (h : ∃ m, DataW.trod enc Try.prog W 0 (fun _ => true) held m 22 (Value.slice a n c).cells.toList = some (d, p)) : ∃ its, Items W W.heap.size a n its ∧ (a = none → c = 0) := by
  obtain ⟨fuel, hf⟩ := h
  have hC : Try.prog.cellsOf 29 = 3 := by kernel_rfl
  have h4 : Try.prog.cellsOf 4 = 1 := by kernel_rfl
  have h2 : Try.prog.cellsOf 2 = 1 := by kernel_rfl
  have h5 : Try.prog.cellsOf 25 = 1 := by kernel_rfl
  rcases open_slice Try.underlying22 hf with ⟨hcs, _⟩ | ⟨x, n', c', m, k, D, Pl, hcs, _, hl, hm, hmm, _, hx⟩
  · simp [Value.cells] at hcs
    obtain ⟨rfl, rfl, rfl⟩ := hcs
    exact ⟨[], ⟨rfl, fun k i hi => by simp at hi⟩, fun _ => rfl⟩
  · simp [Value.cells] at hcs
    obtain ⟨rfl, rfl, rfl⟩ := hcs
    simp only [if_true] at hmm
    subst hmm
    rw [hC] at hx
    obtain ⟨f, hfx⟩ := choose_lt (α := Itm) (n := n) (p := fun i it => ∃ b off A1 n1 c1, some x = some ⟨b, off, none⟩ ∧ b < W.heap.size ∧ W.cell? ⟨b, off + i * 3, none⟩ = some (.bool it.t) ∧ W.cell? ⟨b, off + i * 3 + 1, none⟩ = some (.int .i64 it.z) ∧
        W.cell? ⟨b, off + i * 3 + 2, none⟩ = some (.slice A1 n1 c1) ∧ (A1 = none → c1 = 0) ∧ Byt W W.heap.size A1 n1 it.l ∧ -9223372036854775808 ≤ it.z ∧ it.z ≤ 9223372036854775807) (fun i hi => by
      obtain ⟨cs', hc, ht⟩ := hx i (by omega)
      obtain ⟨_, hlen, hat⟩ := World.cells?_some hc
      obtain ⟨xs, n2, _, _, _, hxl, hf⟩ := DataW.trod_struct Try.underlying29 ht
      match cs', hlen, xs, hxl with
      | [u0, u1, u2], _, [y0, y1, y2], _ =>
        have f0 : DataW.trod enc Try.prog W 0 (fun _ => true) held n2 4 (([u0, u1, u2].drop 0).take (Try.prog.cellsOf 4)) = some y0 := hf 0 _ rfl
        have f1 : DataW.trod enc Try.prog W 0 (fun _ => true) held n2 2 (([u0, u1, u2].drop 1).take (Try.prog.cellsOf 2)) = some y1 := hf 1 _ rfl
        have f2 : DataW.trod enc Try.prog W 0 (fun _ => true) held n2 25 (([u0, u1, u2].drop 2).take (Try.prog.cellsOf 25)) = some y2 := hf 2 _ rfl
        rw [h4] at f0
        rw [h2] at f1
        rw [h5] at f2
        obtain ⟨t, e0, _⟩ := DataW.trod_bool Try.underlying4 (x := y0) (by simpa using f0)
        obtain ⟨z, e1, _, hw⟩ := DataW.trod_int Try.underlying2 (x := y1) (by simpa using f1)
        obtain ⟨a1, n1, c1, l, e2, hb, hc0, _⟩ := open_bytes_cs (x := y2) (by simpa using f2)
        have g0 := hat 0 (by omega)
        have g1 := hat 1 (by omega)
        have g2 := hat 2 (by omega)
        injection e0 with e0
        injection e1 with e1
        injection e2 with e2
        subst e0; subst e1; subst e2
        obtain ⟨b, off, spot⟩ := x
        have hsp : spot = none := by
          obtain ⟨cs0, hc0', ht0⟩ := hx 0 (by omega)
          obtain ⟨_, hlen0, hat0⟩ := World.cells?_some hc0'
          match cs0, hlen0 with
          | [_, _, _], _ =>
            have h00 := hat0 0 (by omega)
            simpa [Addr.add] using World.cell?_spot (show W.cell? _ = some _ from h00)
        subst hsp
        rw [Go.Deep.add_add, Addr.add_lit] at g0 g1 g2
        refine ⟨⟨t, z, l⟩, b, off, a1, n1, c1, rfl, World.block_lt_of_cell? W _ g0, ?_, ?_, ?_, hc0, hb, ?_⟩
        · simpa using g0
        · rw [Nat.add_assoc]; simpa using g1
        · rw [Nat.add_assoc]; simpa using g2
        · simpa [Lit.wf, IntKind.min, IntKind.max, IntKind.signed, IntKind.bits] using hw)
    refine ⟨(List.range n).map f, ⟨by simp, fun k i hi => ?_⟩, fun h => by cases h⟩
    have hk : k < n := by
      rcases Nat.lt_or_ge k n with h | h
      · exact h
      · rw [List.getElem?_eq_none (by simpa using h)] at hi; cases hi
    rw [List.getElem?_map, List.getElem?_range hk] at hi
    injection hi with hi
    subst hi
    exact hfx k hk
end Go.Proofs.Ytdgnkpbokoomkaa
