/- From a reading of an argument to the words of the walks: a row of int16. -/
import Derived.Test.YtekppjigckjgiaaOpenCo
set_option linter.unusedSimpArgs false
namespace Go.Proofs.Ytekppjigckjgiaa
open Go.ChangeShapes Go.WideShapes Go.ChangeAt Go.RowKit Go.Mem1 Go.Deep

/-- A slice value that reads as small numbers, below block B. -/
structure Nets (w : World) (B : Nat) (A : Option Addr) (n : Nat) (l : List Int) : Prop where
  len : l.length = n
  at_ : ∀ (k : Nat) (z : Int), l[k]? = some z → ∃ b off, A = some ⟨b, off, Option.none⟩ ∧ b < B ∧ w.cell? ⟨b, off + k, Option.none⟩ = some (.int .i16 z) ∧ -32768 ≤ z ∧ z ≤ 32767
set_option maxRecDepth 100000 in
theorem open_nets {H : Type} {enc : TypeId × Value → H} {W : World} {held : Bool} {a : Option Addr} {n c : Nat} {d : DataW H} {p : List MemPlace}
    (h : ∃ m, DataW.trod enc Try.prog W 0 (fun _ => true) held m 59 (Value.slice a n c).cells.toList = some (d, p)) : ∃ l, Nets W W.heap.size a n l := by
  obtain ⟨fuel, hf⟩ := h
  rcases open_ints Try.underlying59 Try.underlying60 (by kernel_rfl) hf with ⟨hcs, _⟩ | ⟨x, n', c', zs, hcs, _, hl, hm, hz, _, hcell, hwz⟩
  · simp [Value.cells] at hcs
    obtain ⟨rfl, rfl, rfl⟩ := hcs
    exact ⟨[], ⟨rfl, fun k i hi => by simp at hi⟩⟩
  · simp [Value.cells] at hcs
    obtain ⟨rfl, rfl, rfl⟩ := hcs
    have hzn : zs.length = c := by simpa using hz
    refine ⟨zs.take n, ⟨by simp; omega, fun k z hk => ?_⟩⟩
    rw [List.getElem?_take] at hk
    split at hk
    · obtain ⟨hlt, rfl⟩ := List.getElem?_eq_some_iff.1 hk
      obtain ⟨b, off, spot⟩ := x
      have h0 := hcell 0 (by omega)
      have hsp : spot = Option.none := by simpa [Addr.add] using World.cell?_spot h0
      subst hsp
      have hw := hwz zs[k] (List.getElem_mem _)
      simp [Lit.wf, IntKind.min, IntKind.max, IntKind.signed, IntKind.bits] at hw
      refine ⟨b, off, rfl, by simpa [Addr.add] using World.block_lt_of_cell? W _ h0, ?_, hw.1, hw.2⟩
      have := hcell k hlt
      rcases Nat.eq_zero_or_pos k with h0 | h0
      · subst h0; simpa [Addr.add, hlt] using this
      · simpa [Addr.add, show k ≠ 0 by omega, hlt] using this
    · cases hk
end Go.Proofs.Ytekppjigckjgiaa
