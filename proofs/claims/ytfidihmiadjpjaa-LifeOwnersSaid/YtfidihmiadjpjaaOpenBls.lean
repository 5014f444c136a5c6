/- From a reading of an argument to the words of the walks: a row of bools. -/
import Derived.Test.YtfidihmiadjpjaaOpenBy
import Derived.Deep.Grids
namespace Go.Proofs.Ytfidihmiadjpjaa
open Go.ChangeShapes Go.WideShapes Go.ChangeAt Go.RowKit Go.Mem1 Go.Deep

/-- A slice value that reads as n bools, below block B. -/
def Bls (w : World) (B : Nat) (A : Option Addr) (n : Nat) (f : Nat → Bool) : Prop := ∀ k, k < n → ∃ b off, A = some ⟨b, off, none⟩ ∧ b < B ∧ w.cell? ⟨b, off + k, none⟩ = some (.bool (f k))
theorem open_bls {H : Type} {enc : TypeId × Value → H} {W : World} {held : Bool} {a : Option Addr} {n c : Nat} {d : DataW H} {p : List MemPlace}
    (h : ∃ m, DataW.trod enc Try.prog W 0 (fun _ => true) held m 44 (Value.slice a n c).cells.toList = some (d, p)) : ∃ f, Bls W W.heap.size a n f := by
  obtain ⟨fuel, hf⟩ := h
  rcases open_bools Try.underlying44 Try.underlying4 (by kernel_rfl) hf with ⟨hcs, _⟩ | ⟨x, n', c', F, hcs, _, hl, hm, _, hcell⟩
  · simp [Value.cells] at hcs
    obtain ⟨rfl, rfl, rfl⟩ := hcs
    exact ⟨fun _ => false, fun k hk => absurd hk (Nat.not_lt_zero _)⟩
  · simp [Value.cells] at hcs
    obtain ⟨rfl, rfl, rfl⟩ := hcs
    refine ⟨F, fun k hk => ?_⟩
    have h0 := hcell 0 (by omega)
    obtain ⟨b, off, spot⟩ := x
    have hsp : spot = none := by simpa [Addr.add] using World.cell?_spot h0
    subst hsp
    have hk2 := hcell k (by omega)
    refine ⟨b, off, rfl, by simpa [Addr.add] using World.block_lt_of_cell? W _ h0, ?_⟩
    rcases Nat.eq_zero_or_pos k with hz | hz
    · subst hz; simpa [Addr.add] using hk2
    · simpa [Addr.add, show k ≠ 0 by omega] using hk2
end Go.Proofs.Ytfidihmiadjpjaa
