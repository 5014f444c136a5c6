/- From a reading of an argument to the words of the walks: rows of bytes, rows of such rows. -/
import Derived.Test.YtjfjdicdokdekaaDoorBy
import Derived.Test.YtjfjdicdokdekaaDoorParts
import Derived.ProofKit
import Derived.OpenShut
import Derived.ChangeOld
import Derived.Below
import Derived.Deep.Slices
namespace Go.Proofs.YtjfjdicdokdekaaDoor
open Go.ChangeShapes Go.WideShapes Go.ChangeAt Go.RowKit Go.Mem1 Go.Deep

theorem own : ownKnob Tryd.prog.godebug = none := by kernel_rfl
theorem laidOut : laidOutB Tryd.prog = true := by kernel_rfl

/-- The cell of a []uint8 that came in, read. -/
theorem open_bytes_cs {H : Type} {enc : TypeId × Value → H} {W : World} {held : Bool} {fuel : Nat} {cs : List Value} {x : DataW H × List MemPlace}
    (hf : DataW.trod enc Tryd.prog W 0 (fun _ => true) held fuel 22 cs = some x) : ∃ a n c l, cs = [Value.slice a n c] ∧ Byt W W.heap.size a n l ∧ (a = none → c = 0) ∧ n ≤ c := by
  rcases open_ints Tryd.underlying22 Tryd.underlying5 (by kernel_rfl) hf with ⟨hcs, _⟩ | ⟨x, n', c', zs, hcs, _, hl, hm, hz, _, hcell, hwz⟩
  · exact ⟨none, 0, 0, [], hcs, Byt.empty _ _ _, fun _ => rfl, Nat.le_refl _⟩
  · have hzn : zs.length = c' := by simpa using hz
    have hwf : ∀ z ∈ zs, 0 ≤ z ∧ z < 256 := fun z hz => by
      have := hwz z hz
      simp [Lit.wf, IntKind.min, IntKind.max, IntKind.signed, IntKind.bits] at this
      omega
    refine ⟨some x, n', c', (zs.take n').map Int.toNat, hcs, ⟨⟨by simp; omega, fun hn => ?_⟩, ?_⟩, (fun h => by cases h), hl⟩
    · obtain ⟨b, off, spot⟩ := x
      have h0 := hcell 0 (by omega)
      have hsp : spot = none := by simpa [Addr.add] using World.cell?_spot h0
      subst hsp
      refine ⟨b, off, rfl, by simpa [Addr.add] using World.block_lt_of_cell? W _ h0, fun k u hu => ?_⟩
      rw [List.map_map, List.getElem?_map, List.getElem?_take] at hu
      split at hu
      · rename_i hk
        have hkz : k < zs.length := by omega
        rw [List.getElem?_eq_getElem hkz] at hu
        injection hu with hu
        subst hu
        have := hcell k hkz
        have hw := hwf zs[k] (List.getElem_mem _)
        have e : ((zs[k]).toNat : Int) = zs[k] := Int.toNat_of_nonneg hw.1
        simp only [Function.comp, bv, e]
        rcases Nat.eq_zero_or_pos k with h0 | h0
        · subst h0; simpa [Addr.add, hkz] using this
        · simpa [Addr.add, show k ≠ 0 by omega, hkz] using this
      · cases hu
    · intro y hy
      obtain ⟨z, hz, rfl⟩ := List.mem_map.1 hy
      have := hwf z (List.mem_of_mem_take hz)
      omega

/-- A [][]uint8 that came in reads as a row of rows of bytes. -/
theorem open_parts {H : Type} {enc : TypeId × Value → H} {W : World} {held : Bool} {a : Option Addr} {n c : Nat} {d : DataW H} {p : List MemPlace}
    (h : ∃ m, DataW.trod enc Tryd.prog W 0 (fun _ => true) held m 32 (Value.slice a n c).cells.toList = some (d, p)) : ∃ ls, Parts W W.heap.size a n ls ∧ (a = none → c = 0) := by
  obtain ⟨fuel, hf⟩ := h
  rcases open_slice1 Tryd.underlying32 (by kernel_rfl) hf with ⟨hcs, _⟩ | ⟨x, n', c', m, k, V, D, Pl, hcs, _, hl, hm, hmm, _, hx⟩
  · simp [Value.cells] at hcs
    obtain ⟨rfl, rfl, rfl⟩ := hcs
    exact ⟨[], ⟨[], Rd.empty _, rfl, fun i v l hv => by simp at hv⟩, fun _ => rfl⟩
  · simp [Value.cells] at hcs
    obtain ⟨rfl, rfl, rfl⟩ := hcs
    simp only [if_true] at hmm
    subst hmm
    obtain ⟨f, hfx⟩ := choose_lt (α := List Nat) (n := n) (p := fun i l => ∃ A1 n1 c1, V i = Value.slice A1 n1 c1 ∧ (A1 = none → c1 = 0) ∧ Byt W W.heap.size A1 n1 l) (fun i hi => by
      obtain ⟨a1, n1, c1, l, e, h1, h2, _⟩ := open_bytes_cs (hx i (by omega)).2
      exact ⟨l, a1, n1, c1, by simpa using e, h2, h1⟩)
    refine ⟨(List.range n).map f, ⟨(List.range n).map V, ⟨by simp, fun hn => ?_⟩, by simp, fun i v l hv hl => ?_⟩, fun h => by cases h⟩
    · obtain ⟨b, off, spot⟩ := x
      have h0 := (hx 0 (by omega)).1
      have hsp : spot = none := by simpa [Addr.add] using World.cell?_spot h0
      subst hsp
      refine ⟨b, off, rfl, by simpa [Addr.add] using World.block_lt_of_cell? W _ h0, fun k u hu => ?_⟩
      rw [List.getElem?_map] at hu
      have hk : k < n := by
        rcases Nat.lt_or_ge k n with h | h
        · exact h
        · rw [List.getElem?_eq_none (by simpa using h)] at hu; cases hu
      rw [List.getElem?_range hk] at hu
      injection hu with hu
      subst hu
      have := (hx k (by omega)).1
      rcases Nat.eq_zero_or_pos k with h0 | h0
      · subst h0; simpa [Addr.add] using this
      · simpa [Addr.add, show k ≠ 0 by omega] using this
    · have hi : i < n := by
        rcases Nat.lt_or_ge i n with h | h
        · exact h
        · rw [List.getElem?_eq_none (by simpa using h)] at hv; cases hv
      rw [List.getElem?_map, List.getElem?_range hi] at hv hl
      injection hv with hv
      injection hl with hl
      subst hv; subst hl
      exact hfx i hi
end Go.Proofs.YtjfjdicdokdekaaDoor
