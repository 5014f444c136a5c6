/- From a reading of an argument to the words of the walks: rows of bytes. -/
import Derived.Test.YtpkkhmbcbcaelaaDoorBy
import Derived.ProofKit
import Derived.OpenShut
import Derived.ChangeOld
import Derived.Below
import Derived.Deep.Slices
namespace Go.Proofs.YtpkkhmbcbcaelaaDoor
open Go.ChangeShapes Go.WideShapes Go.ChangeAt Go.RowKit Go.Mem1 Go.Deep

theorem own : ownKnob Tryd.prog.godebug = none := by kernel_rfl
theorem laidOut : laidOutB Tryd.prog = true := by kernel_rfl

/-- The cell of a []uint8 that came in, read. -/
theorem open_bytes_cs {H : Type} {enc : TypeId × Value → H} {W : World} {held : Bool} {fuel : Nat} {cs : List Value} {x : DataW H × List MemPlace}
    (hf : DataW.trod enc Tryd.prog W 0 (fun _ => true) held fuel 55 cs = some x) : ∃ a n c l, cs = [Value.slice a n c] ∧ Byt W W.heap.size a n l ∧ (a = none → c = 0) ∧ n ≤ c := by
  rcases open_ints Tryd.underlying55 Tryd.underlying5 (by kernel_rfl) hf with ⟨hcs, _⟩ | ⟨x, n', c', zs, hcs, _, hl, hm, hz, _, hcell, hwz⟩
  · exact ⟨none, 0, 0, [], hcs, Byt.empty _ _ _, fun _ => rfl, Nat.le_refl _⟩
  · have hzn : zs.length = c' := by simpa using hz
    have hwf : ∀ z ∈ zs, 0 ≤ z ∧ z < 256 := fun z hz => by
      have := hwz z hz
      simp [Lit.wf, IntKind.min, IntKind.max, IntKind.signed, IntKind.bits] at this
      omega
    refine ⟨some x, n', c', (zs.take n').map Int.toNat, hcs, ⟨⟨by simp; omega, fun hn => ?_⟩, ?_⟩, (fun h => by cases h), hl⟩
    · obtain ⟨b, off, spot⟩ := x
      have h0 := hcell 0 (by omega)
      have hsp : spot = none := by simpa [Addr.add] using World.cell?_spot h0
      subst hsp
      refine ⟨b, off, rfl, by simpa [Addr.add] using World.block_lt_of_cell? W _ h0, fun k u hu => ?_⟩
      rw [List.map_map, List.getElem?_map, List.getElem?_take] at hu
      split at hu
      · rename_i hk
        have hkz : k < zs.length := by omega
        rw [List.getElem?_eq_getElem hkz] at hu
        injection hu with hu
        subst hu
        have := hcell k hkz
        have hw := hwf zs[k] (List.getElem_mem _)
        have e : ((zs[k]).toNat : Int) = zs[k] := Int.toNat_of_nonneg hw.1
        simp only [Function.comp, bv, e]
        rcases Nat.eq_zero_or_pos k with h0 | h0
        · subst h0; simpa [Addr.add, hkz] using this
        · simpa [Addr.add, show k ≠ 0 by omega, hkz] using this
      · cases hu
    · intro y hy
      obtain ⟨z, hz, rfl⟩ := List.mem_map.1 hy
      have := hwf z (List.mem_of_mem_take hz)
      omega

/-- A []uint8 that came in reads as a row of bytes. -/
theorem open_byt {H : Type} {enc : TypeId × Value → H} {W : World} {a : Option Addr} {n c : Nat} {d : DataW H} {p : List MemPlace}
    (h : ∃ m, DataW.trod enc Tryd.prog W 0 (fun _ => true) true m 55 (Value.slice a n c).cells.toList = some (d, p)) : ∃ l, Byt W W.heap.size a n l := by
  obtain ⟨fuel, hf⟩ := h
  obtain ⟨a1, n1, c1, l, hcs, hb, _⟩ := open_bytes_cs hf
  simp [Value.cells] at hcs
  obtain ⟨rfl, rfl, rfl⟩ := hcs
  exact ⟨l, hb⟩
end Go.Proofs.YtpkkhmbcbcaelaaDoor
