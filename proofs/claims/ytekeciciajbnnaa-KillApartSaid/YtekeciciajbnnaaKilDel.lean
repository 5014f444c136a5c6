/- slices.Delete of a row's first times. -/
import Derived.Test.YtekeciciajbnnaaKilPast
import Derived.Test.YtekeciciajbnnaaShelf5
set_option linter.unusedSimpArgs false
namespace Go.Proofs.Ytekeciciajbnnaa
open Go.RowKit Go.Mem1 Go.MapRow Go.KilMath
open Go.Sort (putRow Holds)

theorem oneI : OneCell idV := fun _ => rfl
theorem time_info : (Try.prog.info? 2).map (fun i => (i.zero, i.size, i.bytes)) = some (some (.int .i64 0), 1, 8) := by kernel_rfl
theorem putRow_heap (w : World) (q blk off : Nat) (d : Array Int) (k : Nat) : (putRow idV (Sort.ahead w q) blk off d).heap[k]? = if blk = k then w.heap[k]?.map (Sort.onCells (Sort.putCells idV off d)) else w.heap[k]? := by
  unfold putRow Sort.mapBlock
  rw [Array.getElem?_modify]
  rfl
theorem chg_putRow (w : World) (q blk off : Nat) (d : Array Int) : Chg (fun k => blk = k) w (putRow idV (Sort.ahead w q) blk off d) :=
  ⟨rfl, rfl, rfl, by simp [putRow, Sort.mapBlock], fun k _ hn => by rw [putRow_heap, if_neg hn]⟩
set_option maxHeartbeats 1000000 in
theorem delete_any {w : World} {B : Nat} {v : Value} {ts : List Int} {p : Nat} (ht : Times w B v ts) (hp : p ≤ ts.length) :
    Calls Try.prog 13 #[v, .int .i64 0, .int .i64 p] w fun e w' => ∃ v', e = .returned v' ∧ Times w' B v' (ts.drop p) ∧ v'.ownBlock = v.ownBlock ∧ Chg (fun k => v.ownBlock = some k) w w' := by
  have ht0 := ht
  rcases ht.2 with ⟨rfl, h0⟩ | ⟨g, cap, cur, rfl, hB, hg, hn, hm, hs, hx⟩
  · have hp0 : p = 0 := by omega
    subst hp0
    have HT := Lib.hid ht
    clear ht ht0 hp h0
    go_enter Try.func13, Try.ntmps13
    go_wp2_with fail
    go_ret
    exact ⟨_, rfl, HT.out, rfl, Chg.refl _ _⟩
  · obtain ⟨i0, hi0, hz0, hz1, hz2⟩ := info_parts time_info
    have hH : Holds idV w g 0 ts.toArray := by
      intro j hj
      have hj' : j < ts.length := by simpa using hj
      refine ⟨?_, ?_⟩
      · rw [Nat.zero_add]
        refine own_cell ht0 ?_
        rw [List.getElem?_map, getElem!_pos _ j hj]
        simp [hj']
      · rw [Nat.zero_add]
        exact frozen_of_row w g j cur _ hg
    have := AnyE.slices_Delete Try.deleteL idV oneI 0 Try.zeroValue2 i0 hi0 hz1 g 0 cap 0 p ts.toArray w hH (by simpa using hn) hm (Nat.zero_le _) (by simpa using hp)
    change Calls Try.prog 13 _ _ _ at this
    refine Calls.mono (by simpa using this) ?_
    rintro e w' ⟨rfl, q, rfl⟩
    refine ⟨_, rfl, ?_, rfl, (chg_putRow _ _ _ _ _).mono (fun j _ e => by rw [← e]; rfl)⟩
    refine ⟨by simp, .inr ⟨g, cap, Sort.putCells idV 0 (ts.drop p ++ List.replicate p 0).toArray cur, ?_, hB, ?_, by simp; omega, hm, by simp [Sort.putCells, hs], ?_⟩⟩
    · simp
    · rw [putRow_heap, if_pos rfl, hg]
      simp [Sort.onCells]
    · rw [Nat.mul_one] at hs hx ⊢
      apply List.ext_getElem?
      intro i
      rw [List.getElem?_take, List.length_drop]
      by_cases hi : i < ts.length - p
      · have h1 : i < cur.size := by omega
        have h2 : i < (ts.drop p).length := by simp; omega
        rw [if_pos hi, Array.getElem?_toList]
        unfold Sort.putCells
        rw [Array.getElem?_mapIdx, Array.getElem?_eq_getElem h1, Option.map_some, if_pos ⟨Nat.zero_le _, by simp; omega⟩, List.getElem?_map, List.getElem?_eq_getElem h2, Option.map_some, getElem!_pos _ _ (by simp; omega)]
        congr 2
        simp [List.getElem_append_left h2]
      · rw [if_neg hi, List.getElem?_eq_none (by simp; omega)]
end Go.Proofs.Ytekeciciajbnnaa
