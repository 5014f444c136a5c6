/- The law's Of: a table as the reference's. -/
import Derived.Test.YtkcgklaoefbglaaGreatDoorGrdCells
import Derived.Test.YtkcgklaoefbglaaGreatDoorStepAt
set_option linter.unusedSimpArgs false
namespace Go.Proofs.YtkcgklaoefbglaaGreatDoor
open Go.RowKit Go.Mem1 Go.GridMath

theorem refstep_info : (Tryz.prog.info? 55).map (fun i => (i.zero, i.size, i.bytes)) = some (some (.agg #[.int .i64 0, .int .i64 0]), 2, 16) := by kernel_rfl
theorem row2_new (w : World) (c0 c1 : Value) (t : TypeId) : ∀ j u, [c0, c1][j]? = some u → (w.alloc (.cells #[c0, c1] t)).cell? ((⟨w.heap.size, 0, none⟩ : Addr).add j) = some u := by
  intro j u hu
  match j, hu with
  | 0, hu => injection hu with hu; subst hu; simp [Addr.add]
  | 1, hu => injection hu with hu; subst hu; simp [Addr.add]
  | j + 2, hu => cases hu
theorem row2_one (a b : Int) : ∀ u ∈ [Value.int .i64 a, Value.int .i64 b], u.oneCell' = true := by
  intro u hu
  simp at hu
  rcases hu with rfl | rfl <;> rfl
def OfPost (w : World) (n : Nat) (l : List Stp) (e : Ending) (w' : World) : Prop := ∃ A c, e = .returned (.slice A n c) ∧ TabAt w' w'.heap.size A n l ∧ Below w.heap.size w w'
set_option maxRecDepth 100000 in
set_option maxHeartbeats 2000000 in
theorem of_any (A : Option Addr) (n c : Nat) (l : List Stp) (w : World) (hr : TabAt w w.heap.size A n l) (hn : n ≤ 1000) :
    Calls Tryz.prog 6 #[.slice A n c] w (OfPost w n l) := by
  have HR := Lib.hid hr
  have HL := Lib.hid hr.len
  clear hr
  obtain ⟨i0, hi0, hz0, hz1, hz2⟩ := info_parts refstep_info
  have HI0 := Lib.hid hi0
  have HI1 := Lib.hid hz0
  have HI2 := Lib.hid hz1
  have HI3 := Lib.hid hz2
  clear hi0 hz0 hz1 hz2
  go_enter Tryz.func6, Tryz.ntmps6
  go_wp2_with fail
  go_loopw [3, 4] (fun v3 v4 wr => ∃ (k : Nat) (A1 : Option Addr) (c1 : Nat), k ≤ n ∧ v3 = .slice A1 k c1 ∧ v4 = .int .i64 k ∧ Hid (wr.ownsRow w.heap.size 55 2 (.slice A1 k c1) k (stepCells (l.take k)) ∧ Below w.heap.size w wr)) (fun _ v4 _ => n - (intOf v4).toNat)
  case atStart => exact ⟨0, none, 0, by omega, rfl, rfl, Lib.hid ⟨World.ownsRow_nil _ _ _ _, Below.refl _ _⟩⟩
  case round =>
    obtain ⟨k, A1, c1, hk, rfl, rfl, hL⟩ := hrel
    by_cases hlt : k < n
    · obtain ⟨b, off, s, rfl, hbl, hx, y0, y1⟩ := (HR.out.carry hL.out.2).get hlt
      have HX := Lib.hid hx
      have hbw : b < wr.heap.size := Nat.lt_of_lt_of_le hbl hL.out.2.size
      have HSZ := Lib.hid hL.out.2.size
      obtain ⟨f, y⟩ := s
      dsimp only at y0 y1
      have i1 : (0 : Int) ≤ (k : Int) := by omega
      have i2 : (k : Int) < (n : Int) := by omega
      clear hx
      go_wp2_with fail
      go_region_law (refine step_append_at rfl (.tmp 11) (.tmp 23) _ rfl w.heap.size 55 i0 _ 2 16 Tryz.underlying31 HI0.out HI1.out HI2.out HI3.out rfl (by omega) (.slice A1 k c1) k _ rfl (own_alloc hL.out.1 (.cells #[.int .i64 f, .int .i64 y] 55)).drew ⟨wr.heap.size, 0, none⟩ 1 1 [.int .i64 f, .int .i64 y] rfl rfl (row2_new _ _ _ _) (row2_one _ _) (by simp only [maxLen]; omega) (by omega) (by have := HSZ.out; simp; omega) ?_; intro v7 w7 hown7 hgr7 _; obtain ⟨A7, c7, rfl⟩ := own_slice hown7; have HOW := Lib.hid hown7; have HGR := Lib.hid hgr7; clear hown7 hgr7)
      all_goals
        go_wp2_with fail
        go_roundw
        case rel =>
          refine ⟨k + 1, _, _, by omega, rfl, by go_num, Lib.hid ⟨?_, ?_⟩⟩
          · rw [List.take_add_one, HX.out, Option.toList_some, stepCells_snoc]; exact HOW.out
          · have hb1 : Below w.heap.size w (wr.alloc (.cells #[.int .i64 f, .int .i64 y] 55)).drew := (hL.out.2.alloc HSZ.out _).drew
            exact hb1.grown HGR.out hb1.size (fun i e => (hL.out.1.lt i e).1)
        case measure => simp [intOf]; omega
    · obtain rfl : k = n := by omega
      go_wp2_with fail
      go_ret
      have ht : l.take k = l := List.take_of_length_le (by rw [HL.out]; exact Nat.le_refl _)
      refine ⟨A1, c1, rfl, TabAt.ofOwn (by have := hL.out.1; rw [ht] at this; exact this), hL.out.2⟩
end Go.Proofs.YtkcgklaoefbglaaGreatDoor
