/- slices.Backward over a table: the iterator's contract. -/
import Derived.RangeFuncNested
import Derived.RangeFuncBound
import Derived.RangeFuncCalls
import Derived.RangeFuncLeaves
import Derived.Shelf.Abstract
import Derived.Shelf.RegionOpen
import Derived.WalkKit
import Derived.OwnWalkIn
import Derived.TacticsInMore
import Derived.LoopNIn
import Derived.LoopIn
import Derived.Test.YtkcgklaoefbglaaGreatDoorGrdMem
set_option linter.unusedSimpArgs false
namespace Go.Proofs.YtkcgklaoefbglaaGreatDoor
open Go.RowKit Go.Shelf Go.Mem1 Go.GridMath

attribute [local go_sem] Oper.semAt_some
/-- What has come when k rounds are over. -/
def backTo (l : List Stp) (k : Nat) : List (Nat × Stp) := (List.range k).map fun j => (l.length - 1 - j, l[l.length - 1 - j]?.getD (0, 0))
theorem backTo_succ (l : List Stp) (k : Nat) : backTo l (k + 1) = backTo l k ++ [(l.length - 1 - k, l[l.length - 1 - k]?.getD (0, 0))] := by simp [backTo, List.range_succ]
theorem backTo_length (l : List Stp) (k : Nat) : (backTo l k).length = k := by simp [backTo]
def encB (x : Nat × Stp) : Array Value := #[.int .i64 (x.1 : Int), .agg #[.int .i64 x.2.1, .int .i64 x.2.2]]

set_option maxRecDepth 100000 in
set_option maxHeartbeats 2000000 in
theorem back1_in (F : Fence) (n : Nat) (hf : F.fn 77) (hro : F.round = none) (hn : 1 ≤ n) (i Bs n₀ : Nat) (A : Option Addr) (len cap : Nat) (l : List Stp) (hlen : len ≤ 1000000) (J Jx : List (Nat × Stp) → World → Prop)
    (hY : ∀ pre x W, J pre W → pre.length < len → YieldAt F (n - 1) Tryz.prog i (encB x) W fun e W' =>
      (e = .returned (.bool true) ∧ J (pre ++ [x]) W' ∧ Below n₀ W W') ∨ (e = .returned (.bool false) ∧ Jx (pre ++ [x]) W'))
    (W : World) (hBs : W.cell? ⟨Bs, 0, none⟩ = some (.slice A len cap)) (hb : Bs < n₀) (hT : TabAt W n₀ A len l) (h0 : J [] W) :
    CallsIn F n Tryz.prog 77 #[.func (.yield i) #[] #[], .pointer (some ⟨Bs, 0, none⟩)] W fun e W' => (∃ v, e = .returned v) ∧
      ((∃ ys, ys = backTo l len ∧ J ys W') ∨ (∃ pre, (∃ k, k < len ∧ pre = backTo l (k + 1)) ∧ Jx pre W')) := by
  have hl := hT.len
  refine callsIn_of_wp Tryz.func77 rfl hf ?_ hro
  simp only [Tryz.ntmps77, List.size_toArray, List.length_cons, List.length_nil, Nat.reduceAdd, Nat.reduceSub, Array.replicate_succ, Array.replicate_zero, List.push_toArray, List.append_toArray, List.nil_append, List.cons_append]
  gi_wp2
  gi_loopw [3] (fun v wr => ∃ k : Nat, k ≤ len ∧ v = .int .i64 ((len : Int) - 1 - k) ∧ J (backTo l k) wr ∧ Below n₀ W wr)
    (fun v _ => (intOf v + 1).toNat)
  case atStart => exact ⟨0, Nat.zero_le _, by simp, h0, Below.refl _ _⟩
  case round =>
    obtain ⟨k, hk, rfl, hJs, hnx⟩ := hrel
    have hbs := (hnx.cell (p := ⟨Bs, 0, none⟩) hb).trans hBs
    by_cases hlt : k < len
    · obtain ⟨b, off, s, rfl, hb', hs, h1, h2⟩ := (hT.carry hnx).get (show len - 1 - k < len by omega)
      obtain ⟨j, hj⟩ : ∃ j : Nat, j = len - 1 - k := ⟨_, rfl⟩
      rw [← hj] at hs h1 h2
      have ej : (len : Int) - 1 - k = (j : Int) := by omega
      have hjl : j < len := by omega
      obtain ⟨fn, tmps, assign, body, hy, hR⟩ := hY _ (j, s) wr hJs (by rw [backTo_length]; exact hlt)
      dsimp only [encB] at hy
      have hnext : backTo l (k + 1) = backTo l k ++ [(j, s)] := by rw [backTo_succ, hl, ← hj, hs]; rfl
      rw [ej]
      clear hj
      gi_wp2
      refine hR.mono ?_
      rintro e W3 (⟨rfl, hJ3, hk3⟩ | ⟨rfl, hJx3⟩)
      · gi_wp2
        go_roundw
        case rel => exact ⟨k + 1, by omega, by simp <;> omega, by rw [hnext]; exact hJ3, hnx.trans hk3⟩
        case measure => simp [intOf]
      · gi_wp2
        refine bodyPost_ret (results_none rfl _ _ _) rfl ?_
        exact ⟨⟨_, rfl⟩, .inr ⟨_, ⟨k, hlt, hnext.symm⟩, hJx3⟩⟩
    · obtain rfl : k = len := by omega
      gi_wp2
      go_end0
      exact ⟨⟨_, rfl⟩, .inl ⟨_, rfl, hJs⟩⟩

set_option maxHeartbeats 1000000 in
/-- slices.Backward(t): the slice is boxed; the function value captures the box. -/
theorem back_in (F : Fence) (n : Nat) (hf : F.fn 74) (hro : F.round = none) (A : Option Addr) (len cap : Nat) (w : World) :
    CallsIn F n Tryz.prog 74 #[.slice A len cap] w fun e w' => e = .returned (.func (.func 77) #[] #[.pointer (some ⟨w.heap.size, 0, none⟩)]) ∧ w' = w.alloc (.cells #[.slice A len cap] 25) := by
  refine callsIn_of_wp Tryz.func74 rfl hf ?_ hro
  simp only [Tryz.ntmps74, List.size_toArray, List.length_cons, List.length_nil, Nat.reduceAdd, Nat.reduceSub, Array.replicate_succ, Array.replicate_zero, List.push_toArray, List.append_toArray, List.nil_append, List.cons_append]
  gi_wp2
  go_ret
  exact ⟨rfl, rfl⟩
/-- What slices.Backward hands back stops: all, from the last one on; or the first k + 1 of them. -/
theorem back_stops (F : Fence) (n : Nat) (hf : F.fn 77) (hro : F.round = none) (hn : 1 ≤ n) (Bs n₀ : Nat) (A : Option Addr) (len cap : Nat) (l : List Stp) (hlen : len ≤ 1000000) (w : World) (hBs : Bs < n₀) (hn₀ : n₀ ≤ w.heap.size)
    (hc : w.cell? ⟨Bs, 0, none⟩ = some (.slice A len cap)) (hT : TabAt w n₀ A len l) :
    SeqStopsK F n Tryz.prog 77 #[.pointer (some ⟨Bs, 0, none⟩)] encB (Below n₀) (fun ys => ys = backTo l len) (fun pre => ∃ k, k < len ∧ pre = backTo l (k + 1)) len w := fun i J Jx W hW _ _ hY h0 =>
  back1_in F n hf hro hn i Bs n₀ A len cap l hlen J Jx hY W ((hW.cell (p := ⟨Bs, 0, none⟩) (show Bs < w.heap.size by omega)).trans hc) hBs (hT.carry (hW.mono hn₀)) h0
end Go.Proofs.YtkcgklaoefbglaaGreatDoor
