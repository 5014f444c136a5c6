/- Rows of orders as cells: parted, an order put in. -/
import Derived.Test.YtekppjigckjgiaaCbkRef
set_option linter.unusedSimpArgs false
namespace Go.Proofs.Ytekppjigckjgiaa
open Go.RowKit Go.Mem1 Go.CbkMath

theorem flat_take5 (M : List CO) (k : Nat) : (M.flatMap co1).take (k * 5) = (M.take k).flatMap co1 := by
  induction k generalizing M with
  | zero => simp
  | succ k ih =>
    cases M with
    | nil => simp
    | cons x M =>
      rw [List.flatMap_cons, List.take_succ_cons, List.flatMap_cons, show (k + 1) * 5 = 5 + k * 5 by omega]
      rw [List.take_append, ← ih, List.take_of_length_le (show (co1 x).length ≤ 5 + k * 5 by rw [co1_len]; omega), co1_len, Nat.add_sub_cancel_left]
theorem flat_drop5 (M : List CO) (k : Nat) : (M.flatMap co1).drop (k * 5) = (M.drop k).flatMap co1 := by
  induction k generalizing M with
  | zero => simp
  | succ k ih =>
    cases M with
    | nil => simp
    | cons x M =>
      rw [List.flatMap_cons, List.drop_succ_cons, ← ih, show (k + 1) * 5 = 5 + k * 5 by omega, ← List.drop_drop]
      rfl
theorem put_flat {o : CO} {L : List CO} {k : Nat} (h : cutC o L = k) : (putC o L).length = k + 1 + (L.length - k) ∧ (putC o L).flatMap co1 = (L.take k).flatMap co1 ++ co1 o ++ (L.drop k).flatMap co1 := by
  have := cut_le o L
  refine ⟨by rw [put_len]; omega, ?_⟩
  unfold putC
  rw [h, List.flatMap_append, List.flatMap_cons, List.append_assoc]
theorem co_info : (Try.prog.info? 37).map (fun i => (i.zero, i.size, i.bytes)) = some (some (.agg #[.int .i64 0, .int .i64 0, .int .i64 0, .int .i64 0, .int .i64 0]), 5, 40) := by kernel_rfl
end Go.Proofs.Ytekppjigckjgiaa
