/- Contracts of num.In, order's Opposite, lifeWord. -/
import Derived.Test.YtkcgklaoefbglaaGreatDoorOrdMath
import Derived.Test.YtkcgklaoefbglaaGreatDoorGrdMem
import Derived.Deep.QuietTactic
import Derived.BigQuiet
set_option linter.unusedSimpArgs false
namespace Go.Proofs.YtkcgklaoefbglaaGreatDoor
open Go.RowKit Go.Mem1 Go.OrdMath

theorem rb {a b : Bool} (h : b = a) : Ending.returned (.bool a) = .returned (.bool b) := by rw [h]
theorem ri {a b : Int} (h : b = a) : Ending.returned (.int .i64 a) = .returned (.int .i64 b) := by rw [h]
theorem rs {a b : ByteArray} (h : b = a) : Ending.returned (.string a) = .returned (.string b) := by rw [h]
/-- An order as a value. -/
abbrev ordV (o : Ord) : Value := .agg #[.int .i64 o.id, .int .i64 o.own, .int .i64 o.sd, .int .i64 o.pr, .int .i64 o.q, .bool o.cu, .int .i64 o.lf]
theorem nIn_any (v lo hi : Int) (w : World) :
    Calls Tryz.prog 61 #[.int .i64 v, .int .i64 lo, .int .i64 hi] w fun e w' => e = .returned (.bool (decide (lo ≤ v ∧ v ≤ hi))) ∧ w = w' := by
  have HK := Lib.hid (show decide (lo ≤ v ∧ v ≤ hi) = (decide (lo ≤ v) && decide (v ≤ hi)) by rw [Bool.decide_and])
  generalize decide (lo ≤ v ∧ v ≤ hi) = b at HK ⊢
  go_enter Tryz.func61, Tryz.ntmps61
  go_wp2_with fail
  all_goals
    go_ret
    exact ⟨rb (by rw [HK.out]; simp_all <;> omega), rfl⟩
theorem opp_any (s : Int) (w : World) : Calls Tryz.prog 62 #[.int .i64 s] w fun e w' => e = .returned (.int .i64 (oppI s)) ∧ w = w' := by
  have HK := Lib.hid (show oppI s = if s = 1 then 2 else if s = 2 then 1 else 0 from rfl)
  generalize oppI s = R at HK ⊢
  go_enter Tryz.func62, Tryz.ntmps62
  go_wp2_with fail
  all_goals
    go_ret
    exact ⟨ri (by rw [HK.out]; simp_all), rfl⟩
set_option maxRecDepth 100000 in
set_option maxHeartbeats 1000000 in
theorem life_any (l : Int) (w : World) : Calls Tryz.prog 64 #[.int .i64 l] w fun e w' => e = .returned (.string (lifeS l)) ∧ Below w.heap.size w w' := by
  have HK := Lib.hid (show lifeS l = if l = 1 then ⟨#[100, 97, 121]⟩ else if l = 2 then ⟨#[105, 111, 99]⟩ else if l = 3 then ⟨#[102, 111, 107]⟩ else if l = 4 then ⟨#[112, 111, 115, 116]⟩ else ⟨#[45]⟩ from rfl)
  generalize lifeS l = R at HK ⊢
  go_enter Tryz.func64, Tryz.ntmps64
  go_wp2_with fail
  all_goals
    go_ret
    exact ⟨rs (by rw [HK.out]; simp_all), bel_new _ _⟩
end Go.Proofs.YtkcgklaoefbglaaGreatDoor
