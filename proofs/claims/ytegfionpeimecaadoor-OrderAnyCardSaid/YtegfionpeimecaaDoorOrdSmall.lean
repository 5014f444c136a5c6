/- Contracts of num.In, order's Opposite, Takes, Ahead, sideWord, and of the reference's; the law's Of. -/
import Derived.Test.YtegfionpeimecaaDoorOrdMath
import Derived.Test.YtegfionpeimecaaDoorGrdMem
import Derived.Deep.QuietTactic
import Derived.BigQuiet
set_option linter.unusedSimpArgs false
namespace Go.Proofs.YtegfionpeimecaaDoor
open Go.RowKit Go.Mem1 Go.OrdMath

theorem rb {a b : Bool} (h : b = a) : Ending.returned (.bool a) = .returned (.bool b) := by rw [h]
theorem ri {a b : Int} (h : b = a) : Ending.returned (.int .i64 a) = .returned (.int .i64 b) := by rw [h]
theorem rs {a b : ByteArray} (h : b = a) : Ending.returned (.string a) = .returned (.string b) := by rw [h]
/-- An order as a value. -/
abbrev ordV (o : Ord) : Value := .agg #[.int .i64 o.id, .int .i64 o.own, .int .i64 o.sd, .int .i64 o.pr, .int .i64 o.q, .bool o.cu, .int .i64 o.lf]
theorem nIn_any (v lo hi : Int) (w : World) :
    Calls Tryd.prog 27 #[.int .i64 v, .int .i64 lo, .int .i64 hi] w fun e w' => e = .returned (.bool (decide (lo ≤ v ∧ v ≤ hi))) ∧ w = w' := by
  have HK := Lib.hid (show decide (lo ≤ v ∧ v ≤ hi) = (decide (lo ≤ v) && decide (v ≤ hi)) by rw [Bool.decide_and])
  generalize decide (lo ≤ v ∧ v ≤ hi) = b at HK ⊢
  go_enter Tryd.func27, Tryd.ntmps27
  go_wp2_with fail
  all_goals
    go_ret
    exact ⟨rb (by rw [HK.out]; simp_all <;> omega), rfl⟩
theorem opp_any (s : Int) (w : World) : Calls Tryd.prog 14 #[.int .i64 s] w fun e w' => e = .returned (.int .i64 (oppI s)) ∧ w = w' := by
  have HK := Lib.hid (show oppI s = if s = 1 then 2 else if s = 2 then 1 else 0 from rfl)
  generalize oppI s = R at HK ⊢
  go_enter Tryd.func14, Tryd.ntmps14
  go_wp2_with fail
  all_goals
    go_ret
    exact ⟨ri (by rw [HK.out]; simp_all), rfl⟩
theorem ropp_any (s : Int) (w : World) : Calls Tryd.prog 15 #[.int .i64 s] w fun e w' => e = .returned (.int .i64 (oppI s)) ∧ w = w' := by
  have HK := Lib.hid (show oppI s = if s = 1 then 2 else if s = 2 then 1 else 0 from rfl)
  generalize oppI s = R at HK ⊢
  go_enter Tryd.func15, Tryd.ntmps15
  go_wp2_with fail
  all_goals
    go_ret
    exact ⟨ri (by rw [HK.out]; simp_all), rfl⟩
theorem side_any (s : Int) (w : World) : Calls Tryd.prog 32 #[.int .i64 s] w fun e w' => e = .returned (.string (sideS s)) ∧ w = w' := by
  have HK := Lib.hid (show sideS s = if s = 1 then ⟨#[66]⟩ else if s = 2 then ⟨#[83]⟩ else ⟨#[45]⟩ from rfl)
  generalize sideS s = R at HK ⊢
  go_enter Tryd.func32, Tryd.ntmps32
  go_wp2_with fail
  all_goals
    go_ret
    exact ⟨rs (by rw [HK.out]; simp_all), rfl⟩
set_option maxRecDepth 100000 in
set_option maxHeartbeats 1000000 in
theorem takes_any (o : Ord) (p : Int) (w : World) : Calls Tryd.prog 16 #[ordV o, .int .i64 p] w fun e w' => e = .returned (.bool (takesB o p)) ∧ Below w.heap.size w w' := by
  obtain ⟨a, b, s, r, q, c, l⟩ := o
  have HK := Lib.hid (show takesB ⟨a, b, s, r, q, c, l⟩ p = if s = 1 then decide (p ≤ r) else if s = 2 then decide (r ≤ p) else false from rfl)
  generalize takesB ⟨a, b, s, r, q, c, l⟩ p = R at HK ⊢
  go_enter Tryd.func16, Tryd.ntmps16
  go_wp2_with fail
  all_goals
    go_ret
    exact ⟨rb (by rw [HK.out]; simp_all), bel_new _ _⟩
set_option maxRecDepth 100000 in
set_option maxHeartbeats 1000000 in
theorem ahead_any (x y : Ord) (w : World) : Calls Tryd.prog 20 #[ordV x, ordV y] w fun e w' => e = .returned (.bool (aheadB x y)) ∧ Below w.heap.size w w' := by
  obtain ⟨a, b, s, r, q, c, l⟩ := x
  obtain ⟨a', b', s', r', q', c', l'⟩ := y
  have HK := Lib.hid (show aheadB ⟨a, b, s, r, q, c, l⟩ ⟨a', b', s', r', q', c', l'⟩ = if r = r' then (if c = c' then decide (a < a') else c) else (decide (r' < r) == decide (s = 1)) from rfl)
  generalize aheadB ⟨a, b, s, r, q, c, l⟩ ⟨a', b', s', r', q', c', l'⟩ = R at HK ⊢
  go_enter Tryd.func20, Tryd.ntmps20
  go_wp2_with fail
  all_goals
    go_ret
    exact ⟨rb (by rw [HK.out]; simp_all <;> rfl), bel_alloc (bel_new _ _) _⟩
set_option maxRecDepth 100000 in
set_option maxHeartbeats 1000000 in
theorem rtakes_any (o : Ord) (p : Int) (w : World) (ho : o.sd = 1 ∨ o.sd = 2) : Calls Tryd.prog 17 #[ordV o, .int .i64 p] w fun e w' => e = .returned (.bool (takesB o p)) ∧ Below w.heap.size w w' := by
  obtain ⟨a, b, s, r, q, c, l⟩ := o
  dsimp only at ho
  have HK := Lib.hid (show takesB ⟨a, b, s, r, q, c, l⟩ p = if s = 1 then decide (p ≤ r) else decide (r ≤ p) by unfold takesB; dsimp only; rcases ho with rfl | rfl <;> rfl)
  clear ho
  generalize takesB ⟨a, b, s, r, q, c, l⟩ p = R at HK ⊢
  go_enter Tryd.func17, Tryd.ntmps17
  go_wp2_with fail
  all_goals
    go_ret
    exact ⟨rb (by rw [HK.out]; simp_all), bel_new _ _⟩
set_option maxRecDepth 100000 in
set_option maxHeartbeats 1000000 in
theorem rahead_any (x y : Ord) (w : World) : Calls Tryd.prog 21 #[ordV x, ordV y] w fun e w' => e = .returned (.bool (aheadB x y)) ∧ Below w.heap.size w w' := by
  obtain ⟨a, b, s, r, q, c, l⟩ := x
  obtain ⟨a', b', s', r', q', c', l'⟩ := y
  have HK := Lib.hid (show aheadB ⟨a, b, s, r, q, c, l⟩ ⟨a', b', s', r', q', c', l'⟩ = if r = r' then (if c = c' then decide (a < a') else c) else (decide (r' < r) == decide (s = 1)) from rfl)
  generalize aheadB ⟨a, b, s, r, q, c, l⟩ ⟨a', b', s', r', q', c', l'⟩ = R at HK ⊢
  go_enter Tryd.func21, Tryd.ntmps21
  go_wp2_with fail
  all_goals
    go_ret
    exact ⟨rb (by rw [HK.out]; simp_all <;> rfl), bel_alloc (bel_new _ _) _⟩
set_option maxRecDepth 100000 in
set_option maxHeartbeats 1000000 in
theorem oof_any (o : Ord) (w : World) : Calls Tryd.prog 13 #[ordV o] w fun e w' => e = .returned (ordV o) ∧ Below w.heap.size w w' := by
  obtain ⟨a, b, s, r, q, c, l⟩ := o
  go_enter Tryd.func13, Tryd.ntmps13
  go_wp2_with fail
  refine bodyPost_ret (v := ordV ⟨a, b, s, r, q, c, l⟩) (by simp [results, Tryd.results13, go_sem]) rfl ⟨rfl, ?_⟩
  first | exact bel_new _ _ | exact bel_alloc (bel_new _ _) _
set_option maxRecDepth 100000 in
set_option maxHeartbeats 1000000 in
theorem life_any (l : Int) (w : World) : Calls Tryd.prog 29 #[.int .i64 l] w fun e w' => e = .returned (.string (lifeS l)) ∧ Below w.heap.size w w' := by
  have HK := Lib.hid (show lifeS l = if l = 1 then ⟨#[100, 97, 121]⟩ else if l = 2 then ⟨#[105, 111, 99]⟩ else if l = 3 then ⟨#[102, 111, 107]⟩ else if l = 4 then ⟨#[112, 111, 115, 116]⟩ else ⟨#[45]⟩ from rfl)
  generalize lifeS l = R at HK ⊢
  go_enter Tryd.func29, Tryd.ntmps29
  go_wp2_with fail
  all_goals
    go_ret
    exact ⟨rs (by rw [HK.out]; simp_all), bel_new _ _⟩
end Go.Proofs.YtegfionpeimecaaDoor
