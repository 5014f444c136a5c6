/- The landed desk's contracts: silent. -/
import Derived.Test.YtpkkhmbcbcaelaaDoorSesLive
set_option linter.unusedSimpArgs false
namespace Go.Proofs.YtpkkhmbcbcaelaaDoor
open Go.RowKit Go.Mem1 Go.SesMath
theorem uwrap {n : Int} (h0 : 0 ≤ n) (h1 : n ≤ 1099511627776) : IntKind.u64.wrap n = n := by rw [IntKind.wrap_u64]; omega
set_option maxHeartbeats 1000000 in
theorem silent_any {w : World} {g p : Nat} {l T now : Int} (c : w.cell? ⟨g, p + 1, none⟩ = some (.int .i64 l)) (l0 : 0 ≤ l) (l1 : l ≤ 1099511627776) (n0 : 0 ≤ now) (n1 : now ≤ 1099511627776) (t0 : 1 ≤ T) (t1 : T ≤ 1000000) :
    Calls Tryd.prog 26 #[.pointer (some ⟨g, p, none⟩), .int .i64 T, .int .i64 now] w fun e w' => e = .returned (.bool (decide (l ≤ now - T))) ∧ w' = w := by
  have e1 := uwrap n0 n1
  have e2 := uwrap l0 l1
  have e3 := uwrap (n := T) (by omega) (by omega)
  by_cases h : l ≤ now
  · have e4 := uwrap (n := now - l) (by omega) (by omega)
    have d1 : decide (l ≤ now) = true := by simpa using h
    have d2 : decide (T ≤ now - l) = decide (l ≤ now - T) := by rw [decide_eq_decide]; omega
    go_enter Tryd.func26, Tryd.ntmps26
    go_wp2_with fail
    go_ret
    exact ⟨rfl, rfl⟩
  · have d1 : decide (l ≤ now) = false := by simpa using h
    have d2 : decide (l ≤ now - T) = false := by simp; omega
    rw [d2]
    go_enter Tryd.func26, Tryd.ntmps26
    go_wp2_with fail
    go_ret
    exact ⟨rfl, rfl⟩
end Go.Proofs.YtpkkhmbcbcaelaaDoor
