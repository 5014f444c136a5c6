/- The reference's Count, of tables that may be: all cases. -/
import Derived.Test.YtihdebgofjacpaaDoorGrdRefCntA
import Derived.Test.YtihdebgofjacpaaDoorGrdRefCntB
import Derived.Test.YtihdebgofjacpaaDoorGrdRefCntC
set_option linter.unusedSimpArgs false
namespace Go.Proofs.YtihdebgofjacpaaDoor
open Go.RowKit Go.Mem1 Go.GridMath

set_option maxRecDepth 100000 in
set_option maxHeartbeats 1000000 in
theorem rcount_none (A : Option Addr) (n c : Nat) (lo hi : Int) (w : World) (hab : ¬ max lo 1 ≤ min hi 1000000) :
    Calls Tryd.prog 18 #[.slice A n c, .int .i64 lo, .int .i64 hi] w fun e w' => e = .returned (.int .i64 0) ∧ Below w.heap.size w w' := by
  have hcase : (lo < 1 ∧ hi < 1) ∨ (1 ≤ lo ∧ hi ≤ 1000000 ∧ hi < lo) ∨ (1 ≤ lo ∧ 1000000 < hi ∧ 1000000 < lo) := by omega
  clear hab
  rcases hcase with ⟨g1, g2⟩ | ⟨g1, g2, g3⟩ | ⟨g1, g2, g3⟩
  · have p1 : decide (lo < 1) = true := by simp; omega
    have p2 : decide (1000000 < hi) = false := by simp; omega
    have p3 : decide (hi < 1) = true := by simp; omega
    go_enter Tryd.func18, Tryd.ntmps18
    go_wp2_with fail
    go_ret
    exact ⟨rfl, Below.refl _ _⟩
  · have p1 : decide (lo < 1) = false := by simp; omega
    have p2 : decide (1000000 < hi) = false := by simp; omega
    have p3 : decide (hi < lo) = true := by simp; omega
    go_enter Tryd.func18, Tryd.ntmps18
    go_wp2_with fail
    go_ret
    exact ⟨rfl, Below.refl _ _⟩
  · have p1 : decide (lo < 1) = false := by simp; omega
    have p2 : decide (1000000 < hi) = true := by simp; omega
    have p3 : decide (1000000 < lo) = true := by simp; omega
    go_enter Tryd.func18, Tryd.ntmps18
    go_wp2_with fail
    go_ret
    exact ⟨rfl, Below.refl _ _⟩
theorem rcount_any (A : Option Addr) (n c : Nat) (l : List Stp) (lo hi : Int) (w : World) (h : TabAt w w.heap.size A n l) (ho : chk l = none) :
    Calls Tryd.prog 18 #[.slice A n c, .int .i64 lo, .int .i64 hi] w fun e w' => e = .returned (.int .i64 (countT l lo hi)) ∧ Below w.heap.size w w' := by
  by_cases hab : max lo 1 ≤ min hi 1000000
  · rw [countT_main hab, h.len]
    by_cases hlo : lo < 1
    · by_cases hhi : 1000000 < hi
      · rw [show max lo 1 = 1 by omega, show min hi 1000000 = 1000000 by omega]
        exact rcount_d A n c l lo hi w h ho hlo hhi (by omega)
      · rw [show max lo 1 = 1 by omega, show min hi 1000000 = hi by omega]
        exact rcount_c A n c l lo hi w h ho hlo (by omega) (by omega)
    · by_cases hhi : 1000000 < hi
      · rw [show max lo 1 = lo by omega, show min hi 1000000 = 1000000 by omega]
        exact rcount_b A n c l lo hi w h ho (by omega) hhi (by omega)
      · rw [show max lo 1 = lo by omega, show min hi 1000000 = hi by omega]
        exact rcount_a A n c l lo hi w h ho (by omega) (by omega) (by omega)
  · rw [countT_none (okT_chk ho) hab]
    exact rcount_none A n c lo hi w hab
end Go.Proofs.YtihdebgofjacpaaDoor
