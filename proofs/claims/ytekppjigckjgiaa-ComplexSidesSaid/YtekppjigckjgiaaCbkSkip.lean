/- The laws of stage 21 where they say nothing: too many acts, too many nets, orders of two sides or of none. -/
import Derived.Test.YtekppjigckjgiaaCbkPl
set_option linter.unusedSimpArgs false
namespace Go.Proofs.Ytekppjigckjgiaa
open Go.RowKit Go.Mem1 Go.CbkMath

set_option maxRecDepth 100000 in
theorem plays_skip (A : Option Addr) (n cp : Nat) (id : Int) (w : World) (hn : 100 < n) :
    Calls Try.prog 3 #[.slice A n cp, .int .i64 id] w fun e w' => e = .returned (.bool true) ∧ Below w.heap.size w w' := by
  have t1 : decide ((100 : Int) < (n : Int)) = true := by simp; omega
  go_enter Try.func3, Try.ntmps3
  go_wp2_with (go_at_call 7; refine (cknown_ok _).mono ?_; rintro e w0 ⟨rfl, hb0⟩; replace hb0 := Lib.hid hb0)
  go_ret
  exact ⟨rfl, hb0.out⟩
set_option maxRecDepth 100000 in
theorem sides_skip (A : Option Addr) (n cp : Nat) (sell : Bool) (w : World) (hn : 60 < n) :
    Calls Try.prog 6 #[.slice A n cp, .bool sell] w fun e w' => e = .returned (.bool true) ∧ Below w.heap.size w w' := by
  have t1 : decide ((60 : Int) < (n : Int)) = true := by simp; omega
  go_enter Try.func6, Try.ntmps6
  go_wp2_with (go_at_call 7; refine (cknown_ok _).mono ?_; rintro e w0 ⟨rfl, hb0⟩; replace hb0 := Lib.hid hb0)
  go_ret
  exact ⟨rfl, hb0.out⟩
set_option maxRecDepth 100000 in
set_option maxHeartbeats 2000000 in
theorem two_skip (a b : CO) (net : Int) (w : World) (h : ¬ (a.si = b.si ∧ (a.si = 1 ∨ a.si = 2))) : Calls Try.prog 4 #[coV a, coV b, .int .i64 net] w fun e w' => e = .returned (.bool true) ∧ Below w.heap.size w w' := by
  obtain ⟨i1, o1, s1, n1, u1⟩ := a
  obtain ⟨i2, o2, s2, n2, u2⟩ := b
  dsimp only at h
  unfold coV
  dsimp only
  go_enter Try.func4, Try.ntmps4
  go_wp2_with (go_at_call 7; refine (cknown_ok _).mono ?_; rintro e w1 ⟨rfl, hb1⟩; refine Hid.out ?_)
  have hOA : OrdAt w1 w.heap.size 31 ⟨i1, o1, s1, n1, u1⟩ := Box.kept_below (Box.kept_below (Box.fresh w 31 #[.int .i64 i1, .int .i64 o1, .int .i64 s1, .int .i64 n1, .int .i64 u1] rfl) (bel_new _ (.cells #[.int .i64 i2, .int .i64 o2, .int .i64 s2, .int .i64 n2, .int .i64 u2] 31)) (by simp)) hb1 (by simp; omega)
  have hOB : OrdAt w1 (w.heap.size + 1) 31 ⟨i2, o2, s2, n2, u2⟩ := Box.kept_below (Box.fresh (w.alloc (.cells #[.int .i64 i1, .int .i64 o1, .int .i64 s1, .int .i64 n1, .int .i64 u1] 31)) 31 #[.int .i64 i2, .int .i64 o2, .int .i64 s2, .int .i64 n2, .int .i64 u2] (by simp)) hb1 (by simp)
  have HB1 := Lib.hid (bel_trans (bel_alloc (bel_new w (.cells #[.int .i64 i1, .int .i64 o1, .int .i64 s1, .int .i64 n1, .int .i64 u1] 31)) (.cells #[.int .i64 i2, .int .i64 o2, .int .i64 s2, .int .i64 n2, .int .i64 u2] 31)) hb1)
  obtain ⟨p0, p1, p2, p3, p4⟩ := hOA.cells
  obtain ⟨q0, q1, q2, q3, q4⟩ := hOB.cells
  clear hOA hOB hb1
  refine Lib.hid ?_
  by_cases g : s1 = s2
  · subst g
    have g0 : (s1 == s1) = true := by simp
    have g1 : (s1 == 1) = false := by simp; omega
    have g2 : (s1 == 2) = false := by simp; omega
    have g3 : ¬ s1 = 1 := by omega
    have g4 : ¬ s1 = 2 := by omega
    have g5 : (s1 != 1) = true := by simp; omega
    have g6 : (s1 != 2) = true := by simp; omega
    go_wp2_with fail
    all_goals
      first
        | (go_ret; exact ⟨rfl, HB1.out⟩)
        | (exfalso; simp_all)
  · have g0 : (s1 == s2) = false := by simpa using g
    go_wp2_with fail
    all_goals
      go_ret
      exact ⟨rfl, HB1.out⟩
end Go.Proofs.Ytekppjigckjgiaa
