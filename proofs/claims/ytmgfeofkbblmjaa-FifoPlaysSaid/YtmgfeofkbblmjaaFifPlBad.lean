/- straddlelaw9.FifoPlays: where it says nothing, and where there is no arena. -/
import Derived.Test.YtmgfeofkbblmjaaFifKnown
set_option linter.unusedSimpArgs false
namespace Go.Proofs.Ytmgfeofkbblmjaa
open Go.RowKit Go.Mem1 Go.FifMath

section
variable (A : Option Addr) (n cp : Nat) (w : World)
def PlTrue (w : World) (e : Ending) (w' : World) : Prop := e = .returned (.bool true) ∧ Below w.heap.size w w'
set_option maxRecDepth 100000 in
set_option maxHeartbeats 2000000 in
theorem plays_skip (r c : Int) (h : 100 < n ∨ (100 < c ∧ c ≤ 4096) ∨ (20 < r ∧ r ≤ 1024)) :
    Calls Try.prog 3 #[.int .i64 r, .int .i64 c, .slice A n cp] w (PlTrue w) := by
  by_cases h1 : 100 < n
  · have t1 : decide ((100 : Int) < (n : Int)) = true := by simp; omega
    clear h h1
    go_enter Try.func3, Try.ntmps3
    go_wp2_with (go_at_call 6; refine (fknown_ok _).mono ?_; rintro e w0 ⟨rfl, hb0⟩; replace hb0 := Lib.hid hb0)
    go_ret
    exact ⟨rfl, hb0.out⟩
  · have t1 : decide ((100 : Int) < (n : Int)) = false := by simp; omega
    by_cases h2 : 100 < c ∧ c ≤ 4096
    · have t2 : decide (100 < c) = true := by simpa using h2.1
      have t3 : decide (c ≤ 4096) = true := by simpa using h2.2
      clear h h1 h2
      go_enter Try.func3, Try.ntmps3
      go_wp2_with (go_at_call 6; refine (fknown_ok _).mono ?_; rintro e w0 ⟨rfl, hb0⟩; replace hb0 := Lib.hid hb0)
      go_ret
      exact ⟨rfl, hb0.out⟩
    · have t4 : decide (20 < r) = true := by simp; omega
      have t5 : decide (r ≤ 1024) = true := by simp; omega
      by_cases h3 : 100 < c
      · have t2 : decide (100 < c) = true := by simpa using h3
        have t3 : decide (c ≤ 4096) = false := by simp; omega
        clear h h1 h2 h3
        go_enter Try.func3, Try.ntmps3
        go_wp2_with (go_at_call 6; refine (fknown_ok _).mono ?_; rintro e w0 ⟨rfl, hb0⟩; replace hb0 := Lib.hid hb0)
        go_ret
        exact ⟨rfl, hb0.out⟩
      · have t2 : decide (100 < c) = false := by simpa using h3
        clear h h1 h2 h3
        go_enter Try.func3, Try.ntmps3
        go_wp2_with (go_at_call 6; refine (fknown_ok _).mono ?_; rintro e w0 ⟨rfl, hb0⟩; replace hb0 := Lib.hid hb0)
        go_ret
        exact ⟨rfl, hb0.out⟩
set_option maxRecDepth 100000 in
set_option maxHeartbeats 2000000 in
theorem plays_none (r c : Int) (hn : n ≤ 100) (hc : c ≤ 100 ∨ 4096 < c) (hr : r ≤ 20 ∨ 1024 < r) (h : r < 1 ∨ 1024 < r ∨ c < 1 ∨ 4096 < c) :
    Calls Try.prog 3 #[.int .i64 r, .int .i64 c, .slice A n cp] w (PlTrue w) := by
  have t1 : decide ((100 : Int) < (n : Int)) = false := by simp; omega
  have HNB := Lib.hid (fun w1 => new_bad w1 r c h)
  by_cases h1 : r < 1
  · have t4 : decide (20 < r) = false := by simp; omega
    have t6 : decide (1 ≤ r) = false := by simp; omega
    by_cases h3 : 100 < c
    · have t2 : decide (100 < c) = true := by simpa using h3
      have t3 : decide (c ≤ 4096) = false := by simp; omega
      clear h h1 hc hr hn h3
      go_enter Try.func3, Try.ntmps3
      go_wp2_with ((first
        | (go_at_call 6; refine (fknown_ok _).mono ?_; rintro e w0 ⟨rfl, hb0⟩; replace hb0 := Lib.hid hb0)
        | (go_at_call 7; refine (HNB.out _).mono ?_; rintro _ _ ⟨rfl, rfl⟩)))
      go_ret
      exact ⟨rfl, hb0.out⟩
    · have t2 : decide (100 < c) = false := by simpa using h3
      clear h h1 hc hr hn h3
      go_enter Try.func3, Try.ntmps3
      go_wp2_with ((first
        | (go_at_call 6; refine (fknown_ok _).mono ?_; rintro e w0 ⟨rfl, hb0⟩; replace hb0 := Lib.hid hb0)
        | (go_at_call 7; refine (HNB.out _).mono ?_; rintro _ _ ⟨rfl, rfl⟩)))
      go_ret
      exact ⟨rfl, hb0.out⟩
  · have t6 : decide (1 ≤ r) = true := by simp; omega
    by_cases h2 : 1024 < r
    · have t4 : decide (20 < r) = true := by simp; omega
      have t5 : decide (r ≤ 1024) = false := by simp; omega
      by_cases h3 : 100 < c
      · have t2 : decide (100 < c) = true := by simpa using h3
        have t3 : decide (c ≤ 4096) = false := by simp; omega
        clear h h1 h2 hc hr hn h3
        go_enter Try.func3, Try.ntmps3
        go_wp2_with ((first
          | (go_at_call 6; refine (fknown_ok _).mono ?_; rintro e w0 ⟨rfl, hb0⟩; replace hb0 := Lib.hid hb0)
          | (go_at_call 7; refine (HNB.out _).mono ?_; rintro _ _ ⟨rfl, rfl⟩)))
        go_ret
        exact ⟨rfl, hb0.out⟩
      · have t2 : decide (100 < c) = false := by simpa using h3
        clear h h1 h2 hc hr hn h3
        go_enter Try.func3, Try.ntmps3
        go_wp2_with ((first
          | (go_at_call 6; refine (fknown_ok _).mono ?_; rintro e w0 ⟨rfl, hb0⟩; replace hb0 := Lib.hid hb0)
          | (go_at_call 7; refine (HNB.out _).mono ?_; rintro _ _ ⟨rfl, rfl⟩)))
        go_ret
        exact ⟨rfl, hb0.out⟩
    · have t4 : decide (20 < r) = false := by simp; omega
      have t5 : decide (r ≤ 1024) = true := by simp; omega
      by_cases h3 : 100 < c
      · have t2 : decide (100 < c) = true := by simpa using h3
        have t3 : decide (c ≤ 4096) = false := by simp; omega
        have t7 : decide (1 ≤ c) = true := by simp; omega
        clear h h1 h2 hc hr hn h3
        go_enter Try.func3, Try.ntmps3
        go_wp2_with ((first
          | (go_at_call 6; refine (fknown_ok _).mono ?_; rintro e w0 ⟨rfl, hb0⟩; replace hb0 := Lib.hid hb0)
          | (go_at_call 7; refine (HNB.out _).mono ?_; rintro _ _ ⟨rfl, rfl⟩)))
        go_ret
        exact ⟨rfl, hb0.out⟩
      · have t2 : decide (100 < c) = false := by simpa using h3
        have t7 : decide (1 ≤ c) = false := by simp; omega
        clear h h1 h2 hc hr hn h3
        go_enter Try.func3, Try.ntmps3
        go_wp2_with ((first
          | (go_at_call 6; refine (fknown_ok _).mono ?_; rintro e w0 ⟨rfl, hb0⟩; replace hb0 := Lib.hid hb0)
          | (go_at_call 7; refine (HNB.out _).mono ?_; rintro _ _ ⟨rfl, rfl⟩)))
        go_ret
        exact ⟨rfl, hb0.out⟩
end
end Go.Proofs.Ytmgfeofkbblmjaa
