/- Contracts of the landed msg's Known, Rows, cut, fault, check, num.In, and of the reference's. -/
import Derived.Test.YtjfjdicdokdekaaDoorBy
import Derived.Test.YtjfjdicdokdekaaDoorCodDec
import Derived.Test.YtjfjdicdokdekaaDoorErr
import Derived.Deep.QuietTactic
import Derived.BigQuiet
set_option linter.unusedSimpArgs false
namespace Go.MsgMath
/-- Which kinds there are; how many rows each has; a kind cut; what is wrong. -/
def known (k : Int) : Bool := decide ((1 ≤ k ∧ k ≤ 15) ∨ (33 ≤ k ∧ k ≤ 38) ∨ (65 ≤ k ∧ k ≤ 68))
def least (k : Int) : Int := if k = 8 then 1 else if k = 11 then 2 else 0
def most (k : Int) : Int := if k = 8 then 50 else if k = 37 then 50 else if k = 11 then 4 else if k = 67 then 64 else 0
def cut (k : Int) : Int := if k < 0 then 0 else if 255 < k then 255 else k
def chk (k seq rows : Int) : Nat := if known k = false then 5 else if seq < 0 then 1 else if rows < least k ∨ most k < rows then 4 else 0
theorem cut_bd (k : Int) : 0 ≤ cut k ∧ cut k ≤ 255 := by unfold cut; split <;> (try split) <;> omega
theorem known_cut (k : Int) : known (cut k) = known k := by
  unfold known cut
  rw [decide_eq_decide]
  split <;> (try split) <;> omega
theorem cut_of_known {k : Int} (h : known k = true) : cut k = k := by
  unfold known at h
  have := of_decide_eq_true h
  unfold cut
  split <;> (try split) <;> omega
theorem chk_cut (k seq rows : Int) : chk (cut k) seq rows = chk k seq rows := by
  unfold chk
  rw [known_cut]
  split
  · rfl
  · rename_i h
    rw [cut_of_known (by simpa using h)]
theorem most_bd (k : Int) : 0 ≤ least k ∧ least k ≤ 2 ∧ 0 ≤ most k ∧ most k ≤ 64 := by
  unfold least most
  split <;> (repeat' split) <;> omega
theorem chk_bd (k seq rows : Int) : chk k seq rows ≤ 5 := by unfold chk; (repeat (first | omega | split))
theorem chk_ok {k seq rows : Int} (h : chk k seq rows = 0) : known k = true ∧ 0 ≤ seq ∧ least k ≤ rows ∧ rows ≤ most k := by
  unfold chk at h
  split at h
  · cases h
  · split at h
    · cases h
    · split at h
      · cases h
      · rename_i h1 h2 h3
        exact ⟨by simpa using h1, by omega, by omega, by omega⟩
end Go.MsgMath
namespace Go.Proofs.YtjfjdicdokdekaaDoor
open Go.RowKit Go.Mem1

theorem ret_bool {a b : Bool} (h : a = b) : Ending.returned (.bool a) = .returned (.bool b) := by rw [h]
theorem known_any (k : Int) (w : World) :
    Calls Tryd.prog 41 #[.int .i64 k] w fun e w' => e = .returned (.bool (MsgMath.known k)) ∧ w = w' := by
  have hk : MsgMath.known k = decide ((1 ≤ k ∧ k ≤ 15) ∨ (33 ≤ k ∧ k ≤ 38) ∨ (65 ≤ k ∧ k ≤ 68)) := rfl
  have HK := Lib.hid hk
  clear hk
  generalize MsgMath.known k = b at HK
  go_enter Tryd.func41, Tryd.ntmps41
  go_wp2_with fail
  all_goals
    go_ret
    exact ⟨ret_bool (by rw [HK.out]; first | exact (decide_eq_true (by omega)).symm | exact (decide_eq_false (by omega)).symm), rfl⟩
theorem refKnown_any (k : Int) (w : World) :
    Calls Tryd.prog 79 #[.int .i64 k] w fun e w' => e = .returned (.bool (MsgMath.known k)) ∧ w = w' := by
  have hk : MsgMath.known k = decide ((1 ≤ k ∧ k ≤ 15) ∨ (33 ≤ k ∧ k ≤ 38) ∨ (65 ≤ k ∧ k ≤ 68)) := rfl
  have HK := Lib.hid hk
  clear hk
  generalize MsgMath.known k = b at HK
  go_enter Tryd.func79, Tryd.ntmps79
  go_wp2_with fail
  all_goals
    go_ret
    exact ⟨ret_bool (by rw [HK.out]; first | exact (decide_eq_true (by omega)).symm | exact (decide_eq_false (by omega)).symm | (rw [Bool.eq_iff_iff]; simp only [Bool.or_eq_true, Bool.and_eq_true, decide_eq_true_eq]; omega)), rfl⟩
def RowsPost (k : Int) (w : World) (e : Ending) (w' : World) : Prop := e = .returned (.tuple #[.int .i64 (MsgMath.least k), .int .i64 (MsgMath.most k)]) ∧ w = w'
theorem rows_post {k a b : Int} {w : World} (h : a = MsgMath.least k) (h' : b = MsgMath.most k) : RowsPost k w (.returned (.tuple #[.int .i64 a, .int .i64 b])) w := by
  subst h; subst h'; exact ⟨rfl, rfl⟩
theorem rows_any (k : Int) (w : World) : Calls Tryd.prog 39 #[.int .i64 k] w (RowsPost k w) := by
  by_cases h8 : k = 8
  · subst h8
    go_enter Tryd.func39, Tryd.ntmps39
    go_wp2_with fail
    go_ret2
    exact rows_post rfl rfl
  by_cases h37 : k = 37
  · subst h37
    go_enter Tryd.func39, Tryd.ntmps39
    go_wp2_with fail
    go_ret2
    exact rows_post rfl rfl
  by_cases h11 : k = 11
  · subst h11
    go_enter Tryd.func39, Tryd.ntmps39
    go_wp2_with fail
    go_ret2
    exact rows_post rfl rfl
  by_cases h67 : k = 67
  · subst h67
    go_enter Tryd.func39, Tryd.ntmps39
    go_wp2_with fail
    go_ret2
    exact rows_post rfl rfl
  have e8 : (k == 8) = false := by simp [h8]
  have e37 : (k == 37) = false := by simp [h37]
  have e11 : (k == 11) = false := by simp [h11]
  have e67 : (k == 67) = false := by simp [h67]
  have hl : MsgMath.least k = 0 := by unfold MsgMath.least; rw [if_neg h8, if_neg h11]
  have hm : MsgMath.most k = 0 := by unfold MsgMath.most; rw [if_neg h8, if_neg h37, if_neg h11, if_neg h67]
  have HL := Lib.hid hl
  have HM := Lib.hid hm
  clear hl hm h8 h37 h11 h67
  go_enter Tryd.func39, Tryd.ntmps39
  go_wp2_with fail
  go_ret2
  exact rows_post HL.out.symm HM.out.symm
theorem refRows_any (k : Int) (w : World) : Calls Tryd.prog 80 #[.int .i64 k] w (RowsPost k w) := by
  by_cases h8 : k = 8
  · subst h8
    go_enter Tryd.func80, Tryd.ntmps80
    go_wp2_with fail
    go_ret2
    exact rows_post rfl rfl
  by_cases h37 : k = 37
  · subst h37
    go_enter Tryd.func80, Tryd.ntmps80
    go_wp2_with fail
    go_ret2
    exact rows_post rfl rfl
  by_cases h11 : k = 11
  · subst h11
    go_enter Tryd.func80, Tryd.ntmps80
    go_wp2_with fail
    go_ret2
    exact rows_post rfl rfl
  by_cases h67 : k = 67
  · subst h67
    go_enter Tryd.func80, Tryd.ntmps80
    go_wp2_with fail
    go_ret2
    exact rows_post rfl rfl
  have e8 : (k == 8) = false := by simp [h8]
  have e37 : (k == 37) = false := by simp [h37]
  have e11 : (k == 11) = false := by simp [h11]
  have e67 : (k == 67) = false := by simp [h67]
  have hl : MsgMath.least k = 0 := by unfold MsgMath.least; rw [if_neg h8, if_neg h11]
  have hm : MsgMath.most k = 0 := by unfold MsgMath.most; rw [if_neg h8, if_neg h37, if_neg h11, if_neg h67]
  have HL := Lib.hid hl
  have HM := Lib.hid hm
  clear hl hm h8 h37 h11 h67
  go_enter Tryd.func80, Tryd.ntmps80
  go_wp2_with fail
  go_ret2
  exact rows_post HL.out.symm HM.out.symm
theorem in_any (n a b : Int) (w : World) :
    Calls Tryd.prog 78 #[.int .i64 n, .int .i64 a, .int .i64 b] w fun e w' => e = .returned (.bool (decide (a ≤ n ∧ n ≤ b))) ∧ w = w' := by
  have hk : ∃ t : Bool, t = decide (a ≤ n ∧ n ≤ b) := ⟨_, rfl⟩
  obtain ⟨t, ht⟩ := hk
  rw [← ht]
  have HK := Lib.hid ht
  clear ht
  go_enter Tryd.func78, Tryd.ntmps78
  go_wp2_with fail
  all_goals
    go_ret
    exact ⟨ret_bool (by rw [HK.out]; first | exact (decide_eq_true (by omega)).symm | exact (decide_eq_false (by omega)).symm | (rw [Bool.eq_iff_iff]; simp only [Bool.or_eq_true, Bool.and_eq_true, decide_eq_true_eq]; omega)), rfl⟩
def IntPost (k : Int) (w : World) (e : Ending) (w' : World) : Prop := e = .returned (.int .i64 k) ∧ w = w'
theorem int_post {a k : Int} {w : World} (h : a = k) : IntPost k w (.returned (.int .i64 a)) w := by subst h; exact ⟨rfl, rfl⟩
theorem cut_any (k : Int) (w : World) : Calls Tryd.prog 44 #[.int .i64 k] w (IntPost (MsgMath.cut k) w) := by
  go_enter Tryd.func44, Tryd.ntmps44
  go_wp2_with fail
  all_goals
    go_ret
    exact int_post (by unfold MsgMath.cut; (repeat (first | rfl | omega | split)))
theorem refCut_any (k : Int) (w : World) : Calls Tryd.prog 53 #[.int .i64 k] w (IntPost (MsgMath.cut k) w) := by
  go_enter Tryd.func53, Tryd.ntmps53
  go_wp2_with fail
  all_goals
    go_ret
    exact int_post (by unfold MsgMath.cut; (repeat (first | rfl | omega | split)))
end Go.Proofs.YtjfjdicdokdekaaDoor
