/- Contracts of the landed msg's fault and check, and of the reference's wrong, At, In. -/
import Derived.Test.YtjfjdicdokdekaaDoorMsgSmall
import Derived.Test.YtjfjdicdokdekaaDoorCodErr
import Derived.Test.YtjfjdicdokdekaaDoorWordsAll
import Derived.Deep.RegionHeld3
set_option linter.unusedSimpArgs false
namespace Go.Proofs.YtjfjdicdokdekaaDoor
open Go.RowKit Go.Mem1

def msgBytes : ByteArray := ⟨#[109, 115, 103]⟩
/-- An error of one part more. -/
def FaultPost (w : World) (at_ : Int) (l : List (ByteArray × Int)) (n : Int) (e : Ending) (w' : World) : Prop :=
  ∃ b, e = .returned (.iface 78 (.pointer (some ⟨b, 0, none⟩))) ∧ IsErr w' w'.heap.size ((msgBytes, at_) :: l) n (.iface 78 (.pointer (some ⟨b, 0, none⟩))) ∧ Below w.heap.size w w'
theorem fault_end (w : World) (at_ : Int) (l : List (ByteArray × Int)) (n : Int) (v : Value) (h : IsErr w w.heap.size l n v) :
    FaultPost w at_ l n (.returned (.iface 78 (.pointer (some ⟨w.heap.size, 0, none⟩)))) (w.alloc (.cells #[.string msgBytes, .int .i64 at_, v] 82)) := by
  exact ⟨w.heap.size, rfl, ⟨w.heap.size, v, rfl, by simp, by simp, by simp, by simp, (h.carry (bel_new w _)).wider (by simp)⟩, bel_new w _⟩
theorem mfault_any (at_ : Int) (l : List (ByteArray × Int)) (n : Int) (v : Value) (w : World) (h : IsErr w w.heap.size l n v) :
    Calls Tryd.prog 48 #[.int .i64 at_, v] w (FaultPost w at_ l n) := by
  have HF := Lib.hid (fault_end w at_ l n v h)
  obtain ⟨t, x, rfl⟩ := h.notNil
  clear h
  go_enter Tryd.func48, Tryd.ntmps48
  go_wp2_with fail
  go_ret
  exact HF.out

/-- What check tells. -/
def ChkPost (w : World) (k : Int) (c : Nat) (e : Ending) (w' : World) : Prop :=
  (c = 0 ∧ e = .returned .nilIface ∧ w = w') ∨ (c ≠ 0 ∧ FaultPost w k [] (c : Int) e w')
set_option maxHeartbeats 1000000 in
theorem check_any (k seq rows : Int) (w : World) :
    Calls Tryd.prog 49 #[.int .i64 k, .int .i64 seq, .int .i64 rows] w (ChkPost w k (MsgMath.chk k seq rows)) := by
  have hr := rows_any k w
  have hkn := known_any k w
  have hin := in_any rows (MsgMath.least k) (MsgMath.most k) w
  have hf5 := mfault_any k [] 5 (.iface 77 (.int .i64 5)) w rfl
  have hf1 := mfault_any k [] 1 (.iface 77 (.int .i64 1)) w rfl
  have hf4 := mfault_any k [] 4 (.iface 77 (.int .i64 4)) w rfl
  have HR := Lib.hid hr
  have HF5 := Lib.hid hf5
  have HF1 := Lib.hid hf1
  have HF4 := Lib.hid hf4
  by_cases h1 : MsgMath.known k = true
  · rw [h1] at hkn
    by_cases h2 : seq < 0
    · have hc : MsgMath.chk k seq rows = 1 := by unfold MsgMath.chk; rw [h1]; simp [h2]
      rw [hc]
      have hd : decide (seq < 0) = true := by simpa using h2
      have HK := Lib.hid hkn
      clear hr hkn hin hf5 hf1 hf4 h1 hc
      go_enter Tryd.func49, Tryd.ntmps49
      go_wp2_with (first
        | (go_at_call 39; refine HR.out.mono ?_; rintro e w1 ⟨rfl, rfl⟩)
        | (go_at_call 41; refine HK.out.mono ?_; rintro e w1 ⟨rfl, rfl⟩)
        | (go_at_call 48; refine HF1.out.mono ?_; rintro e w1 ⟨b, rfl, hE, hB⟩; have HE := Lib.hid hE; clear hE))
      go_ret
      exact .inr ⟨by decide, b, rfl, HE.out, hB⟩
    · have hd : decide (seq < 0) = false := by simpa using h2
      by_cases h3 : MsgMath.least k ≤ rows ∧ rows ≤ MsgMath.most k
      · have hc : MsgMath.chk k seq rows = 0 := by unfold MsgMath.chk; rw [h1, if_neg (by decide), if_neg h2, if_neg (by omega)]
        rw [hc]
        rw [decide_eq_true h3] at hin
        have HK := Lib.hid hkn
        have HI := Lib.hid hin
        clear hr hkn hin hf5 hf1 hf4 h1 hc h3
        go_enter Tryd.func49, Tryd.ntmps49
        go_wp2_with (first
          | (go_at_call 39; refine HR.out.mono ?_; rintro e w1 ⟨rfl, rfl⟩)
          | (go_at_call 41; refine HK.out.mono ?_; rintro e w1 ⟨rfl, rfl⟩)
          | (go_at_call 78; refine HI.out.mono ?_; rintro e w1 ⟨rfl, rfl⟩))
        go_ret
        exact .inl ⟨rfl, rfl, rfl⟩
      · have hc : MsgMath.chk k seq rows = 4 := by unfold MsgMath.chk; rw [h1, if_neg (by decide), if_neg h2, if_pos (by omega)]
        rw [hc]
        rw [decide_eq_false h3] at hin
        have HK := Lib.hid hkn
        have HI := Lib.hid hin
        clear hr hkn hin hf5 hf1 hf4 h1 hc h3
        go_enter Tryd.func49, Tryd.ntmps49
        go_wp2_with (first
          | (go_at_call 39; refine HR.out.mono ?_; rintro e w1 ⟨rfl, rfl⟩)
          | (go_at_call 41; refine HK.out.mono ?_; rintro e w1 ⟨rfl, rfl⟩)
          | (go_at_call 78; refine HI.out.mono ?_; rintro e w1 ⟨rfl, rfl⟩)
          | (go_at_call 48; refine HF4.out.mono ?_; rintro e w1 ⟨b, rfl, hE, hB⟩; have HE := Lib.hid hE; clear hE))
        go_ret
        exact .inr ⟨by decide, b, rfl, HE.out, hB⟩
  · have h1' : MsgMath.known k = false := by simpa using h1
    rw [h1'] at hkn
    have hc : MsgMath.chk k seq rows = 5 := by unfold MsgMath.chk; rw [h1', if_pos rfl]
    rw [hc]
    have HK := Lib.hid hkn
    clear hr hkn hin hf5 hf1 hf4 h1 h1' hc
    go_enter Tryd.func49, Tryd.ntmps49
    go_wp2_with (first
      | (go_at_call 39; refine HR.out.mono ?_; rintro e w1 ⟨rfl, rfl⟩)
      | (go_at_call 41; refine HK.out.mono ?_; rintro e w1 ⟨rfl, rfl⟩)
      | (go_at_call 48; refine HF5.out.mono ?_; rintro e w1 ⟨b, rfl, hE, hB⟩; have HE := Lib.hid hE; clear hE))
    go_ret
    exact .inr ⟨by decide, b, rfl, HE.out, hB⟩

theorem check_bad (k seq rows : Int) (w : World) (h : MsgMath.chk k seq rows ≠ 0) :
    Calls Tryd.prog 49 #[.int .i64 k, .int .i64 seq, .int .i64 rows] w (FaultPost w k [] ((MsgMath.chk k seq rows : Nat) : Int)) :=
  (check_any k seq rows w).mono fun _ _ hh => hh.elim (fun h' => absurd h'.1 h) (fun h' => h'.2)
theorem check_ok (k seq rows : Int) (w : World) (h : MsgMath.chk k seq rows = 0) :
    Calls Tryd.prog 49 #[.int .i64 k, .int .i64 seq, .int .i64 rows] w fun e w' => e = .returned .nilIface ∧ w = w' :=
  (check_any k seq rows w).mono fun _ _ hh => hh.elim (fun h' => h'.2) (fun h' => absurd h h'.1)

/-- The reference's error of one part, in new memory. -/
def RefErr (w : World) (l : List (ByteArray × Int)) (x : Int) (e : Ending) (w' : World) : Prop :=
  ∃ A n c, e = .returned (.agg #[.slice A n c, .int .i64 x]) ∧ (A = none → c = 0) ∧ PartsAt w' w'.heap.size A n l ∧ Below w.heap.size w w'
set_option maxHeartbeats 1000000 in
theorem refAt_any (s : ByteArray) (k x : Int) (w : World) : Calls Tryd.prog 19 #[.string s, .int .i64 k, .int .i64 x] w (RefErr w [(s, k)] x) := by
  go_enter Tryd.func19, Tryd.ntmps19
  go_wp2_with fail
  refine bodyPost_ret (v := .agg #[.slice (some ⟨w.heap.size + 1, 0, none⟩) 1 1, .int .i64 x]) (by simp [results, Tryd.results19, go_sem]) rfl ⟨_, 1, 1, rfl, (fun h => by cases h), ⟨rfl, fun i y hi => ?_⟩, ?_⟩
  · match i, hi with
    | 0, hi =>
      injection hi with hi
      subst hi
      exact ⟨_, 0, rfl, by simp, by simp, by simp⟩
  · exact bel_alloc (bel_new w _) _

theorem int_ret {a b : Int} (h : a = b) : Ending.returned (.int .i64 a) = .returned (.int .i64 b) := by rw [h]
set_option maxHeartbeats 1000000 in
theorem refWrong_any (k seq rows : Int) (w : World) :
    Calls Tryd.prog 52 #[.int .i64 k, .int .i64 seq, .int .i64 rows] w (IntPost (MsgMath.chk k seq rows) w) := by
  have HR := Lib.hid (refRows_any k w)
  have hkn := refKnown_any k w
  by_cases h1 : MsgMath.known k = true
  · rw [h1] at hkn
    have h0 : 0 ≤ k ∧ k ≤ 255 := by unfold MsgMath.known at h1; have := of_decide_eq_true h1; omega
    have d1 : decide (k < 0) = false := by simp; omega
    have d2 : decide (255 < k) = false := by simp; omega
    have hc : MsgMath.chk k seq rows = if seq < 0 then 1 else if rows < MsgMath.least k ∨ MsgMath.most k < rows then 4 else 0 := by unfold MsgMath.chk; rw [h1, if_neg (by decide)]
    have HC := Lib.hid hc
    have HK := Lib.hid hkn
    clear hkn h1 hc h0
    go_enter Tryd.func52, Tryd.ntmps52
    go_wp2_with (first
        | (go_at_call 80; refine HR.out.mono ?_; rintro e w1 ⟨rfl, rfl⟩)
        | (go_at_call 79; refine HK.out.mono ?_; rintro e w1 ⟨rfl, rfl⟩))
    all_goals
      go_ret
      exact int_post (by rw [HC.out]; (repeat (first | rfl | omega | split)))
  · have h1' : MsgMath.known k = false := by simpa using h1
    rw [h1'] at hkn
    have hc : MsgMath.chk k seq rows = 5 := by unfold MsgMath.chk; rw [h1', if_pos rfl]
    rw [hc]
    have HK := Lib.hid hkn
    clear hkn h1 h1' hc
    by_cases d1 : k < 0
    · have d1 : decide (k < 0) = true := by simpa using d1
      go_enter Tryd.func52, Tryd.ntmps52
      go_wp2_with fail
      go_ret
      exact ⟨rfl, rfl⟩
    · have d1 : decide (k < 0) = false := by simpa using d1
      by_cases d2 : 255 < k
      · have d2 : decide (255 < k) = true := by simpa using d2
        go_enter Tryd.func52, Tryd.ntmps52
        go_wp2_with fail
        go_ret
        exact ⟨rfl, rfl⟩
      · have d2 : decide (255 < k) = false := by simpa using d2
        go_enter Tryd.func52, Tryd.ntmps52
        go_wp2_with (first
          | (go_at_call 79; refine HK.out.mono ?_; rintro e w1 ⟨rfl, rfl⟩))
        go_ret
        exact ⟨rfl, rfl⟩
end Go.Proofs.YtjfjdicdokdekaaDoor
