/- Contracts of series.check, Check; cmp.Compare at three types, cmp.Or, series.Compare. -/
import Derived.Test.YtoilgeahfdbhlaaGreatDoorDirSer
import Derived.Deep.QuietTactic
import Derived.BigQuiet
import Derived.StillTailTactics
import Derived.Laws.Strings
set_option linter.unusedSimpArgs false
namespace Go.Proofs.YtoilgeahfdbhlaaGreatDoor
open Go.RowKit Go.Mem1 Go.DirMath

/-- A series as a value. -/
abbrev serV (s : Ser) : Value := .agg #[.string s.cls, .int .i64 s.ex, .int .i64 s.st, .int .i64 s.rt]
theorem ri {a b : Int} (h : b = a) : Ending.returned (.int .i64 a) = .returned (.int .i64 b) := by rw [h]
def ChkAns (s : Ser) (w : World) (e : Ending) (w' : World) : Prop := (∃ a : Int, e = .returned (.tuple #[.int .i64 a, .int .i64 (serCode s)])) ∧ Below w.heap.size w w'
theorem ChkAns.mk (s : Ser) (w : World) {w' : World} (a x : Int) (h : x = serCode s) (hb : Below w.heap.size w w') : ChkAns s w (.returned (.tuple #[.int .i64 a, .int .i64 x])) w' := ⟨⟨a, by rw [h]⟩, hb⟩
set_option maxRecDepth 100000 in
set_option maxHeartbeats 1000000 in
theorem scheck_any (s : Ser) (w : World) (hs : s.cls.size ≤ 1000000) :
    Calls Tryz.prog 82 #[serV s] w (ChkAns s w) := by
  obtain ⟨c, x, t, r⟩ := s
  dsimp only at hs
  have HE := Lib.hid (fun x' (h : x' = serCode ⟨c, x, t, r⟩) => h)
  have HG := Lib.hid (fun w' => good_any c w' hs)
  have H1 := Lib.hid (fun w' => nIn_any x 1 100000 w')
  have H2 := Lib.hid (fun w' => nIn_any t 1 1000000 w')
  have H3 := Lib.hid (fun w' => letter_any r w')
  have HC := Lib.hid (show serCode ⟨c, x, t, r⟩ = if goodB c = false then 5 else if x < 1 ∨ 100000 < x then 1 else if r ≠ 1 ∧ r ≠ 2 then 1 else if t < 1 ∨ 1000000 < t then 1 else 0 from rfl)
  have HS := Lib.hid (fun (w' : World) (a x' : Int) (h : x' = serCode ⟨c, x, t, r⟩) (hb : Below w.heap.size w w') => ChkAns.mk ⟨c, x, t, r⟩ w a x' h hb)
  generalize goodB c = g at HG HC
  clear HE hs
  cases g with
  | false =>
    go_enter Tryz.func82, Tryz.ntmps82
    go_wp2_with (go_at_call 66; refine (HG.out _).mono ?_; rintro e w' ⟨rfl, rfl⟩)
    go_ret2
    exact HS.out _ _ _ (by rw [HC.out]; rfl) (bel_new _ _)
  | true =>
    by_cases hx : 1 ≤ x ∧ x ≤ 100000
    · rw [decide_eq_true hx] at H1
      by_cases hr : r = 1 ∨ r = 2
      · have hl : (letB r).toList.isEmpty = false ∧ ¬ (letB r).toList = [] := by
          rcases hr with rfl | rfl <;> exact ⟨by decide +kernel, by decide +kernel⟩
        obtain ⟨L, hL⟩ : ∃ L, letB r = L := ⟨_, rfl⟩
        rw [hL] at H3 hl
        clear hL
        obtain ⟨l1, l2⟩ := hl
        by_cases ht : 1 ≤ t ∧ t ≤ 1000000
        · rw [decide_eq_true ht] at H2
          have hz := HC.out
          rw [if_neg (by simp), if_neg (by omega), if_neg (by omega), if_neg (by omega)] at hz
          have HZ := Lib.hid hz
          clear hz hr hx ht HC
          go_enter Tryz.func82, Tryz.ntmps82
          go_wp2_with ((first | (go_at_call 66; refine (HG.out _).mono ?_; rintro e w' ⟨rfl, rfl⟩) | (go_at_call 92; refine (H1.out _).mono ?_; clear H1; rintro e w' ⟨rfl, rfl⟩) | (go_at_call 92; refine (H2.out _).mono ?_; clear H2; rintro e w' ⟨rfl, rfl⟩) | (go_at_call 93; refine (H3.out _).mono ?_; rintro e w' ⟨rfl, rfl⟩)))
          go_ret2
          exact HS.out _ _ _ HZ.out.symm (bel_new _ _)
        · rw [decide_eq_false ht] at H2
          have hz := HC.out
          rw [if_neg (by simp), if_neg (by omega), if_neg (by omega), if_pos (by omega)] at hz
          have HZ := Lib.hid hz
          clear hz hr hx ht HC
          go_enter Tryz.func82, Tryz.ntmps82
          go_wp2_with ((first | (go_at_call 66; refine (HG.out _).mono ?_; rintro e w' ⟨rfl, rfl⟩) | (go_at_call 92; refine (H1.out _).mono ?_; clear H1; rintro e w' ⟨rfl, rfl⟩) | (go_at_call 92; refine (H2.out _).mono ?_; clear H2; rintro e w' ⟨rfl, rfl⟩) | (go_at_call 93; refine (H3.out _).mono ?_; rintro e w' ⟨rfl, rfl⟩)))
          go_ret2
          exact HS.out _ _ _ HZ.out.symm (bel_new _ _)
      · have e : letB r = ⟨#[]⟩ := by unfold letB; rw [if_neg (by omega), if_neg (by omega)]
        rw [e] at H3
        have hz := HC.out
        rw [if_neg (by simp), if_neg (by omega), if_pos (by omega)] at hz
        have HZ := Lib.hid hz
        clear hz hr hx HC e
        go_enter Tryz.func82, Tryz.ntmps82
        go_wp2_with ((first | (go_at_call 66; refine (HG.out _).mono ?_; rintro e w' ⟨rfl, rfl⟩) | (go_at_call 92; refine (H1.out _).mono ?_; clear H1; rintro e w' ⟨rfl, rfl⟩) | (go_at_call 93; refine (H3.out _).mono ?_; rintro e w' ⟨rfl, rfl⟩)))
        go_ret2
        exact HS.out _ _ _ HZ.out.symm (bel_new _ _)
    · rw [decide_eq_false hx] at H1
      have hz := HC.out
      rw [if_neg (by simp), if_pos (by omega)] at hz
      have HZ := Lib.hid hz
      clear hz hx HC
      go_enter Tryz.func82, Tryz.ntmps82
      go_wp2_with ((first | (go_at_call 66; refine (HG.out _).mono ?_; rintro e w' ⟨rfl, rfl⟩) | (go_at_call 92; refine (H1.out _).mono ?_; clear H1; rintro e w' ⟨rfl, rfl⟩)))
      go_ret2
      exact HS.out _ _ _ HZ.out.symm (bel_new _ _)
set_option maxRecDepth 100000 in
set_option maxHeartbeats 1000000 in
theorem sCheck_any (s : Ser) (w : World) (hs : s.cls.size ≤ 1000000) :
    Calls Tryz.prog 69 #[serV s] w fun e w' => e = .returned (.int .i64 (serCode s)) ∧ Below w.heap.size w w' := by
  have HC := Lib.hid (fun w' => scheck_any s w' hs)
  clear hs
  obtain ⟨R, hR⟩ : ∃ R, serCode s = R := ⟨_, rfl⟩
  rw [hR]
  have HR := Lib.hid hR
  clear hR
  go_enter Tryz.func69, Tryz.ntmps69
  go_wp2_with (go_at_call 82; refine (HC.out _).mono ?_; rintro e w' ⟨⟨a, rfl⟩, hb⟩; replace hb := Lib.hid hb; rw [HR.out])
  go_ret
  exact ⟨rfl, (bel_new _ _).trans (hb.out.mono (by simp))⟩
end Go.Proofs.YtoilgeahfdbhlaaGreatDoor
