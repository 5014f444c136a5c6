/- straddlelaw25.SessTurns returns true. -/
import Derived.Test.YtpkkhmbcbcaelaaDoorSesKnown
set_option linter.unusedSimpArgs false
namespace Go.Proofs.YtpkkhmbcbcaelaaDoor
open Go.RowKit Go.Mem1 Go.SesMath

/-- At the head of a round. -/
def TurnJ (w0 : World) (B g i : Nat) (w : World) : Prop := SdJ w0 B g 100 (turnD (i : Int)) (fun _ => False) w
theorem turn_step {w0 : World} {B g i : Nat} {w : World} (h : TurnJ w0 B g i w) (h0 : 1 ≤ i) (h1 : i ≤ 100) :
    Calls Tryd.prog 9 #[.pointer (some ⟨g, 0, none⟩), .int .i64 7, bareV 2 (i : Int), .int .i64 0] w fun e w' => e = .returned .nilIface ∧ TurnJ w0 B g (i + 1) w' := by
  refine (sj_in h (turn_mild (by omega) (by omega)) (by decide) 7 2 (i : Int) 0 (by decide) (by decide) (turn_ok _)).mono ?_
  rintro e w' ⟨a, b, _⟩
  rw [turn_next] at b
  exact ⟨a, b⟩
theorem turn_wrong {w0 : World} {B g i : Nat} {w : World} (h : TurnJ w0 B g i w) (h0 : 1 ≤ i) (h1 : i ≤ 100) {o : Int} (ho : o ≠ (i : Int)) :
    Calls Tryd.prog 9 #[.pointer (some ⟨g, 0, none⟩), .int .i64 7, bareV 2 o, .int .i64 0] w fun e w' => ∃ b, e = .returned (.iface 73 (.pointer (some ⟨b, 0, none⟩))) ∧ TurnJ w0 B g i w' := by
  refine (sj_bad h (turn_mild (by omega) (by omega)) (by decide) 7 2 o 0 (turn_bad ho) (by decide)).mono ?_
  rintro e w' ⟨b, a, _, _, c, _⟩
  exact ⟨b, a, c.less (fun _ h => h.elim)⟩
theorem turn_next7 {w0 : World} {B g i : Nat} {w : World} (h : TurnJ w0 B g i w) (h0 : 1 ≤ i) (h1 : i ≤ 100) :
    Calls Tryd.prog 16 #[.pointer (some ⟨g, 0, none⟩), .int .i64 7] w fun e w' => e = .returned (.int .i64 (i : Int)) ∧ TurnJ w0 B g i w' :=
  (sj_next h (turn_mild (by omega) (by omega)) (by decide) 7 (turn_nx _)).mono fun _ _ ⟨a, b, _⟩ => ⟨a, b⟩
theorem turn_on7 {w0 : World} {B g i : Nat} {w : World} (h : TurnJ w0 B g i w) (h0 : 1 ≤ i) (h1 : i ≤ 100) :
    Calls Tryd.prog 15 #[.pointer (some ⟨g, 0, none⟩), .int .i64 7] w fun e w' => e = .returned (.bool true) ∧ TurnJ w0 B g i w' :=
  (sj_on h (turn_mild (by omega) (by omega)) (by decide) 7 (turn_on _)).mono fun _ _ ⟨a, b, _⟩ => ⟨a, b⟩
set_option maxRecDepth 100000 in
set_option maxHeartbeats 2000000 in
theorem turns_ok (X : Nat) (hX : X < 256) (o : Int) (w : World) (hg : ErrType w) :
    Calls Tryd.prog 4 #[.int .u8 (X : Int), .int .i64 o] w fun e w' => e = .returned (.bool true) ∧ Below w.heap.size w w' := by
  have HG := Lib.hid hg
  have hX0 : (0 : Int) ≤ (X : Int) := by omega
  have hX1 : (X : Int) < 256 := by omega
  obtain ⟨N, hN⟩ : ∃ N : Nat, (2 : Int) + (X : Int) % 40 = (N : Int) := ⟨2 + X % 40, by omega⟩
  have hN1 : 2 ≤ N := by omega
  have hN2 : N ≤ 41 := by omega
  have e0 : inE newS 7 1 1 = 0 := by decide
  clear hg
  go_enter Tryd.func4, Tryd.ntmps4
  go_wp2_with (go_at_call 7; refine (sknown_ok _ HG.out).mono ?_; rintro _ w1 ⟨rfl, hb1⟩; replace hb1 := Lib.hid hb1)
  go_wp2_with (go_at_call 8; refine Hid.out ?_)
  refine Lib.hid ?_
  refine (sj_new (by decide) (by decide) hb1.out).mono ?_
  rintro _ w2 ⟨B, g, rfl, hJ2⟩
  have HI := Lib.hid (sj_in hJ2 mild_new (by decide) 7 1 1 0 (by decide) (by decide) e0)
  rw [turn_first] at HI
  clear hJ2 hb1
  unfold bareV at HI
  go_wp2_with (go_at_call 9; refine Hid.out ?_)
  refine Lib.hid ?_
  refine HI.out.mono ?_
  rintro _ w3 ⟨rfl, hJ3, _⟩
  have HJ3 : Hid (TurnJ w B g 2 w3) := hJ3
  clear hJ3 HI
  go_wp2_with fail
  go_loopw [7] (fun v7 wr => ∃ k : Nat, 2 ≤ k ∧ k ≤ N ∧ v7 = .int .i64 k ∧ Hid (TurnJ w B g k wr)) (fun v7 _ => N - (intOf v7).toNat)
  case atStart => exact ⟨2, by omega, by omega, rfl, HJ3⟩
  case round =>
    obtain ⟨k, hk0, hk, rfl, hJ⟩ := hrel
    clear HJ3
    by_cases hlt : k < N
    · have tl : decide ((k : Int) < (N : Int)) = true := by simp; omega
      by_cases ho : o = (k : Int)
      · subst ho
        have HX := Lib.hid (turn_next7 hJ.out (by omega) (by omega))
        clear hJ
        go_wp2_with (go_at_call 16; refine Hid.out ?_)
        refine Lib.hid ?_
        refine HX.out.mono ?_
        rintro _ w5 ⟨rfl, hJ5⟩
        have HI := Lib.hid (turn_step hJ5 (by omega) (by omega))
        clear hJ5 HX
        unfold bareV at HI
        go_wp2_with (go_at_call 9; refine Hid.out ?_)
        refine Lib.hid ?_
        refine HI.out.mono ?_
        rintro _ w6 ⟨rfl, hJ6⟩
        have HJ6 := Lib.hid hJ6
        clear hJ6 HI
        go_wp2_with fail
        go_roundw
        case rel => exact ⟨k + 1, by omega, by omega, by go_num, HJ6⟩
        case measure => simp [intOf]; omega
      · have to : (o != (k : Int)) = true := by simpa using ho
        have HB := Lib.hid (turn_wrong hJ.out (by omega) (by omega) ho)
        clear hJ
        unfold bareV at HB
        go_wp2_with (go_at_call 9; refine Hid.out ?_)
        refine Lib.hid ?_
        refine HB.out.mono ?_
        rintro _ w4 ⟨b, rfl, hJ4⟩
        have HX := Lib.hid (turn_next7 hJ4 (by omega) (by omega))
        clear hJ4 HB
        go_wp2_with (go_at_call 16; refine Hid.out ?_)
        refine Lib.hid ?_
        refine HX.out.mono ?_
        rintro _ w5 ⟨rfl, hJ5⟩
        have HI := Lib.hid (turn_step hJ5 (by omega) (by omega))
        clear hJ5 HX
        unfold bareV at HI
        go_wp2_with (go_at_call 9; refine Hid.out ?_)
        refine Lib.hid ?_
        refine HI.out.mono ?_
        rintro _ w6 ⟨rfl, hJ6⟩
        have HJ6 := Lib.hid hJ6
        clear hJ6 HI
        go_wp2_with fail
        go_roundw
        case rel => exact ⟨k + 1, by omega, by omega, by go_num, HJ6⟩
        case measure => simp [intOf]; omega
    · obtain rfl : k = N := by omega
      have tl : decide ((k : Int) < (k : Int)) = false := by simp
      have HN := Lib.hid (turn_on7 hJ.out (by omega) (by omega))
      clear hJ
      go_wp2_with (go_at_call 15; refine Hid.out ?_)
      refine Lib.hid ?_
      refine HN.out.mono ?_
      rintro _ w4 ⟨rfl, hJ4⟩
      have HX := Lib.hid (turn_next7 hJ4 (by omega) (by omega))
      clear hJ4 HN
      go_wp2_with (go_at_call 16; refine Hid.out ?_)
      refine Lib.hid ?_
      refine HX.out.mono ?_
      rintro _ w5 ⟨rfl, hJ5⟩
      have HB5 := Lib.hid (SdJ.below hJ5)
      clear hJ5 HX
      go_wp2_with fail
      go_ret
      exact ⟨rfl, HB5.out⟩
end Go.Proofs.YtpkkhmbcbcaelaaDoor
