/- straddlelaw25.SessLate returns true. -/
import Derived.Test.YtpkkhmbcbcaelaaDoorSesKnown
set_option linter.unusedSimpArgs false
namespace Go.Proofs.YtpkkhmbcbcaelaaDoor
open Go.RowKit Go.Mem1 Go.SesMath

theorem mild1 : Mild 1 oneA := late1 ▸ mild_new.in_ 1 1 (by omega) (by omega)
theorem mild2 : Mild 2 twoB := late2 ▸ mild1.in_ 2 1 (by omega) (by omega)
theorem mild3 {a : Int} (h0 : 0 ≤ a) (h1 : a ≤ 1000) : Mild 3 (two a) := late3 a ▸ mild2.in_ 2 2 h0 (by omega)
set_option maxRecDepth 100000 in
set_option maxHeartbeats 2000000 in
theorem late_ok (X Y : Nat) (hX : X < 256) (hY : Y < 256) (w : World) (hg : ErrType w) :
    Calls Tryd.prog 5 #[.int .u8 (X : Int), .int .u8 (Y : Int)] w fun e w' => e = .returned (.bool true) ∧ Below w.heap.size w w' := by
  have HG := Lib.hid hg
  have hX0 : (0 : Int) ≤ (X : Int) := by omega
  have hX1 : (X : Int) < 256 := by omega
  have hY0 : (0 : Int) ≤ (Y : Int) := by omega
  have hY1 : (Y : Int) < 256 := by omega
  have e1 : inE newS 1 1 1 = 0 := by decide
  have e2 : inE oneA 2 1 1 = 0 := by decide
  have e3 : inE twoB 2 2 2 = 0 := by decide
  clear hg
  go_enter Tryd.func5, Tryd.ntmps5
  go_wp2_with (go_at_call 7; refine (sknown_ok _ HG.out).mono ?_; rintro _ w1 ⟨rfl, hb1⟩; replace hb1 := Lib.hid hb1)
  go_wp2_with (go_at_call 8; refine Hid.out ?_)
  refine Lib.hid ?_
  refine (sj_new (by omega) (by omega) hb1.out).mono ?_
  rintro _ w2 ⟨B, g, rfl, hJ2⟩
  have HI := Lib.hid (sj_in hJ2 mild_new (by decide) 1 1 1 50 (by decide) (by decide) e1)
  rw [late1] at HI
  clear hJ2 hb1
  unfold bareV at HI
  go_wp2_with (go_at_call 9; refine Hid.out ?_)
  refine Lib.hid ?_
  refine HI.out.mono ?_
  rintro _ w3 ⟨rfl, hJ3, _⟩
  have HI := Lib.hid (sj_in hJ3 mild1 (by decide) 2 1 1 50 (by decide) (by decide) e2)
  rw [late2] at HI
  clear hJ3
  unfold bareV at HI
  go_wp2_with (go_at_call 9; refine Hid.out ?_)
  refine Lib.hid ?_
  refine HI.out.mono ?_
  rintro _ w4 ⟨rfl, hJ4, _⟩
  have HI := Lib.hid (sj_in hJ4 mild2 (by decide) 2 2 2 (50 + (Y : Int)) (by omega) (by omega) e3)
  rw [late3] at HI
  clear hJ4
  unfold bareV at HI
  go_wp2_with (go_at_call 9; refine Hid.out ?_)
  refine Lib.hid ?_
  refine HI.out.mono ?_
  rintro _ w5 ⟨rfl, hJ5, _⟩
  by_cases hlt : 1 + (X : Int) ≤ (Y : Int)
  · have tl : decide (1 + (X : Int) ≤ (Y : Int)) = true := by simpa using hlt
    have HL := Lib.hid (sj_late hJ5 (mild3 (by omega) (by omega)) (by decide) (50 + (Y : Int)) (by omega) (by omega) (two_lateL (by omega) hlt))
    clear hJ5 HI
    go_wp2_with (go_at_call 14; refine Hid.out ?_)
    refine Lib.hid ?_
    refine HL.out.mono ?_
    rintro _ w6 ⟨v6, rfl, hR6, hJ6, _⟩
    obtain ⟨a6, c6, rfl, hr6, _⟩ := row_one hR6
    have HN := Lib.hid (sj_on hJ6 ((mild3 (by omega) (by omega)).late _ _) (by decide) 1 (x := false) (by rw [two_on1 (by omega)]; simpa using hlt))
    clear hR6 hJ6 HL
    go_wp2_with (go_at_call 15; refine Hid.out ?_)
    refine Lib.hid ?_
    refine HN.out.mono ?_
    rintro _ w7 ⟨rfl, hJ7, _⟩
    have HN := Lib.hid (sj_on hJ7 ((mild3 (by omega) (by omega)).late _ _) (by decide) 2 (two_on2 (by omega)))
    clear hJ7 hr6
    go_wp2_with (go_at_call 15; refine Hid.out ?_)
    refine Lib.hid ?_
    refine HN.out.mono ?_
    rintro _ w8 ⟨rfl, hJ8, _⟩
    have HB8 := Lib.hid hJ8.below
    clear hJ8 HN
    go_wp2_with fail
    go_ret
    exact ⟨rfl, HB8.out⟩
  · have tl : decide (1 + (X : Int) ≤ (Y : Int)) = false := by simpa using hlt
    have HL := Lib.hid (sj_late hJ5 (mild3 (by omega) (by omega)) (by decide) (50 + (Y : Int)) (by omega) (by omega) (two_notL (by omega) (by omega)))
    clear hJ5 HI
    go_wp2_with (go_at_call 14; refine Hid.out ?_)
    refine Lib.hid ?_
    refine HL.out.mono ?_
    rintro _ w6 ⟨v6, rfl, hR6, hJ6, _⟩
    obtain ⟨A6, c6, rfl⟩ := row_none hR6
    have HN := Lib.hid (sj_on hJ6 ((mild3 (by omega) (by omega)).late _ _) (by decide) 1 (x := true) (by rw [two_on1 (by omega)]; simpa using hlt))
    clear hR6 hJ6 HL
    go_wp2_with (go_at_call 15; refine Hid.out ?_)
    refine Lib.hid ?_
    refine HN.out.mono ?_
    rintro _ w7 ⟨rfl, hJ7, _⟩
    have HN := Lib.hid (sj_on hJ7 ((mild3 (by omega) (by omega)).late _ _) (by decide) 2 (two_on2 (by omega)))
    clear hJ7
    go_wp2_with (go_at_call 15; refine Hid.out ?_)
    refine Lib.hid ?_
    refine HN.out.mono ?_
    rintro _ w8 ⟨rfl, hJ8, _⟩
    have HB8 := Lib.hid hJ8.below
    clear hJ8 HN
    go_wp2_with fail
    go_ret
    exact ⟨rfl, HB8.out⟩
end Go.Proofs.YtpkkhmbcbcaelaaDoor
