/- What the laws of stage 25 ask first: known(). -/
import Derived.Test.YtpkkhmbcbcaelaaDoorSesJ
import Derived.Test.YtpkkhmbcbcaelaaDoorAtTell
import Derived.Deep.RegionHeld3
import Derived.BigQuiet
set_option linter.unusedSimpArgs false
namespace Go.Proofs.YtpkkhmbcbcaelaaDoor
open Go.RowKit Go.Mem1 Go.SesMath

def kD1 : Sk := inD newS 3 1 5
def kD2 : Sk := inD kD1 3 2 6
def kD3 : Sk := outD kD2 3
def kD4 : Sk := outD kD3 3
def kD5 : Sk := lateD kD4 10 16
theorem km1 : Mild 1 kD1 := mild_new.in_ 3 1 (by omega) (by omega)
theorem km2 : Mild 2 kD2 := km1.in_ 3 2 (by omega) (by omega)
theorem km3 : Mild 3 kD3 := km2.out_ 3
theorem km4 : Mild 4 kD4 := km3.out_ 3
theorem km5 : Mild 4 kD5 := km4.late 10 16
set_option maxRecDepth 100000 in
set_option maxHeartbeats 2000000 in
theorem sknown_ok (w : World) (hg : ErrType w) : Calls Tryd.prog 7 #[] w fun e w' => e = .returned (.bool true) ∧ Below w.heap.size w w' := by
  have HG := Lib.hid hg
  have e1 : inE newS 3 1 1 = 0 := by decide
  have e2 : inE kD1 3 2 1 = 13 := by decide
  have e3 : inE kD1 3 2 2 = 0 := by decide
  have x3 : (kD2 3).out + 1 = 1 := by decide
  have x4 : (kD3 3).out + 1 = 2 := by decide
  have l5 : lateL kD4 10 16 = [3] := by decide +kernel
  have o6 : onD kD5 3 = false := by decide
  have n6 : nextD kD5 3 = 3 := by decide
  have l6 : liveL kD5 = [] := by decide +kernel
  clear hg
  go_enter Tryd.func7, Tryd.ntmps7
  go_wp2_with (go_at_call 8; refine Hid.out ?_)
  refine Lib.hid ?_
  refine (sj_new (by decide) (by decide) (Below.refl _ _)).mono ?_
  rintro _ w1 ⟨B, g, rfl, hJ1⟩
  have HI := Lib.hid (sj_in hJ1 mild_new (by decide) 3 1 1 5 (by decide) (by decide) e1)
  clear hJ1
  unfold bareV at HI
  go_wp2_with (go_at_call 9; refine Hid.out ?_)
  refine Lib.hid ?_
  refine HI.out.mono ?_
  rintro _ w2 ⟨rfl, hJ2, _⟩
  have HB := Lib.hid (sj_bad hJ2 km1 (by decide) 3 2 1 6 e2 (by decide))
  clear hJ2 HI
  unfold bareV at HB
  go_wp2_with (go_at_call 9; refine Hid.out ?_)
  refine Lib.hid ?_
  refine HB.out.mono ?_
  rintro _ w3 ⟨b, rfl, _, hE3, hJ3, _⟩
  have HI := Lib.hid (sj_in hJ3 km1 (by decide) 3 2 2 6 (by decide) (by decide) e3)
  have HE3 := Lib.hid hE3
  clear hJ3 HB hE3
  unfold bareV at HI
  unfold errV
  go_wp2_with (go_at_call 9; refine Hid.out ?_)
  refine Lib.hid ?_
  refine HI.out.mono ?_
  rintro _ w4 ⟨rfl, hJ4, hc4⟩
  have hE4 : SdErr w4 3 13 b := Box.kept HE3.out hc4 (fun h => h (.inr rfl))
  have HO := Lib.hid (sj_out hJ4 km2 (by decide) (by decide) x3)
  have HE4 := Lib.hid hE4
  clear hJ4 hc4 hE4 HI HE3
  go_wp2_with (go_at_call 12; refine Hid.out ?_)
  refine Lib.hid ?_
  refine HO.out.mono ?_
  rintro _ w5 ⟨rfl, hJ5, hc5⟩
  have hE5 : SdErr w5 3 13 b := Box.kept HE4.out hc5 (fun h => h (.inr rfl))
  have HO := Lib.hid (sj_out hJ5 km3 (by decide) (by decide) x4)
  have HE5 := Lib.hid hE5
  clear hJ5 hc5 hE5 HE4
  go_wp2_with (go_at_call 12; refine Hid.out ?_)
  refine Lib.hid ?_
  refine HO.out.mono ?_
  rintro _ w6 ⟨rfl, hJ6, hc6⟩
  have hE6 : SdErr w6 3 13 b := Box.kept HE5.out hc6 (fun h => h (.inr rfl))
  have HL := Lib.hid (sj_late hJ6 km4 (by decide) 16 (by decide) (by decide) l5)
  have HE6 := Lib.hid hE6
  clear hJ6 hc6 hE6 HE5 HO
  go_wp2_with (go_at_call 14; refine Hid.out ?_)
  refine Lib.hid ?_
  refine HL.out.mono ?_
  rintro _ w7 ⟨v7, rfl, hR7, hJ7, hc7⟩
  obtain ⟨a7, c7, rfl, hr7, hlt7⟩ := row_one hR7
  have hE7 : SdErr w7 3 13 b := Box.kept HE6.out hc7 (fun h => h (.inr rfl))
  have HE7 := Lib.hid hE7
  have HJ7 := Lib.hid hJ7
  have HR7 := Lib.hid hr7
  have HT7 := Lib.hid hlt7
  clear hR7 hJ7 hc7 hE7 HE6 HL hr7 hlt7
  go_wp2_with (go_at_call 8; refine Hid.out ?_)
  refine Lib.hid ?_
  refine (sd_new_bad (by decide) w7).mono ?_
  rintro _ w8 ⟨rfl, hb8⟩
  have HB8 := Lib.hid hb8
  have HJ8 := Lib.hid (HJ7.out.carry hb8)
  have HE8 : Hid (SdErr w8 3 13 b) := HE7.out.kept_below hb8 HE7.out.there
  have HR8 : Hid (w8.cell? ⟨a7, 0, none⟩ = some (.int .i64 3)) := (hb8.cell (p := ⟨a7, 0, none⟩) HT7.out).trans HR7.out
  have HT8 : Hid (a7 < w8.heap.size) := Nat.lt_of_lt_of_le HT7.out hb8.size
  clear hb8 HB8 HJ7 HE7 HR7 HT7
  go_wp2_with (go_at_call 10; refine Hid.out ?_)
  refine Lib.hid ?_
  refine (fAt_any sessB ((3 : Nat) : Int) ((13 : Nat) : Int) w8).mono ?_
  rintro _ w9 ⟨A9, n9, c9, rfl, hP9, hb9⟩
  have HJ9 := Lib.hid (HJ8.out.carry hb9)
  have hg9 : ErrType w9 := (HJ9.out.below.cell (p := ⟨0, 0, none⟩) HG.out.lt).trans HG.out
  have hE9 : SdErr w9 3 13 b := HE8.out.kept_below hb9 HE8.out.there
  have HT := Lib.hid (tells_one sessB 3 13 A9 n9 c9 b w9 hg9 hE9.is hP9 (by decide) (by omega) (by omega) (by omega))
  have HR9 : Hid (w9.cell? ⟨a7, 0, none⟩ = some (.int .i64 3)) := (hb9.cell (p := ⟨a7, 0, none⟩) HT8.out).trans HR8.out
  have HT9 : Hid (a7 < w9.heap.size) := Nat.lt_of_lt_of_le HT8.out hb9.size
  clear hP9 hb9 HJ8 HE8 HR8 HT8 hg9 hE9
  go_wp2_with (go_at_call 11; refine Hid.out ?_)
  refine Lib.hid ?_
  refine HT.out.mono ?_
  rintro _ w10 ⟨rfl, hb10⟩
  have HN := Lib.hid (sj_on (HJ9.out.carry hb10) km5 (by decide) 3 o6)
  have c10 : w10.cell? ⟨a7, 0, none⟩ = some (.int .i64 3) := (hb10.cell (p := ⟨a7, 0, none⟩) HT9.out).trans HR9.out
  clear hb10 HT HJ9 HR9 HT9
  go_wp2_with (go_at_call 15; refine Hid.out ?_)
  refine Lib.hid ?_
  refine HN.out.mono ?_
  rintro _ w11 ⟨rfl, hJ11, _⟩
  have HX := Lib.hid (sj_next hJ11 km5 (by decide) 3 n6)
  clear hJ11 HN c10
  go_wp2_with (go_at_call 16; refine Hid.out ?_)
  refine Lib.hid ?_
  refine HX.out.mono ?_
  rintro _ w12 ⟨rfl, hJ12, _⟩
  have HV := Lib.hid (sj_live hJ12 km5 (by decide) l6)
  clear hJ12 HX
  go_wp2_with (go_at_call 17; refine Hid.out ?_)
  refine Lib.hid ?_
  refine HV.out.mono ?_
  rintro _ w13 ⟨v13, rfl, hR13, hJ13, _⟩
  obtain ⟨A13, c13, rfl⟩ := row_none hR13
  have HB13 := Lib.hid hJ13.below
  clear hJ13 HV hR13
  go_wp2_with fail
  go_ret
  exact ⟨rfl, HB13.out⟩
end Go.Proofs.YtpkkhmbcbcaelaaDoor
