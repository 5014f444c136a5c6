/- The known numbers of straddlelaw3 hold. -/
import Derived.Test.YtdgnkpbokoomkaaCodEnc
import Derived.Test.YtdgnkpbokoomkaaCodErr
namespace Go.Proofs.Ytdgnkpbokoomkaa
open Go.RowKit Go.Mem1 Go.CodMath

theorem ien_150 : ien 150 = [172, 2] := by
  unfold ien
  rw [show zz 150 = 300 from rfl, vint_big (by omega), vint_small (by omega)]
theorem ien_m1 : ien (-1) = [1] := by
  unfold ien
  rw [show zz (-1) = 1 from rfl, vint_small (by omega)]
theorem ien_2 : ien 2 = [4] := by
  unfold ien
  rw [show zz 2 = 4 from rfl, vint_small (by omega)]
theorem ren_ab : ren [97, 98] = [4, 97, 98] := by
  unfold ren
  rw [show (([97, 98] : List Nat).length : Int) = 2 from rfl, ien_2]
  rfl

theorem EncAt.aside {w w' : World} {B g gd : Nat} {R : Option Nat} {l : List Nat} (h : EncAt w B g R l) (hc : Chg (· = gd) w w') (hg : g < gd) (hR : ∀ k, R = some k → k < gd) : EncAt w' B g R l :=
  h.kept hc (fun e => by omega) (fun k hk e => by have := hR k hk; omega)
theorem bel_dec {a b c : World} {gd : Nat} (h : Below a.heap.size a b) (k : Chg (· = gd) b c) (hg : a.heap.size < gd) : Below a.heap.size a c :=
  Chg.toBelow h k h.size (fun i hi e => by omega)
/-- What stands at the fourth step of known. -/
theorem known_num1 : num [172, 2, 1, 4, 97, 98] = (300, 2, 0) := rfl
theorem known_num2 : num [1, 4, 97, 98] = (1, 1, 0) := rfl
theorem known_num3 : num [4, 97, 98] = (4, 1, 0) := rfl
theorem known_int1 : intVal [172, 2, 1, 4, 97, 98] = 150 := rfl
theorem known_st1 : intSt ⟨[172, 2, 1, 4, 97, 98], 0, 0⟩ = ⟨[1, 4, 97, 98], 2, 0⟩ := rfl
theorem known_int2 : intVal [1, 4, 97, 98] = -1 := rfl
theorem known_st2 : intSt ⟨[1, 4, 97, 98], 2, 0⟩ = ⟨[4, 97, 98], 3, 0⟩ := rfl
theorem known_ok3 : rawOk [4, 97, 98] := by decide
theorem known_raw3 : rawVal [4, 97, 98] = [97, 98] := by
  unfold rawVal; rw [if_pos known_ok3]; rfl
theorem known_st3 : rawSt ⟨[4, 97, 98], 3, 0⟩ = ⟨[], 6, 0⟩ := by
  unfold rawSt; rw [if_pos known_ok3]; rfl

set_option maxRecDepth 100000 in
set_option maxHeartbeats 2000000 in
theorem known_ok (w : World) :
    Calls Try.prog 6 #[] w fun e w' => e = .returned (.bool true) ∧ Below w.heap.size w w' := by
  have kc := conv_const
  go_enter Try.func6, Try.ntmps6
  go_wp2_with fail
  have hE0 := (EncAt.new w rfl).alloc (.cells #[.int .i64 150, .int .i64 (-1)] 2)
  refine (encInt_any w.heap.size (w.heap.size + 1) w.heap.size none [] [150, -1] _ hE0 (by simp; omega) (Box.fresh _ _ _ (by simp)) (by decide) (by simp)).mono ?_
  rintro e w1 ⟨rfl, hgo⟩
  obtain ⟨B1, R1, hE1, _, _⟩ := hgo.next hE0 (by simp; omega)
  have B01 : Below w.heap.size w w1 := (bel_alloc (bel_new w _) _).trans B1
  have e1 : [] ++ ([150, -1] : List Int).flatMap ien = [172, 2, 1] := by simp [ien_150, ien_m1]
  rw [e1] at hE1
  clear hE0 hgo B1 e1
  have HE1 := Lib.hid hE1; clear hE1
  go_wp2_with fail
  have hE1 := HE1.out.alloc (.cells #[.int .u8 97, .int .u8 98] 5 (2, 3))
  refine (encRaw_any w.heap.size w.heap.size R1 [172, 2, 1] [97, 98] _ 2 2 _ hE1 (by simp; have := B01.size; omega) (by intro h; cases h) (Byt.made w1 _ (2, 3) 2 [97, 98] rfl rfl (by decide) rfl) (by
    intro b o hbo _ hs
    injection hbo with hbo; injection hbo with hbo
    subst hbo
    rcases hs with h | h
    · have := HE1.out.there; omega
    · have := (HE1.out.row _ h.symm).2; omega) (by simp)).mono ?_
  rintro e w2 ⟨rfl, hgo⟩
  obtain ⟨B12, R2, hE2, _, _⟩ := hgo.next hE1 (by simp; have := B01.size; omega)
  have B02 : Below w.heap.size w w2 := (bel_alloc B01 _).trans B12
  rw [ren_ab, show ([172, 2, 1] : List Nat) ++ [4, 97, 98] = [172, 2, 1, 4, 97, 98] from rfl] at hE2
  clear hE1 hgo B12 B01 HE1
  have hz2 := B02.size
  have HE2 := Lib.hid hE2; clear hE2
  go_wp2_with fail
  refine (encBytes_any _ _ _ _ w2 HE2.out (by simp)).mono ?_
  rintro e w3 ⟨B23, A3, c3, rfl, hn3, hc3, ho3⟩
  have HE3 := Lib.hid (HE2.out.below B23)
  have hy3 : Byt w3 w3.heap.size A3 6 [172, 2, 1, 4, 97, 98] := Byt.ofOwn ho3 HE2.out.bnd
  have B03 : Below w.heap.size w w3 := bel_trans B02 B23
  clear ho3 B02 B23 hz2
  have HY3 := Lib.hid hy3; clear hy3
  have HC3 := Lib.hid hc3; clear hc3
  go_wp2_with fail
  refine (of_any A3 6 c3 _ w3 (by omega) HC3.out HY3.out).mono ?_
  rintro e w4 ⟨gd, rfl, hd4, B34⟩
  have hgd := hd4.there
  have HE4 := Lib.hid (HE3.out.below B34)
  have hlg : w.heap.size < gd := by have := HE3.out.there; omega
  have hlR : ∀ k, R2 = some k → k < gd := fun k hk => by have := (HE3.out.row k hk).2; omega
  have B04 : Below w.heap.size w w4 := bel_trans B03 B34
  have HD4 := Lib.hid hd4; clear hd4
  have HR := Lib.hid hlR; clear hlR
  clear B03 B34 HY3 HC3 HE2
  go_wp2_with fail
  refine (decInt_any gd _ _ w4 HD4.out).mono ?_
  rintro e w5 ⟨rfl, hd5, hc5⟩
  rw [known_int1]
  rw [known_st1] at hd5
  have HE5 := Lib.hid (HE4.out.aside hc5 hlg HR.out)
  have B05 : Below w.heap.size w w5 := bel_dec B04 hc5 hlg
  have HD5 := Lib.hid hd5; clear hd5 hc5
  go_wp2_with fail
  refine (decInt_any gd _ _ w5 HD5.out).mono ?_
  rintro e w6 ⟨rfl, hd6, hc6⟩
  rw [known_int2]
  rw [known_st2] at hd6
  have HE6 := Lib.hid (HE5.out.aside hc6 hlg HR.out)
  have B06 : Below w.heap.size w w6 := bel_dec B05 hc6 hlg
  have HD6 := Lib.hid hd6; clear hd6 hc6
  go_wp2_with fail
  refine (decRaw_any gd _ _ w6 HD6.out).mono ?_
  rintro e w7 ⟨A7, n7, c7, rfl, hy7, hd7, hc7⟩
  rw [known_raw3] at hy7
  rw [known_st3] at hd7
  obtain rfl : n7 = 2 := hy7.len.symm
  have HE7 := Lib.hid (HE6.out.aside hc7 hlg HR.out)
  have B07 : Below w.heap.size w w7 := bel_dec B06 hc7 hlg
  have HD7 := Lib.hid hd7; clear hd7 hc7
  have HY7 := Lib.hid hy7; clear hy7
  clear HE3 HE4 HE5 HE6 HD4 HD5 HD6 B04 B05 B06
  go_wp2_with fail
  refine (encBytes_any _ _ _ _ w7 HE7.out (by simp)).mono ?_
  rintro e w8 ⟨B78, A8, c8, rfl, _, _, ho8⟩
  have hy8 : Byt w8 w8.heap.size A8 6 [172, 2, 1, 4, 97, 98] := Byt.ofOwn ho8 HE7.out.bnd
  have k8 := conv_str hy8 c8
  have k7 := conv_str ((HY7.out.carry B78).wider B78.size) c7
  rw [show strOf [172, 2, 1, 4, 97, 98] = ⟨#[172, 2, 1, 4, 97, 98]⟩ from rfl] at k8
  rw [show strOf [97, 98] = ⟨#[97, 98]⟩ from rfl] at k7
  have HD8 := Lib.hid (HD7.out.below B78)
  have B08 : Below w.heap.size w w8 := bel_trans B07 B78
  clear ho8 hy8 B78 B07 HY7 HD7 HE7
  go_wp2_with (first
    | (go_at_call 15; refine (decLeft_any _ _ _ w8 HD8.out).mono ?_; rintro e w9 ⟨rfl, rfl⟩)
    | (go_at_call 16; refine (decErr_nil _ _ _ w8 HD8.out rfl).mono ?_; rintro e w9 ⟨rfl, rfl⟩))
  go_ret
  exact ⟨rfl, B08⟩
end Go.Proofs.Ytdgnkpbokoomkaa
