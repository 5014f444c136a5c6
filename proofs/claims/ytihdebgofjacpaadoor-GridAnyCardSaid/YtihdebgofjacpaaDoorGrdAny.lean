/- straddlelaw6.GridAny returns true. -/
import Derived.Test.YtihdebgofjacpaaDoorGrdKnown
import Derived.Test.YtihdebgofjacpaaDoorGrdOf
import Derived.Test.YtihdebgofjacpaaDoorGrdRefChk
import Derived.Test.YtihdebgofjacpaaDoorGrdRefCnt
import Derived.Test.YtihdebgofjacpaaDoorTellsAll
set_option linter.unusedSimpArgs false
namespace Go.Proofs.YtihdebgofjacpaaDoor
open Go.RowKit Go.Mem1 Go.GridMath

/-- Tells of a table's own error. -/
theorem tells_step (k x : Nat) (A : Option Addr) (n c : Nat) (v : Value) (w : World) (hg : ErrType w) (hE : StepErr w w.heap.size (k : Int) (x : Int) v) (h : Part1 w (k : Int) A n) (hk : k < 100) (hx : x ≤ 14) (hx0 : x ≠ 0) :
    Calls Tryd.prog 7 #[v, .agg #[.slice A n c, .int .i64 (x : Int)]] w fun r w' => r = .returned (.bool true) ∧ Below w.heap.size w w' := by
  obtain ⟨b, rfl, hb, e0, e1, e2⟩ := hE
  obtain ⟨rfl, b', rfl, hb', f0, f1⟩ := h
  refine tells_all numSmall stepBytes (k : Int) [] _ 1 c x b w hg ⟨b, _, rfl, hb, e0, e1, e2, rfl⟩ ⟨rfl, fun i y hy => ?_⟩ trivial (fun y hy => ?_) (by simp) hx hx0
  · match i, hy with
    | 0, hy =>
      injection hy with hy
      subst hy
      exact ⟨b', 0, rfl, hb', by simpa using f0, by simpa using f1⟩
  · simp at hy
    subst hy
    exact ⟨(show stepBytes.size ≤ 100 by decide), by dsimp only; omega, by dsimp only; omega⟩
theorem StepErr.carry {w w' : World} {k x : Int} {v : Value} (h : StepErr w w.heap.size k x v) (hb : Below w.heap.size w w') : StepErr w' w'.heap.size k x v := by
  obtain ⟨b, h1, h2, h3, h4, h5⟩ := h
  exact ⟨b, h1, Nat.lt_of_lt_of_le h2 hb.size, (hb.cell (p := ⟨b, 0, none⟩) h2).trans h3, (hb.cell (p := ⟨b, 1, none⟩) h2).trans h4, (hb.cell (p := ⟨b, 2, none⟩) h2).trans h5⟩
theorem ErrType.on {w w' : World} (h : ErrType w) (hb : Below w.heap.size w w') : ErrType w' := (hb.cell (p := ⟨0, 0, none⟩) h.lt).trans h
set_option maxRecDepth 100000 in
set_option maxHeartbeats 2000000 in
theorem any_long (A : Option Addr) (n c : Nat) (p q : Int) (w : World) (hn : 30 < n) :
    Calls Tryd.prog 3 #[.slice A n c, .int .i64 p, .int .i64 q] w fun e w' => e = .returned (.bool true) ∧ Below w.heap.size w w' := by
  have HK := Lib.hid (fun w' => gknown_ok w')
  have t8 : decide ((30 : Int) < (n : Int)) = true := by simp; omega
  go_enter Tryd.func3, Tryd.ntmps3
  go_wp2_with (go_at_call 4; refine (HK.out _).mono ?_; rintro e w1 ⟨rfl, B1⟩; replace B1 := Lib.hid B1)
  go_ret
  exact ⟨rfl, B1.out⟩
set_option maxRecDepth 100000 in
set_option maxHeartbeats 2000000 in
theorem any_bad (A : Option Addr) (n c : Nat) (l : List Stp) (p q : Int) (w : World) (hg : ErrType w) (h : TabAt w w.heap.size A n l) (hn : n ≤ 30) (k x : Nat) (hc : chk l = some (k, (x : Int))) :
    Calls Tryd.prog 3 #[.slice A n c, .int .i64 p, .int .i64 q] w fun e w' => e = .returned (.bool true) ∧ Below w.heap.size w w' := by
  have HK := Lib.hid (fun w' => gknown_ok w')
  have t8 : decide ((30 : Int) < (n : Int)) = false := by simp; omega
  have hcb := chk_bound hc
  have hx' : ((x : Int) != 0) = true := by simp; omega
  have HC := Lib.hid hc
  have HG := Lib.hid hg
  have H := Lib.hid h
  have HCB := Lib.hid hcb
  clear hc hg h hcb
  go_enter Tryd.func3, Tryd.ntmps3
  go_wp2_with ((first
    | (go_at_call 4; refine (HK.out _).mono ?_; rintro e w1 ⟨rfl, B1⟩; replace B1 := Lib.hid B1)
    | (go_at_call 5; refine (of_any A n c l w1 ((H.out.carry B1.out).wider B1.out.size) (by omega)).mono ?_; rintro e w2 ⟨A1, c1, rfl, T2, B2⟩; replace B2 := Lib.hid (bel_trans B1.out B2); replace T2 := Lib.hid T2)
    | (go_at_call 6; refine (rchk_any A1 n c1 l w2 T2.out).mono ?_; intro e w3 hch; unfold RChk at hch; rw [HC.out] at hch; obtain ⟨hb3, A3, n3, c3, rfl, hP⟩ := hch; have B3 := Lib.hid (bel_trans B2.out hb3); replace hP := Lib.hid hP; clear hb3)))
  obtain ⟨W, hW⟩ : ∃ W, w3.alloc (.cells #[.slice A3 n3 c3, .int .i64 (x : Int)] 29) = W := ⟨_, rfl⟩
  rw [hW]
  have BW : Below w3.heap.size w3 W := by rw [← hW]; exact bel_new _ _
  have hbx : Box W w3.heap.size 29 #[.slice A3 n3 c3, .int .i64 (x : Int)] := by rw [← hW]; exact Box.fresh _ _ _ rfl
  clear hW
  have BwW := Lib.hid (bel_trans B3.out BW)
  have HP := Lib.hid (hP.out.carry BW)
  have hTW : TabAt W W.heap.size A n l := (H.out.carry BwW.out).wider BwW.out.size
  have HCk := Lib.hid ((check_any A n c l W.drew hTW.drew (by omega)).mono (R' := fun e w' => ∃ v, e = .returned v ∧ Hid (StepErr w' w'.heap.size (k : Int) (x : Int) v ∧ Below W.heap.size W w')) (fun e w' hch => by
    unfold ChkPost at hch; rw [HC.out] at hch
    obtain ⟨hb, v, he, hv⟩ := hch
    exact ⟨v, he, hv, ((Below.refl _ _).drew).trans hb⟩))
  have HTl := Lib.hid (fun v w' (hE : StepErr w' w'.heap.size (k : Int) (x : Int) v) (hb : Below W.heap.size W w') => (tells_step k x A3 n3 c3 v w' (HG.out.on (bel_trans BwW.out hb)) hE (HP.out.carry hb) (by have := HCB.out.1; omega) (by have := HCB.out.2; omega) (by have := HCB.out.2; omega)).mono (R' := fun r w2 => r = .returned (.bool true) ∧ Below W.heap.size W w2) (fun r w2 ⟨hr, h2⟩ => ⟨hr, bel_trans hb h2⟩))
  have hbl := hbx.there
  have KS := Lib.hid (fun w' (hb : Below W.heap.size W w') => (⟨((hbx.kept_below hb hbl).reads 0).trans rfl, ((hbx.kept_below hb hbl).reads 1).trans rfl⟩ : w'.cell? ⟨w3.heap.size, 0, none⟩ = some (.slice A3 n3 c3) ∧ w'.cell? ⟨w3.heap.size, 1, none⟩ = some (.int .i64 (x : Int))))
  have hS0 := KS.out W (Below.refl _ _)
  have B70 : Below W.heap.size W W.drew := (Below.refl _ _).drew
  clear hbx hTW BW hbl HK T2 hP
  go_wp2_with fail
  go_region_held3 (fun w' => w'.cell? ⟨w3.heap.size, 0, none⟩ = some (.slice A3 n3 c3) ∧ w'.cell? ⟨w3.heap.size, 1, none⟩ = some (.int .i64 (x : Int)))
    (first | exact hS0 | exact KS.out _ B70 | exact KS.out _ BA.out.2 | exact KS.out _ BB)
    ((first | (go_at_call 8; refine HCk.out.mono ?_; rintro e wA ⟨vA, rfl, BA⟩)
            | (go_at_call 7; refine (HTl.out _ _ BA.out.1 BA.out.2).mono ?_; rintro e wB ⟨rfl, BB⟩)))
  all_goals
    have Bfin := Lib.hid (bel_trans BwW.out BB)
    obtain ⟨s0, s1⟩ := KS.out _ BB
    clear hS0 KS B70 BA BB
    go_wp2_with fail
    go_ret
    exact ⟨rfl, Bfin.out⟩
set_option maxRecDepth 100000 in
set_option maxHeartbeats 4000000 in
theorem any_good (A : Option Addr) (n c : Nat) (l : List Stp) (p q : Int) (w : World) (h : TabAt w w.heap.size A n l) (hn : n ≤ 30) (hc : chk l = none) (hq : q ≤ 9223372036854775807) :
    Calls Tryd.prog 3 #[.slice A n c, .int .i64 p, .int .i64 q] w fun e w' => e = .returned (.bool true) ∧ Below w.heap.size w w' := by
  have HK := Lib.hid (fun w' => gknown_ok w')
  have t8 : decide ((30 : Int) < (n : Int)) = false := by simp; omega
  have HC := Lib.hid hc
  have H := Lib.hid h
  have HQ := Lib.hid hq
  clear hc h hq
  go_enter Tryd.func3, Tryd.ntmps3
  go_wp2_with ((first
    | (go_at_call 4; refine (HK.out _).mono ?_; rintro e w1 ⟨rfl, B1⟩; replace B1 := Lib.hid B1)
    | (go_at_call 5; refine (of_any A n c l w1 ((H.out.carry B1.out).wider B1.out.size) (by omega)).mono ?_; rintro e w2 ⟨A1, c1, rfl, T2, B2⟩; replace B2 := Lib.hid (bel_trans B1.out B2); replace T2 := Lib.hid T2)
    | (go_at_call 6; refine (rchk_any A1 n c1 l w2 T2.out).mono ?_; intro e w3 hch; unfold RChk at hch; rw [HC.out] at hch; obtain ⟨hb3, rfl⟩ := hch; have B3 := Lib.hid (bel_trans B2.out hb3); have T3 := Lib.hid ((T2.out.carry hb3).wider hb3.size); clear hb3)))
  obtain ⟨W, hW⟩ : ∃ W, w3.alloc (.cells #[.slice none 0 0, .int .i64 0] 29) = W := ⟨_, rfl⟩
  rw [hW]
  have BW : Below w3.heap.size w3 W := by rw [← hW]; exact bel_new _ _
  have hbx : Box W w3.heap.size 29 #[.slice none 0 0, .int .i64 0] := by rw [← hW]; exact Box.fresh _ _ _ rfl
  clear hW
  have BwW := Lib.hid (bel_trans B3.out BW)
  have hTW : TabAt W W.heap.size A n l := (H.out.carry BwW.out).wider BwW.out.size
  have hTR : TabAt W W.heap.size A1 n l := (T3.out.carry BW).wider BW.size
  have hc := HC.out
  obtain ⟨U, hU⟩ : ∃ U, upT l p = U := ⟨_, rfl⟩
  obtain ⟨D, hD⟩ : ∃ D, downT l p = D := ⟨_, rfl⟩
  obtain ⟨O, hO⟩ : ∃ O, onT l p = O := ⟨_, rfl⟩
  obtain ⟨N, hN⟩ : ∃ N, nearT l p = N := ⟨_, rfl⟩
  obtain ⟨C, hCt⟩ : ∃ C, countT l p q = C := ⟨_, rfl⟩
  obtain ⟨u1, u2⟩ := U
  obtain ⟨d1, d2⟩ := D
  have KU1 := Lib.hid (fun w' (hb : Below W.heap.size W w') => (up_any A n c l p w' ((hTW.carry hb).wider hb.size) hc).mono (R' := fun e w2 => e = .returned (.tuple #[.int .i64 u1, .bool u2]) ∧ Hid (Below W.heap.size W w2)) (fun e w2 ⟨he, h2⟩ => ⟨by rw [he, hU], bel_trans hb h2⟩))
  have KU2 := Lib.hid (fun w' (hb : Below W.heap.size W w') => (rup_any A1 n c1 l p w' ((hTR.carry hb).wider hb.size) hc).mono (R' := fun e w2 => e = .returned (.tuple #[.int .i64 u1, .bool u2]) ∧ Hid (Below W.heap.size W w2)) (fun e w2 ⟨he, h2⟩ => ⟨by rw [he, hU], bel_trans hb h2⟩))
  have KD1 := Lib.hid (fun w' (hb : Below W.heap.size W w') => (down_any A n c l p w' ((hTW.carry hb).wider hb.size) hc).mono (R' := fun e w2 => e = .returned (.tuple #[.int .i64 d1, .bool d2]) ∧ Hid (Below W.heap.size W w2)) (fun e w2 ⟨he, h2⟩ => ⟨by rw [he, hD], bel_trans hb h2⟩))
  have KD2 := Lib.hid (fun w' (hb : Below W.heap.size W w') => (rdown_any A1 n c1 l p w' ((hTR.carry hb).wider hb.size) hc).mono (R' := fun e w2 => e = .returned (.tuple #[.int .i64 d1, .bool d2]) ∧ Hid (Below W.heap.size W w2)) (fun e w2 ⟨he, h2⟩ => ⟨by rw [he, hD], bel_trans hb h2⟩))
  have KO1 := Lib.hid (fun w' (hb : Below W.heap.size W w') => (on_any A n c l p w' ((hTW.carry hb).wider hb.size) hc).mono (R' := fun e w2 => e = .returned (.bool O) ∧ Hid (Below W.heap.size W w2)) (fun e w2 ⟨he, h2⟩ => ⟨by rw [he, hO], bel_trans hb h2⟩))
  have KO2 := Lib.hid (fun w' (hb : Below W.heap.size W w') => (ron_any A1 n c1 l p w' ((hTR.carry hb).wider hb.size) hc).mono (R' := fun e w2 => e = .returned (.bool O) ∧ Hid (Below W.heap.size W w2)) (fun e w2 ⟨he, h2⟩ => ⟨by rw [he, hO], bel_trans hb h2⟩))
  have KN1 := Lib.hid (fun w' (hb : Below W.heap.size W w') => (near_any A n c l p w' ((hTW.carry hb).wider hb.size) hc).mono (R' := fun e w2 => e = .returned (.int .i64 N) ∧ Hid (Below W.heap.size W w2)) (fun e w2 ⟨he, h2⟩ => ⟨by rw [he, hN], bel_trans hb h2⟩))
  have KN2 := Lib.hid (fun w' (hb : Below W.heap.size W w') => (rnear_any A1 n c1 l p w' ((hTR.carry hb).wider hb.size) hc).mono (R' := fun e w2 => e = .returned (.int .i64 N) ∧ Hid (Below W.heap.size W w2)) (fun e w2 ⟨he, h2⟩ => ⟨by rw [he, hN], bel_trans hb h2⟩))
  have KC1 := Lib.hid (fun w' (hb : Below W.heap.size W w') => (count_any A n c l p q w' ((hTW.carry hb).wider hb.size) hc HQ.out).mono (R' := fun e w2 => e = .returned (.int .i64 C) ∧ Hid (Below W.heap.size W w2)) (fun e w2 ⟨he, h2⟩ => ⟨by rw [he, hCt], bel_trans hb h2⟩))
  have KC2 := Lib.hid (fun w' (hb : Below W.heap.size W w') => (rcount_any A1 n c1 l p q w' ((hTR.carry hb).wider hb.size) hc).mono (R' := fun e w2 => e = .returned (.int .i64 C) ∧ Hid (Below W.heap.size W w2)) (fun e w2 ⟨he, h2⟩ => ⟨by rw [he, hCt], bel_trans hb h2⟩))
  have HCk := Lib.hid ((check_any A n c l W.drew hTW.drew (by omega)).mono (R' := fun e w' => e = .returned .nilIface ∧ Below W.heap.size W w') (fun e w' hch => by
    unfold ChkPost at hch; rw [hc] at hch
    exact ⟨hch.2, ((Below.refl _ _).drew).trans hch.1⟩))
  have HTl := Lib.hid (fun w' (hb : Below W.heap.size W w') => (tells_nil none 0 0 w').mono (R' := fun r w2 => r = .returned (.bool true) ∧ Hid (Below W.heap.size W w2)) (fun r w2 ⟨hr, h2⟩ => ⟨hr, bel_trans hb h2⟩))
  have hbl := hbx.there
  have KS := Lib.hid (fun w' (hb : Below W.heap.size W w') => (⟨((hbx.kept_below hb hbl).reads 0).trans rfl, ((hbx.kept_below hb hbl).reads 1).trans rfl⟩ : w'.cell? ⟨w3.heap.size, 0, none⟩ = some (.slice none 0 0) ∧ w'.cell? ⟨w3.heap.size, 1, none⟩ = some (.int .i64 0)))
  have hS0 := KS.out W (Below.refl _ _)
  have B70 : Below W.heap.size W W.drew := (Below.refl _ _).drew
  clear hbx hTW hTR BW hbl HK T2 T3 hU hD hO hN hCt hc HC H B1 B2 B3 HQ
  go_wp2_with fail
  go_region_held3 (fun w' => w'.cell? ⟨w3.heap.size, 0, none⟩ = some (.slice none 0 0) ∧ w'.cell? ⟨w3.heap.size, 1, none⟩ = some (.int .i64 0))
    (first | exact hS0 | exact KS.out _ B70 | exact KS.out _ BA | exact KS.out _ BB.out)
    ((first | (go_at_call 8; refine HCk.out.mono ?_; rintro e wA ⟨rfl, BA⟩)
            | (go_at_call 7; refine (HTl.out _ BA).mono ?_; rintro e wB ⟨rfl, BB⟩)))
  all_goals
    obtain ⟨s0, s1⟩ := KS.out _ BB.out
    clear hS0 KS B70 BA HCk HTl
    go_wp2_with ((first
      | (go_at_call 9; refine (KU1.out _ BB.out).mono ?_; clear KU1; rintro e x1 ⟨rfl, X1⟩)
      | (go_at_call 10; refine (KU2.out _ X1.out).mono ?_; clear KU2; rintro e x2 ⟨rfl, X2⟩)
      | (go_at_call 11; refine (KD1.out _ X2.out).mono ?_; clear KD1; rintro e x3 ⟨rfl, X3⟩)
      | (go_at_call 12; refine (KD2.out _ X3.out).mono ?_; clear KD2; rintro e x4 ⟨rfl, X4⟩)
      | (go_at_call 13; refine (KO1.out _ X4.out).mono ?_; clear KO1; rintro e x5 ⟨rfl, X5⟩)
      | (go_at_call 14; refine (KO2.out _ X5.out).mono ?_; clear KO2; rintro e x6 ⟨rfl, X6⟩)
      | (go_at_call 15; refine (KN1.out _ X6.out).mono ?_; clear KN1; rintro e x7 ⟨rfl, X7⟩)
      | (go_at_call 16; refine (KN2.out _ X7.out).mono ?_; clear KN2; rintro e x8 ⟨rfl, X8⟩)
      | (go_at_call 17; refine (KC1.out _ X8.out).mono ?_; clear KC1; rintro e x9 ⟨rfl, X9⟩)
      | (go_at_call 18; refine (KC2.out _ X9.out).mono ?_; clear KC2; rintro e x10 ⟨rfl, X10⟩)))
    go_ret
    exact ⟨rfl, bel_trans BwW.out X10.out⟩
theorem any_ok (A : Option Addr) (n c : Nat) (l : List Stp) (p q : Int) (w : World) (hg : ErrType w) (h : TabAt w w.heap.size A n l) (hq : q ≤ 9223372036854775807) :
    Calls Tryd.prog 3 #[.slice A n c, .int .i64 p, .int .i64 q] w fun e w' => e = .returned (.bool true) ∧ Below w.heap.size w w' := by
  by_cases hn : 30 < n
  · exact any_long A n c p q w hn
  · cases hc : chk l with
    | none => exact any_good A n c l p q w h (by omega) hc hq
    | some kx =>
      obtain ⟨k, x⟩ := kx
      have hx := (chk_bound hc).2
      obtain ⟨y, rfl⟩ := Int.eq_ofNat_of_zero_le (show 0 ≤ x by omega)
      exact any_bad A n c l p q w hg h (by omega) k y hc
end Go.Proofs.YtihdebgofjacpaaDoor
