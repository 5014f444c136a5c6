/- What the laws of stage 21 ask first: known(). -/
import Derived.Test.YtekppjigckjgiaaCbkBook
import Derived.Deep.RegionLaw
import Derived.Deep.RegionHeld3
import Derived.BigQuiet
set_option linter.unusedSimpArgs false
namespace Go.Proofs.Ytekppjigckjgiaa
open Go.RowKit Go.Mem1 Go.CbkMath

set_option maxRecDepth 100000 in
set_option maxHeartbeats 2000000 in
theorem cknown_ok (w : World) : Calls Try.prog 7 #[] w fun e w' => e = .returned (.bool true) ∧ Below w.heap.size w w' := by
  have e1 : insE ([], []) ⟨1, 0, 2, -3, 4⟩ = 0 := by decide
  have d1 : insD ([], []) ⟨1, 0, 2, -3, 4⟩ = ([], [⟨1, 0, 2, -3, 4⟩]) := by decide
  have e2 : insE ([], [⟨1, 0, 2, -3, 4⟩]) ⟨2, 0, 2, -5, 2⟩ = 0 := by decide
  have d2 : insD ([], [⟨1, 0, 2, -3, 4⟩]) ⟨2, 0, 2, -5, 2⟩ = ([], [⟨2, 0, 2, -5, 2⟩, ⟨1, 0, 2, -3, 4⟩]) := by decide
  have e3 : redO ([], [⟨2, 0, 2, -5, 2⟩, ⟨1, 0, 2, -3, 4⟩]) 2 2 = (⟨2, 0, 2, -5, 0⟩, 0) := by decide
  have d3 : redD ([], [⟨2, 0, 2, -5, 2⟩, ⟨1, 0, 2, -3, 4⟩]) 2 2 = ([], [⟨1, 0, 2, -3, 4⟩]) := by decide
  have e4 : redO ([], [⟨1, 0, 2, -3, 4⟩]) 2 1 = (zeroC, 5) := by decide
  have d4 : redD ([], [⟨1, 0, 2, -3, 4⟩]) 2 1 = ([], [⟨1, 0, 2, -3, 4⟩]) := by decide
  go_enter Try.func7, Try.ntmps7
  go_wp2_with (go_at_call 8; refine Hid.out ?_)
  refine Lib.hid ?_
  refine (cb_new w).mono ?_
  rintro _ w1 ⟨g, O1, rfl, hA1, hB1⟩
  have HB1 := Lib.hid hB1
  have HI1 := Lib.hid (cb_ins hA1 ⟨1, 0, 2, -3, 4⟩)
  rw [d1, e1] at HI1
  have hO1 : ∀ i, i < w.heap.size → ¬ O1 i := fun i hi e => by have := (hA1.own i e).1; omega
  clear hA1 hB1
  go_wp2_with (go_at_call 9; refine Hid.out ?_)
  refine Lib.hid ?_
  refine HI1.out.mono ?_
  rintro _ w2 ⟨rfl, O2, hA2, hC2, hO2⟩
  have HB2 := Lib.hid (Chg.toBelow HB1.out hC2 HB1.out.size (fun i hi e => hO1 i hi e))
  have HI2 := Lib.hid (cb_ins hA2 ⟨2, 0, 2, -5, 2⟩)
  rw [d2, e2] at HI2
  have hO1' : ∀ i, i < w.heap.size → ¬ O2 i := fun i hi e => by have := (hA2.own i e).1; omega
  clear hA2 hC2 hO2 hO1
  go_wp2_with (go_at_call 9; refine Hid.out ?_)
  refine Lib.hid ?_
  refine HI2.out.mono ?_
  rintro _ w3 ⟨rfl, O3, hA3, hC3, hO3⟩
  have HB3 := Lib.hid (Chg.toBelow HB2.out hC3 HB2.out.size (fun i hi e => hO1' i hi e))
  have HF := Lib.hid (cb_front hA3 2)
  have HA3 := Lib.hid hA3
  clear hA3 hC3 hO3 hO1'
  go_wp2_with ((first
    | (go_at_call 17; refine HF.out.mono ?_; rintro e w4 ⟨rfl, hb4⟩; replace hb4 := Lib.hid hb4; dsimp only [rowD, coV, List.headD, List.isEmpty]; simp only [if_neg (show ¬ (2 : Int) = 1 by decide), if_pos])
    | (go_at_call 14; refine Hid.out ?_)))
  have hb5 := bel_trans hb4.out (bel_new w4 (.cells #[.int .i64 2, .int .i64 0, .int .i64 2, .int .i64 (-5), .int .i64 2] 31))
  have hA4 := HA3.out.carry hb5
  have hR4 := cb_red hA4 2 2
  rw [d3, e3] at hR4
  have hX := Box.fresh w4 31 #[.int .i64 2, .int .i64 0, .int .i64 2, .int .i64 (-5), .int .i64 2] rfl
  have HB4 := Lib.hid (HB3.out.trans (hb5.mono HB3.out.size))
  have hO3 : ∀ j, O3 j → j < w4.heap.size ∧ w.heap.size ≤ j := fun j hj => ⟨Nat.lt_of_lt_of_le (HA3.out.own j hj).2 hb4.out.size, (HA3.out.own j hj).1⟩
  refine Lib.hid ?_
  refine hR4.mono ?_
  rintro _ w5 ⟨rfl, O5, hA5, hC5, hO5⟩
  have HB5 := Lib.hid (Chg.toBelow HB4.out hC5 HB4.out.size (fun i hi e => by have := (hO3 i e).2; omega))
  have hX5 := hX.kept hC5 (fun e => by have := (hO3 _ e).1; omega)
  have hn4 : w4.heap.size < w5.heap.size := hX5.there
  have hO5' : ¬ O5 w4.heap.size := fun e => by
    rcases hO5 _ e with h | h
    · have := (hO3 _ h).1; omega
    · simp at h
      omega
  have HA5 := Lib.hid hA5
  have HX5 := Lib.hid hX5
  clear hb5 hA4 hR4 hX hC5 hO5 hA5 hX5 hO3
  unfold coV
  dsimp only
  go_wp2_with (go_at_call 14; refine Hid.out ?_)
  have hb6 := bel_new w5 (.cells #[.int .i64 2, .int .i64 0, .int .i64 2, .int .i64 (-5), .int .i64 0] 31)
  have hA6 := HA5.out.carry hb6
  have hR6 := cb_red hA6 2 1
  rw [d4, e4] at hR6
  have hY := Box.fresh w5 31 #[.int .i64 2, .int .i64 0, .int .i64 2, .int .i64 (-5), .int .i64 0] rfl
  have HB6 := Lib.hid (HB5.out.trans (hb6.mono HB5.out.size))
  refine Lib.hid ?_
  refine hR6.mono ?_
  rintro _ w6 ⟨rfl, O6, hA7, hC6, _⟩
  have HB7 := Lib.hid (Chg.toBelow HB6.out hC6 HB6.out.size (fun i hi e => by have := (HA5.out.own i e).1; omega))
  have hY6 := hY.kept hC6 (fun e => by have := (HA5.out.own _ e).2; omega)
  have hX6 := (HX5.out.kept_below hb6 HX5.out.there).kept hC6 hO5'
  have HA7 := Lib.hid hA7
  have HX6 := Lib.hid hX6
  have HY6 := Lib.hid hY6
  clear hb6 hA6 hR6 hY hC6 hA7 hX6 hY6
  unfold coV zeroC
  dsimp only
  have hb8 := bel_new w6 (.cells #[.int .i64 0, .int .i64 0, .int .i64 0, .int .i64 0, .int .i64 0] 31)
  have c0 : ∀ x, (w6.alloc x).cell? ⟨w4.heap.size, 0, Option.none⟩ = some (.int .i64 2) := fun x => (HX6.out.kept_below (bel_new w6 x) HX6.out.there).reads 0
  have c4 : ∀ x, (w6.alloc x).cell? ⟨w5.heap.size, 4, Option.none⟩ = some (.int .i64 0) := fun x => (HY6.out.kept_below (bel_new w6 x) HY6.out.there).reads 4
  have HLEN := Lib.hid (cb_len (HA7.out.carry hb8))
  have HROW := Lib.hid (fun w' (hb : Below w6.heap.size w6 w') => cb_row (HA7.out.carry hb) 2)
  have HB8 := Lib.hid hb8
  have HTK := Lib.hid (fun w' => cb_takes (o := ⟨0, 0, 1, 5, 0⟩) (.inl rfl) 5 w')
  have HAH := Lib.hid (fun w' => cb_ahead (a := ⟨9, 0, 1, 5, 0⟩) (b := ⟨1, 0, 1, 4, 0⟩) (.inl rfl) rfl w')
  have ht : takesC ⟨0, 0, 1, 5, 0⟩ 5 = true := by decide
  have hh : aheadC ⟨9, 0, 1, 5, 0⟩ ⟨1, 0, 1, 4, 0⟩ = true := by decide
  rw [ht] at HTK
  rw [hh] at HAH
  unfold coV at HTK HAH
  clear hb8 ht hh e1 d1 e2 d2 e3 d3 e4 d4
  go_wp2_with ((first
    | (go_at_call 25; refine HLEN.out.mono ?_; rintro e w7 ⟨rfl, hb7⟩; replace hb7 := Lib.hid (bel_trans HB8.out hb7))
    | (go_at_call 26; refine (HROW.out _ hb7.out).mono ?_; rintro e w9 ⟨v9, rfl, ho9, hb9⟩; obtain ⟨A9, c9, rfl⟩ := own_slice ho9; replace hb9 := Lib.hid (bel_trans hb7.out hb9); dsimp only [rowD, List.length]; clear ho9)
    | (go_at_call 23; refine (HTK.out _).mono ?_; rintro e w10 ⟨rfl, hb10⟩; replace hb10 := Lib.hid (bel_trans hb9.out hb10))
    | (go_at_call 21; refine (HAH.out _).mono ?_; rintro e w11 ⟨rfl, hb11⟩; replace hb11 := Lib.hid (bel_trans hb10.out hb11))))
  go_ret
  exact ⟨rfl, HB7.out.trans (hb11.out.mono HB7.out.size)⟩
end Go.Proofs.Ytekppjigckjgiaa
