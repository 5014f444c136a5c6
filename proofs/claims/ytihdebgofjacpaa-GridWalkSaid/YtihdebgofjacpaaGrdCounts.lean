/- straddlelaw6.GridCounts returns true. -/
import Derived.Test.YtihdebgofjacpaaGrdKnown
import Derived.Test.YtihdebgofjacpaaGrdOf
import Derived.Test.YtihdebgofjacpaaGrdRefChk
set_option linter.unusedSimpArgs false
namespace Go.Proofs.Ytihdebgofjacpaa
open Go.RowKit Go.Mem1 Go.GridMath

theorem wrong_field (A : Option Addr) (n c : Nat) (x : Int) (w : World) : (Instr.field 27 (.agg #[.slice A n c, .int .i64 x]) 1).run Try.prog w = .ok (.int .i64 x) w := by
  first | rfl | kernel_rfl | simp [Instr.field, go_sem]
/-- The reference's Check of the law's Of. -/
abbrev OfChk (w : World) (o : Option (Nat × Int)) (A1 : Option Addr) (n c1 : Nat) (w1 : World) : Prop :=
  Calls Try.prog 7 #[.slice A1 n c1] w1 fun e w2 => ∃ A n c, e = .returned (.agg #[.slice A n c, .int .i64 ((o.map (·.2)).getD 0)]) ∧ Hid (Below w.heap.size w w2)
theorem ofchk_any (A : Option Addr) (n c : Nat) (l : List Stp) (w w' : World) (h : TabAt w w.heap.size A n l) (hn : n ≤ 1000) (hb : Below w.heap.size w w') :
    Calls Try.prog 8 #[.slice A n c] w' fun e w1 => ∃ A1 c1, e = .returned (.slice A1 n c1) ∧ Hid (OfChk w (chk l) A1 n c1 w1) := by
  refine (of_any A n c l w' ((h.carry hb).wider hb.size) hn).mono ?_
  rintro e w1 ⟨A1, c1, he, hT, hb1⟩
  refine ⟨A1, c1, he, ?_⟩
  refine (rchk_any A1 n c1 l w1 hT).mono ?_
  intro e2 w2 h2
  unfold RChk at h2
  obtain ⟨h3, h4⟩ := h2
  have hb2 : Below w.heap.size w w2 := hb.trans ((hb1.mono hb.size).trans (h3.mono (Nat.le_trans hb.size hb1.size)))
  cases hc : chk l with
  | none => rw [hc] at h4; exact ⟨_, _, _, h4, hb2⟩
  | some kx =>
    rw [hc] at h4
    obtain ⟨A2, n2, c2, h5, _⟩ := h4
    exact ⟨A2, n2, c2, h5, hb2⟩
theorem count_at {A : Option Addr} {n c : Nat} {l : List Stp} {w : World} (h : TabAt w w.heap.size A n l) (hc : chk l = none) {lo hi N : Int} (hN : countT l lo hi = N) (hh : hi ≤ 9223372036854775807) (w' : World) (hb : Below w.heap.size w w') :
    Calls Try.prog 12 #[.slice A n c, .int .i64 lo, .int .i64 hi] w' fun e w2 => e = .returned (.int .i64 N) ∧ Hid (Below w.heap.size w w2) :=
  (count_any A n c l lo hi w' ((h.carry hb).wider hb.size) hc hh).mono fun e w2 ⟨he, h2⟩ => ⟨by rw [he, hN], hb.trans (h2.mono hb.size)⟩
set_option maxRecDepth 100000 in
set_option maxHeartbeats 2000000 in
theorem counts_early (A : Option Addr) (n c : Nat) (l : List Stp) (x y z : Int) (w : World) (h : TabAt w w.heap.size A n l) (hc : 8 < n ∨ n ≤ 8 ∧ chk l ≠ none) :
    Calls Try.prog 4 #[.slice A n c, .int .i64 x, .int .i64 y, .int .i64 z] w fun e w' => e = .returned (.bool true) ∧ Below w.heap.size w w' := by
  have HK := Lib.hid (fun w' => gknown_ok w')
  have hfd := wrong_field
  rcases hc with h8 | ⟨h8, hc⟩
  · have t8 : decide ((8 : Int) < (n : Int)) = true := by simp; omega
    go_enter Try.func4, Try.ntmps4
    go_wp2_with (go_at_call 6; refine (HK.out _).mono ?_; rintro e w1 ⟨rfl, B1⟩; replace B1 := Lib.hid B1)
    go_ret
    exact ⟨rfl, B1.out⟩
  · have t8 : decide ((8 : Int) < (n : Int)) = false := by simp; omega
    obtain ⟨kx, hkx⟩ := Option.ne_none_iff_exists'.1 hc
    have HO := Lib.hid (fun w' hb => ofchk_any A n c l w w' h (by omega) hb)
    rw [hkx] at HO
    obtain ⟨k, x'⟩ := kx
    have hx := (chk_bound hkx).2
    have hx' : (x' != 0) = true := by simp; omega
    clear h hc hkx hx
    go_enter Try.func4, Try.ntmps4
    go_wp2_with ((first
      | (go_at_call 6; refine (HK.out _).mono ?_; rintro e w1 ⟨rfl, B1⟩; replace B1 := Lib.hid B1)
      | (go_at_call 8; refine (HO.out _ B1.out).mono ?_; rintro e w2 ⟨A1, c1, rfl, hOC⟩)
      | (go_at_call 7; refine Calls.mono hOC.out ?_; rintro e w3 ⟨A3, n3, c3, rfl, B3⟩; dsimp only [Option.map, Option.getD])))
    go_ret
    exact ⟨rfl, B3.out⟩
set_option maxRecDepth 100000 in
set_option maxHeartbeats 2000000 in
theorem counts_main (A : Option Addr) (n c : Nat) (l : List Stp) (x y z : Int) (w : World) (h : TabAt w w.heap.size A n l) (h8 : n ≤ 8) (hc : chk l = none) (hz : z ≤ 9223372036854775807) :
    Calls Try.prog 4 #[.slice A n c, .int .i64 x, .int .i64 y, .int .i64 z] w fun e w' => e = .returned (.bool true) ∧ Below w.heap.size w w' := by
  have HK := Lib.hid (fun w' => gknown_ok w')
  have hfd := wrong_field
  have t8 : decide ((8 : Int) < (n : Int)) = false := by simp; omega
  have HO := Lib.hid (fun w' hb => ofchk_any A n c l w w' h (by omega) hb)
  rw [hc] at HO
  have hcase : x < 0 ∨ (0 ≤ x ∧ y < x) ∨ (0 ≤ x ∧ x ≤ y ∧ z < y) ∨ (0 ≤ x ∧ x ≤ y ∧ y ≤ z ∧ 2000000 < z) ∨ (0 ≤ x ∧ x ≤ y ∧ y ≤ z ∧ z ≤ 2000000) := by omega
  rcases hcase with g | ⟨g1, g⟩ | ⟨g1, g2, g⟩ | ⟨g1, g2, g3, g⟩ | ⟨g1, g2, g3, g4⟩
  · have p1 : decide (x < 0) = true := by simpa using g
    clear h hc
    go_enter Try.func4, Try.ntmps4
    go_wp2_with ((first
      | (go_at_call 6; refine (HK.out _).mono ?_; rintro e w1 ⟨rfl, B1⟩; replace B1 := Lib.hid B1)
      | (go_at_call 8; refine (HO.out _ B1.out).mono ?_; rintro e w2 ⟨A1, c1, rfl, hOC⟩)
      | (go_at_call 7; refine Calls.mono hOC.out ?_; rintro e w3 ⟨A3, n3, c3, rfl, B3⟩; dsimp only [Option.map, Option.getD])))
    go_ret
    exact ⟨rfl, B3.out⟩
  · have p1 : decide (x < 0) = false := by simpa using g1
    have p2 : decide (y < x) = true := by simpa using g
    clear h hc
    go_enter Try.func4, Try.ntmps4
    go_wp2_with ((first
      | (go_at_call 6; refine (HK.out _).mono ?_; rintro e w1 ⟨rfl, B1⟩; replace B1 := Lib.hid B1)
      | (go_at_call 8; refine (HO.out _ B1.out).mono ?_; rintro e w2 ⟨A1, c1, rfl, hOC⟩)
      | (go_at_call 7; refine Calls.mono hOC.out ?_; rintro e w3 ⟨A3, n3, c3, rfl, B3⟩; dsimp only [Option.map, Option.getD])))
    go_ret
    exact ⟨rfl, B3.out⟩
  · have p1 : decide (x < 0) = false := by simpa using g1
    have p2 : decide (y < x) = false := by simpa using g2
    have p3 : decide (z < y) = true := by simpa using g
    clear h hc
    go_enter Try.func4, Try.ntmps4
    go_wp2_with ((first
      | (go_at_call 6; refine (HK.out _).mono ?_; rintro e w1 ⟨rfl, B1⟩; replace B1 := Lib.hid B1)
      | (go_at_call 8; refine (HO.out _ B1.out).mono ?_; rintro e w2 ⟨A1, c1, rfl, hOC⟩)
      | (go_at_call 7; refine Calls.mono hOC.out ?_; rintro e w3 ⟨A3, n3, c3, rfl, B3⟩; dsimp only [Option.map, Option.getD])))
    go_ret
    exact ⟨rfl, B3.out⟩
  · have p1 : decide (x < 0) = false := by simpa using g1
    have p2 : decide (y < x) = false := by simpa using g2
    have p3 : decide (z < y) = false := by simpa using g3
    have p4 : decide (2000000 < z) = true := by simpa using g
    clear h hc
    go_enter Try.func4, Try.ntmps4
    go_wp2_with ((first
      | (go_at_call 6; refine (HK.out _).mono ?_; rintro e w1 ⟨rfl, B1⟩; replace B1 := Lib.hid B1)
      | (go_at_call 8; refine (HO.out _ B1.out).mono ?_; rintro e w2 ⟨A1, c1, rfl, hOC⟩)
      | (go_at_call 7; refine Calls.mono hOC.out ?_; rintro e w3 ⟨A3, n3, c3, rfl, B3⟩; dsimp only [Option.map, Option.getD])))
    go_ret
    exact ⟨rfl, B3.out⟩
  · have N1 := counts (l := l) g1 g2 g3
    have b1 := count_bound (okT_chk hc) x y
    have b2 := count_bound (okT_chk hc) (y + 1) z
    obtain ⟨X, hX⟩ : ∃ X, countT l x y = X := ⟨_, rfl⟩
    obtain ⟨Y, hY⟩ : ∃ Y, countT l (y + 1) z = Y := ⟨_, rfl⟩
    rw [hX, hY] at N1
    rw [hX] at b1
    rw [hY] at b2
    obtain ⟨b1, b1'⟩ := b1
    obtain ⟨b2, b2'⟩ := b2
    have C1 := Lib.hid (fun w' hb => count_at (c := c) h hc N1.1 hz w' hb)
    have C2 := Lib.hid (fun w' hb => count_at (c := c) h hc hX (by omega) w' hb)
    have C3 := Lib.hid (fun w' hb => count_at (c := c) h hc hY hz w' hb)
    have C4 := Lib.hid (fun w' hb => count_at (c := c) h hc N1.2 (by omega) w' hb)
    have p1 : decide (x < 0) = false := by simpa using g1
    have p2 : decide (y < x) = false := by simpa using g2
    have p3 : decide (z < y) = false := by simpa using g3
    have p4 : decide (2000000 < z) = false := by simpa using g4
    have p5 : decide (0 ≤ X + Y) = true := by simp; omega
    clear h hc hX hY N1
    go_enter Try.func4, Try.ntmps4
    go_wp2_with ((first
      | (go_at_call 6; refine (HK.out _).mono ?_; rintro e w1 ⟨rfl, B1⟩; replace B1 := Lib.hid B1)
      | (go_at_call 8; refine (HO.out _ B1.out).mono ?_; rintro e w2 ⟨A1, c1, rfl, hOC⟩)
      | (go_at_call 7; refine Calls.mono hOC.out ?_; rintro e w3 ⟨A3, n3, c3, rfl, B3⟩; dsimp only [Option.map, Option.getD])
      | (go_at_call 12; refine (C1.out _ B3.out).mono ?_; clear C1; rintro e w4 ⟨rfl, B4⟩)
      | (go_at_call 12; refine (C2.out _ B4.out).mono ?_; clear C2; rintro e w5 ⟨rfl, B5⟩)
      | (go_at_call 12; refine (C3.out _ B5.out).mono ?_; clear C3; rintro e w6 ⟨rfl, B6⟩)
      | (go_at_call 12; refine (C4.out _ B6.out).mono ?_; clear C4; rintro e w7 ⟨rfl, B7⟩)))
    go_ret
    exact ⟨rfl, B7.out⟩
theorem counts_ok (A : Option Addr) (n c : Nat) (l : List Stp) (x y z : Int) (w : World) (h : TabAt w w.heap.size A n l) (hz : z ≤ 9223372036854775807) :
    Calls Try.prog 4 #[.slice A n c, .int .i64 x, .int .i64 y, .int .i64 z] w fun e w' => e = .returned (.bool true) ∧ Below w.heap.size w w' := by
  by_cases h8 : 8 < n
  · exact counts_early A n c l x y z w h (.inl h8)
  · by_cases hc : chk l = none
    · exact counts_main A n c l x y z w h (by omega) hc hz
    · exact counts_early A n c l x y z w h (.inr ⟨by omega, hc⟩)
end Go.Proofs.Ytihdebgofjacpaa
