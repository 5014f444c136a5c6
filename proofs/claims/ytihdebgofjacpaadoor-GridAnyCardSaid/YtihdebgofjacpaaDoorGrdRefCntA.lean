/- The reference's Count, of tables that may be. -/
import Derived.Test.YtihdebgofjacpaaDoorGrdRef
set_option linter.unusedSimpArgs false
namespace Go.Proofs.YtihdebgofjacpaaDoor
open Go.RowKit Go.Mem1 Go.GridMath

set_option maxRecDepth 100000 in
set_option maxHeartbeats 8000000 in
theorem rcount_a (A : Option Addr) (n c : Nat) (l : List Stp) (lo hi : Int) (w : World) (h : TabAt w w.heap.size A n l) (ho : chk l = none) (hlo : 1 ≤ lo) (hhi : hi ≤ 1000000) (hab : (lo : Int) ≤ hi) :
    Calls Tryd.prog 18 #[.slice A n c, .int .i64 lo, .int .i64 hi] w fun e w' => e = .returned (.int .i64 (sumK l lo hi n)) ∧ Below w.heap.size w w' := by
  have HW := Lib.hid (of_chk ho).2.2
  have HL := Lib.hid h.len
  have hn8 : n ≤ 8 := by have := (of_chk ho).2.1; have := h.len; omega
  have H := Lib.hid h
  have q1 : decide (lo < 1) = false := by simp; omega
  have q2 : decide (1000000 < hi) = false := by simp; omega
  have q3 : decide ((hi : Int) < lo) = false := by first | decide | (simp; omega)
  clear h ho
  go_enter Tryd.func18, Tryd.ntmps18
  go_wp2_with fail
  go_loopw [7, 8] (fun v7 v8 wr => ∃ k : Nat, k ≤ n ∧ v7 = .int .i64 (sumK l lo hi k) ∧ v8 = .int .i64 k ∧ Hid (Below w.heap.size w wr)) (fun _ v8 _ => n - (intOf v8).toNat)
  case atStart => exact ⟨0, by omega, by rw [sumK_zero], rfl, Lib.hid (Below.refl _ _)⟩
  case round =>
    obtain ⟨k, hk, rfl, rfl, hS⟩ := hrel
    by_cases hlt : k < n
    · obtain ⟨b, off, s, rfl, hb, hs, y0, y1⟩ := (H.out.carry hS.out).get hlt
      obtain ⟨f, y⟩ := s
      dsimp only at y0 y1
      have hfine := fine_at k (fun i hi => HW.out i (by rw [HL.out]; omega))
      rw [hs] at hfine
      obtain ⟨m1, m2, m3, m4⟩ := hfine
      dsimp only [Option.getD_some] at m1 m2 m3 m4
      have hsucc := sumK_succ (lo := lo) (hi := hi) HW.out hs m2 m3 hab
      have hbk := sumK_bound (lo := lo) (hi := hi) HW.out (k := k) (by rw [HL.out]; omega) hab (by omega)
      have hbk1 := sumK_bound (lo := lo) (hi := hi) HW.out (k := k + 1) (by rw [HL.out]; omega) hab (by omega)
      have hEge := endAt_ge HW.out hs m2
      obtain ⟨E, hE⟩ : ∃ E, endAt l (k + 1) = E := ⟨_, rfl⟩
      rw [hE] at hEge hsucc
      obtain ⟨Sk, hSk⟩ : ∃ S, sumK l lo hi k = S := ⟨_, rfl⟩
      obtain ⟨S1, hS1⟩ : ∃ S, sumK l lo hi (k + 1) = S := ⟨_, rfl⟩
      rw [hSk] at hbk hsucc
      rw [hS1] at hbk1 hsucc
      rw [hSk]
      have HS1 := Lib.hid hS1
      clear hSk hS1
      obtain ⟨hbk, hbk'⟩ := hbk
      obtain ⟨hbk1, hbk1'⟩ := hbk1
      obtain ⟨hEge, hEle⟩ := hEge
      dsimp only at hEge
      unfold addS fromS at hsucc
      have a1 : (0 : Int) ≤ (k : Int) := by omega
      have a2 : (k : Int) < (n : Int) := by omega
      by_cases hk1 : k + 1 < n
      · obtain ⟨b', off', t, e', hb', ht, z0, z1⟩ := (H.out.carry hS.out).get hk1
        injection e' with e'
        injection e' with e1' e2' e3'
        subst e1'; subst e2'
        clear e3'
        obtain ⟨g, v⟩ := t
        dsimp only at z0 z1
        have a3 : decide ((k : Int) + 1 < (n : Int)) = true := by simp; omega
        have a4 : (k : Int) + 1 < (n : Int) := by omega
        have hEg : E = g - 1 := by rw [← hE]; unfold endAt; rw [ht]
        subst hEg
        clear hE ht hs hb' z1
        by_cases hfl : f < lo
        · rw [if_pos hfl] at hsucc
          have hfl' : decide (f < lo) = true := by simpa using hfl
          obtain ⟨e1, e2, e3⟩ := dm (lo - f + y - 1) m3
          have hQ0 : 0 ≤ (lo - f + y - 1) / y := Int.ediv_nonneg (by omega) (by omega)
          obtain ⟨Q, hQ⟩ : ∃ Q, (lo - f + y - 1) / y = Q := ⟨_, rfl⟩
          rw [hQ] at e1 hsucc hQ0
          obtain ⟨P, hP⟩ : ∃ P, Q * y = P := ⟨_, rfl⟩
          have hP2 : y * Q = P := by rw [Int.mul_comm]; exact hP
          rw [hP2] at e1
          rw [hP] at hsucc
          have hP0 : 0 ≤ P := by rw [← hP]; exact Int.mul_nonneg hQ0 (by omega)
          have hQ2 : Q ≤ P := by
            rw [← hP]
            have := Int.mul_le_mul_of_nonneg_left m3 hQ0
            rwa [Int.mul_one] at this
          have hP1 : P ≤ 1010000 := by omega
          have w1 : IntKind.i64.wrap (lo - f) = lo - f := iwrap (by omega)
          have w2 : IntKind.i64.wrap (lo - f + y) = lo - f + y := iwrap (by omega)
          have w3 : IntKind.i64.wrap (lo - f + y - 1) = lo - f + y - 1 := iwrap (by omega)
          have w4 : IntKind.i64.wrap Q = Q := iwrap (by omega)
          have w5 : IntKind.i64.wrap P = P := iwrap (by omega)
          have w6 : IntKind.i64.wrap (f + P) = f + P := iwrap (by omega)
          have w7 : (y == 0) = false := by simp; omega
          have w8 : 0 ≤ lo - f + y - 1 := by omega
          clear e1 e2 e3 hP2 hQ2
          by_cases hhe : hi < (g - 1)
          · rw [show min hi (g - 1) = hi by omega] at hsucc
            have hhe' : decide (hi < (g - 1)) = true := by simpa using hhe
            by_cases hle : (f + P) ≤ hi
            · rw [if_pos hle] at hsucc
              obtain ⟨D, hD⟩ : ∃ D, (hi - (f + P)) / y = D := ⟨_, rfl⟩
              have hD0 : 0 ≤ D := by rw [← hD]; exact Int.ediv_nonneg (by omega) (by omega)
              rw [hD] at hsucc
              have hle' : decide ((f + P) ≤ hi) = true := by simpa using hle
              have hD2 : D ≤ 1000000 := by omega
              have HSU := Lib.hid hsucc
              clear hsucc
              go_wp2_with fail
              go_quiet (fail)
              go_wp2_with fail
              go_roundw
              case rel => exact ⟨k + 1, by omega, by rw [HS1.out, HSU.out, ← Int.add_assoc], by go_num, Lib.hid (by first | exact hS.out | exact bel_drawn hS.out _)⟩
              case measure => simp [intOf]; omega
            · rw [if_neg hle] at hsucc
              have hle' : decide ((f + P) ≤ hi) = false := by simpa using hle
              have HSU := Lib.hid hsucc
              clear hsucc
              go_wp2_with fail
              go_quiet (fail)
              go_wp2_with fail
              go_roundw
              case rel => exact ⟨k + 1, by omega, by rw [HS1.out, HSU.out, Int.add_zero], by go_num, Lib.hid (by first | exact hS.out | exact bel_drawn hS.out _)⟩
              case measure => simp [intOf]; omega
          · rw [show min hi (g - 1) = (g - 1) by omega] at hsucc
            have hhe' : decide (hi < (g - 1)) = false := by simpa using hhe
            by_cases hle : (f + P) ≤ (g - 1)
            · rw [if_pos hle] at hsucc
              obtain ⟨D, hD⟩ : ∃ D, ((g - 1) - (f + P)) / y = D := ⟨_, rfl⟩
              have hD0 : 0 ≤ D := by rw [← hD]; exact Int.ediv_nonneg (by omega) (by omega)
              rw [hD] at hsucc
              have hle' : decide ((f + P) ≤ (g - 1)) = true := by simpa using hle
              have hD2 : D ≤ 1000000 := by omega
              have HSU := Lib.hid hsucc
              clear hsucc
              go_wp2_with fail
              go_quiet (fail)
              go_wp2_with fail
              go_roundw
              case rel => exact ⟨k + 1, by omega, by rw [HS1.out, HSU.out, ← Int.add_assoc], by go_num, Lib.hid (by first | exact hS.out | exact bel_drawn hS.out _)⟩
              case measure => simp [intOf]; omega
            · rw [if_neg hle] at hsucc
              have hle' : decide ((f + P) ≤ (g - 1)) = false := by simpa using hle
              have HSU := Lib.hid hsucc
              clear hsucc
              go_wp2_with fail
              go_quiet (fail)
              go_wp2_with fail
              go_roundw
              case rel => exact ⟨k + 1, by omega, by rw [HS1.out, HSU.out, Int.add_zero], by go_num, Lib.hid (by first | exact hS.out | exact bel_drawn hS.out _)⟩
              case measure => simp [intOf]; omega
        · rw [if_neg hfl] at hsucc
          have hfl' : decide (f < lo) = false := by simpa using hfl
          by_cases hhe : hi < (g - 1)
          · rw [show min hi (g - 1) = hi by omega] at hsucc
            have hhe' : decide (hi < (g - 1)) = true := by simpa using hhe
            by_cases hle : f ≤ hi
            · rw [if_pos hle] at hsucc
              obtain ⟨D, hD⟩ : ∃ D, (hi - f) / y = D := ⟨_, rfl⟩
              have hD0 : 0 ≤ D := by rw [← hD]; exact Int.ediv_nonneg (by omega) (by omega)
              rw [hD] at hsucc
              have hle' : decide (f ≤ hi) = true := by simpa using hle
              have hD2 : D ≤ 1000000 := by omega
              have HSU := Lib.hid hsucc
              clear hsucc
              go_wp2_with fail
              go_roundw
              case rel => exact ⟨k + 1, by omega, by rw [HS1.out, HSU.out, ← Int.add_assoc], by go_num, Lib.hid (by first | exact hS.out | exact bel_drawn hS.out _)⟩
              case measure => simp [intOf]; omega
            · rw [if_neg hle] at hsucc
              have hle' : decide (f ≤ hi) = false := by simpa using hle
              have HSU := Lib.hid hsucc
              clear hsucc
              go_wp2_with fail
              go_roundw
              case rel => exact ⟨k + 1, by omega, by rw [HS1.out, HSU.out, Int.add_zero], by go_num, Lib.hid (by first | exact hS.out | exact bel_drawn hS.out _)⟩
              case measure => simp [intOf]; omega
          · rw [show min hi (g - 1) = (g - 1) by omega] at hsucc
            have hhe' : decide (hi < (g - 1)) = false := by simpa using hhe
            by_cases hle : f ≤ (g - 1)
            · rw [if_pos hle] at hsucc
              obtain ⟨D, hD⟩ : ∃ D, ((g - 1) - f) / y = D := ⟨_, rfl⟩
              have hD0 : 0 ≤ D := by rw [← hD]; exact Int.ediv_nonneg (by omega) (by omega)
              rw [hD] at hsucc
              have hle' : decide (f ≤ (g - 1)) = true := by simpa using hle
              have hD2 : D ≤ 1000000 := by omega
              have HSU := Lib.hid hsucc
              clear hsucc
              go_wp2_with fail
              go_roundw
              case rel => exact ⟨k + 1, by omega, by rw [HS1.out, HSU.out, ← Int.add_assoc], by go_num, Lib.hid (by first | exact hS.out | exact bel_drawn hS.out _)⟩
              case measure => simp [intOf]; omega
            · rw [if_neg hle] at hsucc
              have hle' : decide (f ≤ (g - 1)) = false := by simpa using hle
              exact absurd hEge hle
      · have a3 : decide ((k : Int) + 1 < (n : Int)) = false := by simp; omega
        have hEg : E = 1000000 := by rw [← hE]; unfold endAt; rw [List.getElem?_eq_none (by rw [HL.out]; omega)]
        subst hEg
        clear hE hs
        by_cases hfl : f < lo
        · rw [if_pos hfl] at hsucc
          have hfl' : decide (f < lo) = true := by simpa using hfl
          obtain ⟨e1, e2, e3⟩ := dm (lo - f + y - 1) m3
          have hQ0 : 0 ≤ (lo - f + y - 1) / y := Int.ediv_nonneg (by omega) (by omega)
          obtain ⟨Q, hQ⟩ : ∃ Q, (lo - f + y - 1) / y = Q := ⟨_, rfl⟩
          rw [hQ] at e1 hsucc hQ0
          obtain ⟨P, hP⟩ : ∃ P, Q * y = P := ⟨_, rfl⟩
          have hP2 : y * Q = P := by rw [Int.mul_comm]; exact hP
          rw [hP2] at e1
          rw [hP] at hsucc
          have hP0 : 0 ≤ P := by rw [← hP]; exact Int.mul_nonneg hQ0 (by omega)
          have hQ2 : Q ≤ P := by
            rw [← hP]
            have := Int.mul_le_mul_of_nonneg_left m3 hQ0
            rwa [Int.mul_one] at this
          have hP1 : P ≤ 1010000 := by omega
          have w1 : IntKind.i64.wrap (lo - f) = lo - f := iwrap (by omega)
          have w2 : IntKind.i64.wrap (lo - f + y) = lo - f + y := iwrap (by omega)
          have w3 : IntKind.i64.wrap (lo - f + y - 1) = lo - f + y - 1 := iwrap (by omega)
          have w4 : IntKind.i64.wrap Q = Q := iwrap (by omega)
          have w5 : IntKind.i64.wrap P = P := iwrap (by omega)
          have w6 : IntKind.i64.wrap (f + P) = f + P := iwrap (by omega)
          have w7 : (y == 0) = false := by simp; omega
          have w8 : 0 ≤ lo - f + y - 1 := by omega
          clear e1 e2 e3 hP2 hQ2
          by_cases hhe : hi < 1000000
          · rw [show min hi 1000000 = hi by omega] at hsucc
            have hhe' : decide (hi < 1000000) = true := by simpa using hhe
            by_cases hle : (f + P) ≤ hi
            · rw [if_pos hle] at hsucc
              obtain ⟨D, hD⟩ : ∃ D, (hi - (f + P)) / y = D := ⟨_, rfl⟩
              have hD0 : 0 ≤ D := by rw [← hD]; exact Int.ediv_nonneg (by omega) (by omega)
              rw [hD] at hsucc
              have hle' : decide ((f + P) ≤ hi) = true := by simpa using hle
              have hD2 : D ≤ 1000000 := by omega
              have HSU := Lib.hid hsucc
              clear hsucc
              go_wp2_with fail
              go_quiet (fail)
              go_wp2_with fail
              go_roundw
              case rel => exact ⟨k + 1, by omega, by rw [HS1.out, HSU.out, ← Int.add_assoc], by go_num, Lib.hid (by first | exact hS.out | exact bel_drawn hS.out _)⟩
              case measure => simp [intOf]; omega
            · rw [if_neg hle] at hsucc
              have hle' : decide ((f + P) ≤ hi) = false := by simpa using hle
              have HSU := Lib.hid hsucc
              clear hsucc
              go_wp2_with fail
              go_quiet (fail)
              go_wp2_with fail
              go_roundw
              case rel => exact ⟨k + 1, by omega, by rw [HS1.out, HSU.out, Int.add_zero], by go_num, Lib.hid (by first | exact hS.out | exact bel_drawn hS.out _)⟩
              case measure => simp [intOf]; omega
          · rw [show min hi 1000000 = 1000000 by omega] at hsucc
            have hhe' : decide (hi < 1000000) = false := by simpa using hhe
            by_cases hle : (f + P) ≤ 1000000
            · rw [if_pos hle] at hsucc
              obtain ⟨D, hD⟩ : ∃ D, (1000000 - (f + P)) / y = D := ⟨_, rfl⟩
              have hD0 : 0 ≤ D := by rw [← hD]; exact Int.ediv_nonneg (by omega) (by omega)
              rw [hD] at hsucc
              have hle' : decide ((f + P) ≤ 1000000) = true := by simpa using hle
              have hD2 : D ≤ 1000000 := by omega
              have HSU := Lib.hid hsucc
              clear hsucc
              go_wp2_with fail
              go_quiet (fail)
              go_wp2_with fail
              go_roundw
              case rel => exact ⟨k + 1, by omega, by rw [HS1.out, HSU.out, ← Int.add_assoc], by go_num, Lib.hid (by first | exact hS.out | exact bel_drawn hS.out _)⟩
              case measure => simp [intOf]; omega
            · rw [if_neg hle] at hsucc
              have hle' : decide ((f + P) ≤ 1000000) = false := by simpa using hle
              have HSU := Lib.hid hsucc
              clear hsucc
              go_wp2_with fail
              go_quiet (fail)
              go_wp2_with fail
              go_roundw
              case rel => exact ⟨k + 1, by omega, by rw [HS1.out, HSU.out, Int.add_zero], by go_num, Lib.hid (by first | exact hS.out | exact bel_drawn hS.out _)⟩
              case measure => simp [intOf]; omega
        · rw [if_neg hfl] at hsucc
          have hfl' : decide (f < lo) = false := by simpa using hfl
          by_cases hhe : hi < 1000000
          · rw [show min hi 1000000 = hi by omega] at hsucc
            have hhe' : decide (hi < 1000000) = true := by simpa using hhe
            by_cases hle : f ≤ hi
            · rw [if_pos hle] at hsucc
              obtain ⟨D, hD⟩ : ∃ D, (hi - f) / y = D := ⟨_, rfl⟩
              have hD0 : 0 ≤ D := by rw [← hD]; exact Int.ediv_nonneg (by omega) (by omega)
              rw [hD] at hsucc
              have hle' : decide (f ≤ hi) = true := by simpa using hle
              have hD2 : D ≤ 1000000 := by omega
              have HSU := Lib.hid hsucc
              clear hsucc
              go_wp2_with fail
              go_roundw
              case rel => exact ⟨k + 1, by omega, by rw [HS1.out, HSU.out, ← Int.add_assoc], by go_num, Lib.hid (by first | exact hS.out | exact bel_drawn hS.out _)⟩
              case measure => simp [intOf]; omega
            · rw [if_neg hle] at hsucc
              have hle' : decide (f ≤ hi) = false := by simpa using hle
              have HSU := Lib.hid hsucc
              clear hsucc
              go_wp2_with fail
              go_roundw
              case rel => exact ⟨k + 1, by omega, by rw [HS1.out, HSU.out, Int.add_zero], by go_num, Lib.hid (by first | exact hS.out | exact bel_drawn hS.out _)⟩
              case measure => simp [intOf]; omega
          · rw [show min hi 1000000 = 1000000 by omega] at hsucc
            have hhe' : decide (hi < 1000000) = false := by simpa using hhe
            by_cases hle : f ≤ 1000000
            · rw [if_pos hle] at hsucc
              obtain ⟨D, hD⟩ : ∃ D, (1000000 - f) / y = D := ⟨_, rfl⟩
              have hD0 : 0 ≤ D := by rw [← hD]; exact Int.ediv_nonneg (by omega) (by omega)
              rw [hD] at hsucc
              have hle' : decide (f ≤ 1000000) = true := by simpa using hle
              have hD2 : D ≤ 1000000 := by omega
              have HSU := Lib.hid hsucc
              clear hsucc
              go_wp2_with fail
              go_roundw
              case rel => exact ⟨k + 1, by omega, by rw [HS1.out, HSU.out, ← Int.add_assoc], by go_num, Lib.hid (by first | exact hS.out | exact bel_drawn hS.out _)⟩
              case measure => simp [intOf]; omega
            · rw [if_neg hle] at hsucc
              have hle' : decide (f ≤ 1000000) = false := by simpa using hle
              exact absurd hEge hle
    · obtain rfl : k = n := by omega
      go_wp2_with fail
      go_ret
      exact ⟨rfl, hS.out⟩
end Go.Proofs.YtihdebgofjacpaaDoor
