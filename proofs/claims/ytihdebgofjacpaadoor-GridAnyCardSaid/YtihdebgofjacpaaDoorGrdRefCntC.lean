/- The reference's Count, of tables that may be. -/
import Derived.Test.YtihdebgofjacpaaDoorGrdRef
set_option linter.unusedSimpArgs false
namespace Go.Proofs.YtihdebgofjacpaaDoor
open Go.RowKit Go.Mem1 Go.GridMath

set_option maxRecDepth 100000 in
set_option maxHeartbeats 8000000 in
theorem rcount_c (A : Option Addr) (n c : Nat) (l : List Stp) (lo hi : Int) (w : World) (h : TabAt w w.heap.size A n l) (ho : chk l = none) (hlo : lo < 1) (hhi : hi ≤ 1000000) (hab : (1 : Int) ≤ hi) :
    Calls Tryd.prog 18 #[.slice A n c, .int .i64 lo, .int .i64 hi] w fun e w' => e = .returned (.int .i64 (sumK l 1 hi n)) ∧ Below w.heap.size w w' := by
  have HW := Lib.hid (of_chk ho).2.2
  have HL := Lib.hid h.len
  have hn8 : n ≤ 8 := by have := (of_chk ho).2.1; have := h.len; omega
  have H := Lib.hid h
  have q1 : decide (lo < 1) = true := by simp; omega
  have q2 : decide (1000000 < hi) = false := by simp; omega
  have q3 : decide ((hi : Int) < 1) = false := by first | decide | (simp; omega)
  clear h ho
  go_enter Tryd.func18, Tryd.ntmps18
  go_wp2_with fail
  go_loopw [7, 8] (fun v7 v8 wr => ∃ k : Nat, k ≤ n ∧ v7 = .int .i64 (sumK l 1 hi k) ∧ v8 = .int .i64 k ∧ Hid (Below w.heap.size w wr)) (fun _ v8 _ => n - (intOf v8).toNat)
  case atStart => exact ⟨0, by omega, by rw [sumK_zero], rfl, Lib.hid (Below.refl _ _)⟩
  case round =>
    obtain ⟨k, hk, rfl, rfl, hS⟩ := hrel
    by_cases hlt : k < n
    · obtain ⟨b, off, s, rfl, hb, hs, y0, y1⟩ := (H.out.carry hS.out).get hlt
      obtain ⟨f, y⟩ := s
      dsimp only at y0 y1
      have hfine := fine_at k (fun i hi => HW.out i (by rw [HL.out]; omega))
      rw [hs] at hfine
      obtain ⟨m1, m2, m3, m4⟩ := hfine
      dsimp only [Option.getD_some] at m1 m2 m3 m4
      have hsucc := sumK_succ (lo := 1) (hi := hi) HW.out hs m2 m3 hab
      have hbk := sumK_bound (lo := 1) (hi := hi) HW.out (k := k) (by rw [HL.out]; omega) hab (by omega)
      have hbk1 := sumK_bound (lo := 1) (hi := hi) HW.out (k := k + 1) (by rw [HL.out]; omega) hab (by omega)
      have hEge := endAt_ge HW.out hs m2
      obtain ⟨E, hE⟩ : ∃ E, endAt l (k + 1) = E := ⟨_, rfl⟩
      rw [hE] at hEge hsucc
      obtain ⟨Sk, hSk⟩ : ∃ S, sumK l 1 hi k = S := ⟨_, rfl⟩
      obtain ⟨S1, hS1⟩ : ∃ S, sumK l 1 hi (k + 1) = S := ⟨_, rfl⟩
      rw [hSk] at hbk hsucc
      rw [hS1] at hbk1 hsucc
      rw [hSk]
      have HS1 := Lib.hid hS1
      clear hSk hS1
      obtain ⟨hbk, hbk'⟩ := hbk
      obtain ⟨hbk1, hbk1'⟩ := hbk1
      obtain ⟨hEge, hEle⟩ := hEge
      dsimp only at hEge
      unfold addS fromS at hsucc
      have a1 : (0 : Int) ≤ (k : Int) := by omega
      have a2 : (k : Int) < (n : Int) := by omega
      by_cases hk1 : k + 1 < n
      · obtain ⟨b', off', t, e', hb', ht, z0, z1⟩ := (H.out.carry hS.out).get hk1
        injection e' with e'
        injection e' with e1' e2' e3'
        subst e1'; subst e2'
        clear e3'
        obtain ⟨g, v⟩ := t
        dsimp only at z0 z1
        have a3 : decide ((k : Int) + 1 < (n : Int)) = true := by simp; omega
        have a4 : (k : Int) + 1 < (n : Int) := by omega
        have hEg : E = g - 1 := by rw [← hE]; unfold endAt; rw [ht]
        subst hEg
        clear hE ht hs hb' z1
        have hfl : ¬ f < 1 := by omega
        rw [if_neg hfl] at hsucc
        have hfl' : decide (f < 1) = false := by simpa using hfl
        by_cases hhe : hi < (g - 1)
        · rw [show min hi (g - 1) = hi by omega] at hsucc
          have hhe' : decide (hi < (g - 1)) = true := by simpa using hhe
          by_cases hle : f ≤ hi
          · rw [if_pos hle] at hsucc
            obtain ⟨D, hD⟩ : ∃ D, (hi - f) / y = D := ⟨_, rfl⟩
            have hD0 : 0 ≤ D := by rw [← hD]; exact Int.ediv_nonneg (by omega) (by omega)
            rw [hD] at hsucc
            have hle' : decide (f ≤ hi) = true := by simpa using hle
            have hD2 : D ≤ 1000000 := by omega
            have HSU := Lib.hid hsucc
            clear hsucc
            go_wp2_with fail
            go_roundw
            case rel => exact ⟨k + 1, by omega, by rw [HS1.out, HSU.out, ← Int.add_assoc], by go_num, Lib.hid (by first | exact hS.out | exact bel_drawn hS.out _)⟩
            case measure => simp [intOf]; omega
          · rw [if_neg hle] at hsucc
            have hle' : decide (f ≤ hi) = false := by simpa using hle
            have HSU := Lib.hid hsucc
            clear hsucc
            go_wp2_with fail
            go_roundw
            case rel => exact ⟨k + 1, by omega, by rw [HS1.out, HSU.out, Int.add_zero], by go_num, Lib.hid (by first | exact hS.out | exact bel_drawn hS.out _)⟩
            case measure => simp [intOf]; omega
        · rw [show min hi (g - 1) = (g - 1) by omega] at hsucc
          have hhe' : decide (hi < (g - 1)) = false := by simpa using hhe
          by_cases hle : f ≤ (g - 1)
          · rw [if_pos hle] at hsucc
            obtain ⟨D, hD⟩ : ∃ D, ((g - 1) - f) / y = D := ⟨_, rfl⟩
            have hD0 : 0 ≤ D := by rw [← hD]; exact Int.ediv_nonneg (by omega) (by omega)
            rw [hD] at hsucc
            have hle' : decide (f ≤ (g - 1)) = true := by simpa using hle
            have hD2 : D ≤ 1000000 := by omega
            have HSU := Lib.hid hsucc
            clear hsucc
            go_wp2_with fail
            go_roundw
            case rel => exact ⟨k + 1, by omega, by rw [HS1.out, HSU.out, ← Int.add_assoc], by go_num, Lib.hid (by first | exact hS.out | exact bel_drawn hS.out _)⟩
            case measure => simp [intOf]; omega
          · rw [if_neg hle] at hsucc
            have hle' : decide (f ≤ (g - 1)) = false := by simpa using hle
            exact absurd hEge hle
      · have a3 : decide ((k : Int) + 1 < (n : Int)) = false := by simp; omega
        have hEg : E = 1000000 := by rw [← hE]; unfold endAt; rw [List.getElem?_eq_none (by rw [HL.out]; omega)]
        subst hEg
        clear hE hs
        have hfl : ¬ f < 1 := by omega
        rw [if_neg hfl] at hsucc
        have hfl' : decide (f < 1) = false := by simpa using hfl
        by_cases hhe : hi < 1000000
        · rw [show min hi 1000000 = hi by omega] at hsucc
          have hhe' : decide (hi < 1000000) = true := by simpa using hhe
          by_cases hle : f ≤ hi
          · rw [if_pos hle] at hsucc
            obtain ⟨D, hD⟩ : ∃ D, (hi - f) / y = D := ⟨_, rfl⟩
            have hD0 : 0 ≤ D := by rw [← hD]; exact Int.ediv_nonneg (by omega) (by omega)
            rw [hD] at hsucc
            have hle' : decide (f ≤ hi) = true := by simpa using hle
            have hD2 : D ≤ 1000000 := by omega
            have HSU := Lib.hid hsucc
            clear hsucc
            go_wp2_with fail
            go_roundw
            case rel => exact ⟨k + 1, by omega, by rw [HS1.out, HSU.out, ← Int.add_assoc], by go_num, Lib.hid (by first | exact hS.out | exact bel_drawn hS.out _)⟩
            case measure => simp [intOf]; omega
          · rw [if_neg hle] at hsucc
            have hle' : decide (f ≤ hi) = false := by simpa using hle
            have HSU := Lib.hid hsucc
            clear hsucc
            go_wp2_with fail
            go_roundw
            case rel => exact ⟨k + 1, by omega, by rw [HS1.out, HSU.out, Int.add_zero], by go_num, Lib.hid (by first | exact hS.out | exact bel_drawn hS.out _)⟩
            case measure => simp [intOf]; omega
        · rw [show min hi 1000000 = 1000000 by omega] at hsucc
          have hhe' : decide (hi < 1000000) = false := by simpa using hhe
          by_cases hle : f ≤ 1000000
          · rw [if_pos hle] at hsucc
            obtain ⟨D, hD⟩ : ∃ D, (1000000 - f) / y = D := ⟨_, rfl⟩
            have hD0 : 0 ≤ D := by rw [← hD]; exact Int.ediv_nonneg (by omega) (by omega)
            rw [hD] at hsucc
            have hle' : decide (f ≤ 1000000) = true := by simpa using hle
            have hD2 : D ≤ 1000000 := by omega
            have HSU := Lib.hid hsucc
            clear hsucc
            go_wp2_with fail
            go_roundw
            case rel => exact ⟨k + 1, by omega, by rw [HS1.out, HSU.out, ← Int.add_assoc], by go_num, Lib.hid (by first | exact hS.out | exact bel_drawn hS.out _)⟩
            case measure => simp [intOf]; omega
          · rw [if_neg hle] at hsucc
            have hle' : decide (f ≤ 1000000) = false := by simpa using hle
            exact absurd hEge hle
    · obtain rfl : k = n := by omega
      go_wp2_with fail
      go_ret
      exact ⟨rfl, hS.out⟩
set_option maxRecDepth 100000 in
set_option maxHeartbeats 8000000 in
theorem rcount_d (A : Option Addr) (n c : Nat) (l : List Stp) (lo hi : Int) (w : World) (h : TabAt w w.heap.size A n l) (ho : chk l = none) (hlo : lo < 1) (hhi : 1000000 < hi) (hab : (1 : Int) ≤ 1000000) :
    Calls Tryd.prog 18 #[.slice A n c, .int .i64 lo, .int .i64 hi] w fun e w' => e = .returned (.int .i64 (sumK l 1 1000000 n)) ∧ Below w.heap.size w w' := by
  have HW := Lib.hid (of_chk ho).2.2
  have HL := Lib.hid h.len
  have hn8 : n ≤ 8 := by have := (of_chk ho).2.1; have := h.len; omega
  have H := Lib.hid h
  have q1 : decide (lo < 1) = true := by simp; omega
  have q2 : decide (1000000 < hi) = true := by simp; omega
  have q3 : decide ((1000000 : Int) < 1) = false := by first | decide | (simp; omega)
  clear h ho
  go_enter Tryd.func18, Tryd.ntmps18
  go_wp2_with fail
  go_loopw [7, 8] (fun v7 v8 wr => ∃ k : Nat, k ≤ n ∧ v7 = .int .i64 (sumK l 1 1000000 k) ∧ v8 = .int .i64 k ∧ Hid (Below w.heap.size w wr)) (fun _ v8 _ => n - (intOf v8).toNat)
  case atStart => exact ⟨0, by omega, by rw [sumK_zero], rfl, Lib.hid (Below.refl _ _)⟩
  case round =>
    obtain ⟨k, hk, rfl, rfl, hS⟩ := hrel
    by_cases hlt : k < n
    · obtain ⟨b, off, s, rfl, hb, hs, y0, y1⟩ := (H.out.carry hS.out).get hlt
      obtain ⟨f, y⟩ := s
      dsimp only at y0 y1
      have hfine := fine_at k (fun i hi => HW.out i (by rw [HL.out]; omega))
      rw [hs] at hfine
      obtain ⟨m1, m2, m3, m4⟩ := hfine
      dsimp only [Option.getD_some] at m1 m2 m3 m4
      have hsucc := sumK_succ (lo := 1) (hi := 1000000) HW.out hs m2 m3 hab
      have hbk := sumK_bound (lo := 1) (hi := 1000000) HW.out (k := k) (by rw [HL.out]; omega) hab (by omega)
      have hbk1 := sumK_bound (lo := 1) (hi := 1000000) HW.out (k := k + 1) (by rw [HL.out]; omega) hab (by omega)
      have hEge := endAt_ge HW.out hs m2
      obtain ⟨E, hE⟩ : ∃ E, endAt l (k + 1) = E := ⟨_, rfl⟩
      rw [hE] at hEge hsucc
      obtain ⟨Sk, hSk⟩ : ∃ S, sumK l 1 1000000 k = S := ⟨_, rfl⟩
      obtain ⟨S1, hS1⟩ : ∃ S, sumK l 1 1000000 (k + 1) = S := ⟨_, rfl⟩
      rw [hSk] at hbk hsucc
      rw [hS1] at hbk1 hsucc
      rw [hSk]
      have HS1 := Lib.hid hS1
      clear hSk hS1
      obtain ⟨hbk, hbk'⟩ := hbk
      obtain ⟨hbk1, hbk1'⟩ := hbk1
      obtain ⟨hEge, hEle⟩ := hEge
      dsimp only at hEge
      unfold addS fromS at hsucc
      have a1 : (0 : Int) ≤ (k : Int) := by omega
      have a2 : (k : Int) < (n : Int) := by omega
      by_cases hk1 : k + 1 < n
      · obtain ⟨b', off', t, e', hb', ht, z0, z1⟩ := (H.out.carry hS.out).get hk1
        injection e' with e'
        injection e' with e1' e2' e3'
        subst e1'; subst e2'
        clear e3'
        obtain ⟨g, v⟩ := t
        dsimp only at z0 z1
        have a3 : decide ((k : Int) + 1 < (n : Int)) = true := by simp; omega
        have a4 : (k : Int) + 1 < (n : Int) := by omega
        have hEg : E = g - 1 := by rw [← hE]; unfold endAt; rw [ht]
        subst hEg
        clear hE ht hs hb' z1
        have hfl : ¬ f < 1 := by omega
        rw [if_neg hfl] at hsucc
        have hfl' : decide (f < 1) = false := by simpa using hfl
        have hhe : ¬ (1000000 : Int) < (g - 1) := by omega
        rw [show min (1000000 : Int) (g - 1) = (g - 1) by omega] at hsucc
        have hhe' : decide ((1000000 : Int) < (g - 1)) = false := by first | decide | simpa using hhe
        by_cases hle : f ≤ (g - 1)
        · rw [if_pos hle] at hsucc
          obtain ⟨D, hD⟩ : ∃ D, ((g - 1) - f) / y = D := ⟨_, rfl⟩
          have hD0 : 0 ≤ D := by rw [← hD]; exact Int.ediv_nonneg (by omega) (by omega)
          rw [hD] at hsucc
          have hle' : decide (f ≤ (g - 1)) = true := by simpa using hle
          have hD2 : D ≤ 1000000 := by omega
          have HSU := Lib.hid hsucc
          clear hsucc
          go_wp2_with fail
          go_roundw
          case rel => exact ⟨k + 1, by omega, by rw [HS1.out, HSU.out, ← Int.add_assoc], by go_num, Lib.hid (by first | exact hS.out | exact bel_drawn hS.out _)⟩
          case measure => simp [intOf]; omega
        · rw [if_neg hle] at hsucc
          have hle' : decide (f ≤ (g - 1)) = false := by simpa using hle
          exact absurd hEge hle
      · have a3 : decide ((k : Int) + 1 < (n : Int)) = false := by simp; omega
        have hEg : E = 1000000 := by rw [← hE]; unfold endAt; rw [List.getElem?_eq_none (by rw [HL.out]; omega)]
        subst hEg
        clear hE hs
        have hfl : ¬ f < 1 := by omega
        rw [if_neg hfl] at hsucc
        have hfl' : decide (f < 1) = false := by simpa using hfl
        have hhe : ¬ (1000000 : Int) < 1000000 := by omega
        rw [show min (1000000 : Int) 1000000 = 1000000 by omega] at hsucc
        have hhe' : decide ((1000000 : Int) < 1000000) = false := by first | decide | simpa using hhe
        by_cases hle : f ≤ 1000000
        · rw [if_pos hle] at hsucc
          obtain ⟨D, hD⟩ : ∃ D, (1000000 - f) / y = D := ⟨_, rfl⟩
          have hD0 : 0 ≤ D := by rw [← hD]; exact Int.ediv_nonneg (by omega) (by omega)
          rw [hD] at hsucc
          have hle' : decide (f ≤ 1000000) = true := by simpa using hle
          have hD2 : D ≤ 1000000 := by omega
          have HSU := Lib.hid hsucc
          clear hsucc
          go_wp2_with fail
          go_roundw
          case rel => exact ⟨k + 1, by omega, by rw [HS1.out, HSU.out, ← Int.add_assoc], by go_num, Lib.hid (by first | exact hS.out | exact bel_drawn hS.out _)⟩
          case measure => simp [intOf]; omega
        · rw [if_neg hle] at hsucc
          have hle' : decide (f ≤ 1000000) = false := by simpa using hle
          exact absurd hEge hle
    · obtain rfl : k = n := by omega
      go_wp2_with fail
      go_ret
      exact ⟨rfl, hS.out⟩
end Go.Proofs.YtihdebgofjacpaaDoor
