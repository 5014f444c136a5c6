/- Contract of the reference's Sum: the sum of a row of bytes; the world is as it was. -/
import Derived.Test.YtjfjdicdokdekaaDoorFByt
namespace Go.Proofs.YtjfjdicdokdekaaDoor
open Go.RowKit Go.Mem1
set_option maxHeartbeats 400000 in
theorem refSum_any (A : Option Addr) (n c : Nat) (l : List Nat) (w : World) (B : Nat) (hn : n ≤ 140737488355328) (h : Byt w B A n l) :
    Calls Tryd.prog 59 #[.slice A n c] w fun e w' => e = .returned (.int .u32 (sumOf l : Nat)) ∧ w = w' := by
  have H := Lib.hid h; clear h
  go_enter Tryd.func59, Tryd.ntmps59
  go_wp2
  go_loop [3, 4] (fun v3 v4 => ∃ k : Nat, k ≤ n ∧ v4 = .int .i64 k ∧ v3 = .int .u32 ((CrcMath.fold 4294967295 (l.take k) : Nat) : Int)) (fun _ v4 => n - (intOf v4).toNat)
  case atStart => exact ⟨0, Nat.zero_le _, rfl, rfl⟩
  case round =>
    obtain ⟨k, hk, rfl, rfl⟩ := hrel
    by_cases hlt : k < n
    · obtain ⟨b, off, X, rfl, hbw, hX, hlk, hck⟩ := H.out.at_ hlt
      have hstep := fold_take_step 4294967295 l k X hlk
      have hF := fold_take_lt l H.out.bnd k
      generalize CrcMath.fold 4294967295 (l.take k) = F at *
      have HS := Lib.hid hstep; clear hstep
      have HL := Lib.hid hlk; clear hlk
      go_wp2
      rw [u32_xor_nat F X (by omega) (by omega)]
      have hFX : F ^^^ X < 4294967296 := Nat.xor_lt_two_pow (n := 32) hF (by omega)
      generalize F ^^^ X = G at *
      go_loop [3, 5] (fun v3 v5 => ∃ j : Nat, j ≤ 8 ∧ v5 = .int .i64 j ∧ v3 = .int .u32 ((CrcMath.iter j G : Nat) : Int)) (fun _ v5 => 8 - (intOf v5).toNat)
      case atStart => exact ⟨0, Nat.zero_le _, rfl, rfl⟩
      case round =>
        obtain ⟨j, hj, rfl, rfl⟩ := hrel
        by_cases hj8 : j < 8
        · have hG : CrcMath.iter j G < 4294967296 := CrcMath.iter_lt hFX
          have HI := Lib.hid (iter_succ' j G)
          generalize CrcMath.iter j G = I at *
          by_cases hodd : I % 2 = 1
          · have ht := odd_true hG hodd
            have hs := step_odd hodd
            have HO := Lib.hid hodd; clear hodd
            have HS2 := Lib.hid hs; clear hs
            go_wp2
            go_round
            case rel => exact ⟨j + 1, by omega, by go_num, by rw [HI.out, HS2.out, xor_P hG]⟩
            case measure => simp [intOf]; omega
          · have ht := odd_false hG hodd
            have hs := step_even hodd
            have HO := Lib.hid hodd; clear hodd
            have HS2 := Lib.hid hs; clear hs
            go_wp2
            go_round
            case rel => exact ⟨j + 1, by omega, by go_num, by rw [HI.out, HS2.out]; rfl⟩
            case measure => simp [intOf]; omega
        · obtain rfl : j = 8 := by omega
          go_wp2
          go_round
          case rel => exact ⟨k + 1, by omega, by go_num, by rw [HS.out]⟩
          case measure => simp [intOf]; omega
    · have hk' : k = n := by omega
      have hx : CrcMath.fold 4294967295 (l.take k) = CrcMath.fold 4294967295 l := by rw [hk', List.take_of_length_le (by have := H.out.len; omega)]
      have hlt2 : CrcMath.fold 4294967295 l < 4294967296 := by rw [← hx]; exact fold_take_lt l H.out.bnd k
      rw [hx]
      have HX := Lib.hid hx; clear hx
      have HK := Lib.hid hk'; clear hk'
      go_wp2
      go_ret
      exact ⟨by rw [not_u32 hlt2]; rfl, rfl⟩
end Go.Proofs.YtjfjdicdokdekaaDoor
