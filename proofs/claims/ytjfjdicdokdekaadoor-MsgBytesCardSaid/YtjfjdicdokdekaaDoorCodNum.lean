/- Contracts of the landed codec's unsigned, signed, number. -/
import Derived.Test.YtjfjdicdokdekaaDoorBy
import Derived.Test.YtjfjdicdokdekaaDoorCodMath
import Derived.Laws.BitsAllLaws
namespace Go.Proofs.YtjfjdicdokdekaaDoor
open Go.RowKit Go.Mem1 Go.CodMath

theorem ret_int {k : IntKind} {a b : Int} (h : a = b) : Ending.returned (.int k a) = .returned (.int k b) := by rw [h]
theorem xor_all {m : Nat} (h : m < 18446744073709551616) : 18446744073709551615 ^^^ m = 18446744073709551615 - m := by
  have h1 := BitVec.toNat_not (x := BitVec.ofNat 64 m)
  rw [BitVec.not_def, BitVec.toNat_xor, BitVec.toNat_allOnes, BitVec.toNat_ofNat, Nat.mod_eq_of_lt h] at h1
  simpa using h1
theorem not_u64 {m : Nat} (h : m < 18446744073709551616) : bits .xor .u64 IntKind.u64.max (m : Int) = ((18446744073709551615 - m : Nat) : Int) := by
  have := u64_xor_nat 18446744073709551615 m (by omega) h
  rw [xor_all h] at this
  exact this
theorem wrap_u64 (x : Int) : IntKind.u64.wrap x = x % 18446744073709551616 := rfl
theorem zz_neg {n : Int} (h0 : -9223372036854775808 ≤ n) (h : n < 0) : bits .xor .u64 IntKind.u64.max (IntKind.u64.wrap (IntKind.u64.wrap n * 2)) = (zz n : Int) := by
  rw [wrap_u64, wrap_u64]
  obtain ⟨m, hm⟩ := Int.eq_ofNat_of_zero_le (show 0 ≤ n % 18446744073709551616 * 2 % 18446744073709551616 by omega)
  rw [hm, not_u64 (by omega)]
  unfold zz
  rw [if_pos h]
  omega
theorem zz_pos {n : Int} (h : 0 ≤ n) : n * 2 = (zz n : Int) := by
  unfold zz
  rw [if_neg (by omega)]
  omega
set_option maxHeartbeats 400000 in
theorem unsigned_any (n : Int) (w : World) (h0 : -9223372036854775808 ≤ n) (h1 : n ≤ 9223372036854775807) :
    Calls Tryd.prog 85 #[.int .i64 n] w fun e w' => e = .returned (.int .u64 (zz n : Int)) ∧ w = w' := by
  by_cases hn : n < 0
  · go_enter Tryd.func85, Tryd.ntmps85
    go_wp2
    go_ret
    exact ⟨ret_int (zz_neg h0 hn), rfl⟩
  · go_enter Tryd.func85, Tryd.ntmps85
    go_wp2
    go_ret
    exact ⟨ret_int (zz_pos (by omega)), rfl⟩

theorem and1_u64 {u : Nat} (h : u < 18446744073709551616) : bits .and .u64 (u : Int) 1 = ((u % 2 : Nat) : Int) := by
  have := u64_and_nat u 1 h (by omega)
  rw [Nat.and_one_is_mod] at this
  exact this
theorem ofInt_nat {m : Nat} (h : m < 9223372036854775808) : (BitVec.ofInt 64 (m : Int)).toNat = m := by
  rw [BitVec.ofInt_natCast, BitVec.toNat_ofNat, Nat.mod_eq_of_lt (by omega)]
theorem not_i64 {m : Nat} (h : m < 9223372036854775808) : bits .xor .i64 (-1) (m : Int) = -(m : Int) - 1 := by
  show IntKind.i64.wrap ((BitVec.ofInt 64 (-1) ^^^ BitVec.ofInt 64 (m : Int)).toNat : Int) = _
  rw [BitVec.toNat_xor, ofInt_nat h, show (BitVec.ofInt 64 (-1)).toNat = 18446744073709551615 from rfl, xor_all (by omega), IntKind.wrap_i64]
  omega
set_option maxHeartbeats 400000 in
theorem signed_any (u : Nat) (w : World) (h : u < 18446744073709551616) :
    Calls Tryd.prog 89 #[.int .u64 (u : Int)] w fun e w' => e = .returned (.int .i64 (unz u)) ∧ w = w' := by
  have ha := and1_u64 h
  by_cases h1 : u % 2 = 1
  · have ht : (bits .and .u64 (u : Int) 1 == 1) = true := by rw [ha, h1]; rfl
    have H := Lib.hid h1; clear h1 ha
    go_enter Tryd.func89, Tryd.ntmps89
    go_wp2
    go_ret
    refine ⟨ret_int ?_, rfl⟩
    have := not_i64 (m := u / 2) (by omega)
    have e : ((u / 2 : Nat) : Int) = (u : Int) / 2 := by omega
    rw [← e, this]
    unfold unz
    rw [if_pos H.out]
  · have ht : (bits .and .u64 (u : Int) 1 == 1) = false := by rw [ha, show u % 2 = 0 by omega]; rfl
    have H := Lib.hid h1; clear h1 ha
    go_enter Tryd.func89, Tryd.ntmps89
    go_wp2
    go_ret
    refine ⟨ret_int ?_, rfl⟩
    unfold unz
    rw [if_neg H.out]
    omega

theorem mask7 (c : Nat) : c &&& 127 = c % 128 := Nat.and_two_pow_sub_one_eq_mod c 7
theorem low7 {c : Nat} (h : c < 256) : bits .andNot .u8 (c : Int) 128 = ((c % 128 : Nat) : Int) := by
  have := u8_andNot_nat c 128 h (by omega)
  rw [show 255 - 128 = 127 from rfl, mask7] at this
  exact this
/-- A number in front of which nothing stands yet, and what stands: they share no bit. -/
theorem or_shift {a x i : Nat} (ha : a < 128 ^ i) : a ||| x * 128 ^ i = a + x * 128 ^ i := by
  have e : (128 : Nat) ^ i = 2 ^ (7 * i) := by rw [Nat.pow_mul]
  rw [e] at ha ⊢
  rw [Nat.mul_comm x, Nat.or_comm, ← Nat.two_pow_add_eq_or_of_lt ha, Nat.add_comm]
/-- The slot u of number behind its i-th byte. -/
theorem join7 {a c i : Nat} (ha : a < 128 ^ i) (h : a + c * 128 ^ i < 18446744073709551616) :
    bits .or .u64 (a : Int) ((c : Int) * 2 ^ (7 * i) ) = ((a + c * 128 ^ i : Nat) : Int) := by
  have := u64_or_nat a (c * 128 ^ i) (by omega) (by omega)
  rw [or_shift ha] at this
  rw [← this]
  congr 1
  rw [show (128 : Nat) ^ i = 2 ^ (7 * i) by rw [Nat.pow_mul]]
  simp

/-- What the round's sum is: the slot u behind this byte. -/
theorem slot_u {X a k : Nat} (ha : a < 128 ^ k) (hX : X < 256) (h : a + X % 128 * 128 ^ k < 18446744073709551616) :
    bits .or .u64 (a : Int) (IntKind.u64.wrap (IntKind.u64.wrap (bits .andNot .u8 (X : Int) 128) * 2 ^ (7 * k))) = ((a + X % 128 * 128 ^ k : Nat) : Int) := by
  rw [low7 hX, wrap_u64, wrap_u64, ← join7 ha h]
  congr 1
  have e : ((X % 128 : Nat) : Int) * 2 ^ (7 * k) = ((X % 128 * 128 ^ k : Nat) : Int) := by
    rw [show (128 : Nat) ^ k = 2 ^ (7 * k) by rw [Nat.pow_mul]]
    simp
  rw [show ((X % 128 : Nat) : Int) % 18446744073709551616 = ((X % 128 : Nat) : Int) by omega, e]
  omega
def NumRet (l : List Nat) (e : Ending) : Prop := e = .returned (.tuple #[.int .i64 (if (num l).2.2 = 0 then unz (num l).1 else 0), .int .i64 ((num l).2.1 : Int), .int .i64 ((num l).2.2 : Int)])
theorem numRet_bad {l : List Nat} {e : Nat} (h : num l = (0, 0, e)) (he : e ≠ 0) : NumRet l (.returned (.tuple #[.int .i64 0, .int .i64 0, .int .i64 (e : Int)])) := by
  unfold NumRet
  rw [h, if_neg he]
  rfl
theorem numRet_ok {l : List Nat} {u k : Nat} (h : num l = (u, k + 1, 0)) : NumRet l (.returned (.tuple #[.int .i64 (unz u), .int .i64 ((k : Int) + 1), .int .i64 0])) := by
  unfold NumRet
  rw [h, if_pos rfl]
  rfl
theorem drop_step {l : List Nat} {k X : Nat} (h : l[k]? = some X) : l.drop k = X :: l.drop (k + 1) := by
  obtain ⟨hk, rfl⟩ := List.getElem?_eq_some_iff.1 h
  exact List.drop_eq_getElem_cons hk
set_option maxRecDepth 100000 in
set_option maxHeartbeats 1000000 in
theorem number_any (A : Option Addr) (n c : Nat) (l : List Nat) (w : World) (B : Nat) (hn : n ≤ 100000000) (h : Byt w B A n l) :
    Calls Tryd.prog 75 #[.slice A n c] w fun e w' => NumRet l e ∧ w = w' := by
  have H := Lib.hid h; clear h
  go_enter Tryd.func75, Tryd.ntmps75
  go_wp2
  go_loop [5, 10] (fun v5 v10 => ∃ k a : Nat, k ≤ n ∧ k ≤ 9 ∧ a < 128 ^ k ∧ v10 = .int .i64 k ∧ v5 = .int .u64 (a : Int) ∧ num l = numAt k a (l.drop k)) (fun _ v10 => n - (intOf v10).toNat)
  case atStart => exact ⟨0, 0, by omega, by omega, by simp, rfl, rfl, rfl⟩
  case round =>
    obtain ⟨k, a, hk, hk9, ha, rfl, rfl, hnum⟩ := hrel
    by_cases hlt : k < n
    · obtain ⟨b, off, X, rfl, hbw, hX, hlk, hck⟩ := H.out.at_ hlt
      rw [drop_step hlk, numAt] at hnum
      by_cases hbad : (0 < k ∧ X = 0) ∨ (k = 9 ∧ 1 < X)
      · rw [if_pos hbad] at hnum
        have HN := Lib.hid hnum; clear hnum
        clear hlk ha
        have t0 : 0 < k := by omega
        by_cases hX0 : X = 0
        · have t1 : ((X : Int) == 0) = true := by simp; omega
          clear hbad hX0
          go_wp2_with fail
          all_goals go_ret3
          all_goals exact ⟨numRet_bad HN.out (by decide), rfl⟩
        · have t1 : ((X : Int) == 0) = false := by simp; omega
          have t2 : ((k : Int) == 9) = true := by simp; omega
          have t3 : (1 : Int) < (X : Int) := by omega
          clear hbad hX0
          go_wp2_with fail
          all_goals go_ret3
          all_goals exact ⟨numRet_bad HN.out (by decide), rfl⟩
      · rw [if_neg hbad] at hnum
        have hu : a + X % 128 * 128 ^ k < 18446744073709551616 := by
          have hp : (128 : Nat) ^ k ≤ 128 ^ 9 := Nat.pow_le_pow_right (by omega) hk9
          have h9 : (128 : Nat) ^ 9 = 9223372036854775808 := pow9
          rcases Nat.lt_or_ge k 9 with h | h
          · have : (128 : Nat) ^ (k + 1) ≤ 128 ^ 9 := Nat.pow_le_pow_right (by omega) (by omega)
            rw [Nat.pow_succ] at this
            have : X % 128 * 128 ^ k ≤ 127 * 128 ^ k := Nat.mul_le_mul_right _ (by omega)
            omega
          · have : X % 128 * 128 ^ k ≤ 1 * 128 ^ k := Nat.mul_le_mul_right _ (by omega)
            omega
        have hs := Lib.hid (slot_u ha hX hu)
        have HU := Lib.hid hu
        have ha2 : a + X % 128 * 128 ^ k < 128 ^ (k + 1) := by
          rw [Nat.pow_succ]
          have : X % 128 * 128 ^ k ≤ 127 * 128 ^ k := Nat.mul_le_mul_right _ (by omega)
          omega
        have HA := Lib.hid ha2
        clear ha2 hu ha hlk
        by_cases hc : X < 128
        · rw [if_pos hc] at hnum
          have hx : X % 128 = X := Nat.mod_eq_of_lt hc
          rw [hx] at hs HU
          have HN := Lib.hid hnum
          have t4 : (X : Int) < 128 := by omega
          clear hnum hx
          by_cases h0 : 0 < k
          · have t1 : ((X : Int) == 0) = false := by simp; omega
            by_cases h9 : k = 9
            · have t2 : ((k : Int) == 9) = true := by simp; omega
              have t3 : ¬ (1 : Int) < (X : Int) := by omega
              clear h9 hbad
              go_wp2_with fail
              rw [hs.out]
              refine (signed_any _ _ HU.out).mono ?_
              rintro e w' ⟨rfl, rfl⟩
              go_wp2_with fail
              go_ret3
              exact ⟨numRet_ok HN.out, rfl⟩
            · have t2 : ((k : Int) == 9) = false := by simp; omega
              clear h9 hbad
              go_wp2_with fail
              rw [hs.out]
              refine (signed_any _ _ HU.out).mono ?_
              rintro e w' ⟨rfl, rfl⟩
              go_wp2_with fail
              go_ret3
              exact ⟨numRet_ok HN.out, rfl⟩
          · have t2 : ((k : Int) == 9) = false := by simp; omega
            clear hbad
            go_wp2_with fail
            rw [hs.out]
            refine (signed_any _ _ HU.out).mono ?_
            rintro e w' ⟨rfl, rfl⟩
            go_wp2_with fail
            go_ret3
            exact ⟨numRet_ok HN.out, rfl⟩
        · rw [if_neg hc] at hnum
          have hx : X - 128 = X % 128 := by omega
          rw [hx] at hnum
          have HN := Lib.hid hnum
          have t4 : ¬ (X : Int) < 128 := by omega
          clear hnum hx
          have hk8 : k ≤ 8 := by omega
          have t2 : ((k : Int) == 9) = false := by simp; omega
          by_cases h0 : 0 < k
          · have t1 : ((X : Int) == 0) = false := by simp; omega
            clear hbad
            go_wp2_with fail
            go_round
            case rel => exact ⟨k + 1, a + X % 128 * 128 ^ k, by omega, by omega, HA.out, by go_num, by rw [hs.out], HN.out⟩
            case measure => simp [intOf]; omega
          · clear hbad
            go_wp2_with fail
            go_round
            case rel => exact ⟨k + 1, a + X % 128 * 128 ^ k, by omega, by omega, HA.out, by go_num, by rw [hs.out], HN.out⟩
            case measure => simp [intOf]; omega
    · have hd : l.drop k = [] := List.drop_eq_nil_of_le (by have := H.out.len; omega)
      rw [hd, numAt] at hnum
      have HN := Lib.hid hnum; clear hnum hd ha
      go_wp2_with fail
      all_goals go_ret3
      all_goals exact ⟨numRet_bad HN.out (by decide), rfl⟩
end Go.Proofs.YtjfjdicdokdekaaDoor
