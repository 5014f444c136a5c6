/- The reference's Text of every number: Lib.itoa. -/
import Derived.Test.YtegfionpeimecaaDoorTxt
import Derived.Lib.ItoaNum
import Derived.Lib.ItoaLen
import Derived.Lib.ItoaMem
namespace Go.Proofs.YtegfionpeimecaaDoor
open Go.RowKit Go.Mem1

theorem ret_u64 {a b : Int} (h : a = b) : Ending.returned (.int .u64 a) = .returned (.int .u64 b) := by rw [h]
theorem refSize_all (n : Int) (w : World) (h0 : -9223372036854775808 ≤ n) (h1 : n ≤ 9223372036854775807) : Calls Tryd.prog 44 #[.int .i64 n] w fun e w' => e = .returned (.int .u64 (n.natAbs : Int)) ∧ w = w' := by
  by_cases hn : n < 0
  · have e : -(n + 1) + 1 = (n.natAbs : Int) := by omega
    go_enter Tryd.func44, Tryd.ntmps44
    go_wp2
    go_ret
    exact ⟨rfl, rfl⟩
  · have e : n = (n.natAbs : Int) := by omega
    have E := Lib.hid e
    clear e
    go_enter Tryd.func44, Tryd.ntmps44
    go_wp2
    go_ret
    exact ⟨ret_u64 E.out, rfl⟩
/-- What stands ahead of the last digit. -/
def pre (u : Nat) : List UInt8 := if u < 10 then [] else Lib.decDigits (u / 10)
theorem dec_pre (u : Nat) : Lib.decDigits u = pre u ++ [UInt8.ofNat (48 + u % 10)] := by
  unfold pre
  rw [Lib.decDigits]
  split
  · rename_i h
    rw [Nat.mod_eq_of_lt h]; rfl
  · rfl
theorem pre_small {u : Nat} (h : u < 10) : pre u = [] := if_pos h
theorem pre_big {u : Nat} (h : ¬ u < 10) : pre u = Lib.decDigits (u / 10) := if_neg h
def sl (l : List UInt8) : ByteArray := ⟨l.toArray⟩
theorem one_app (c : UInt8) (l : List UInt8) : (⟨#[c]⟩ : ByteArray) ++ sl l = sl (c :: l) := by
  apply ByteArray.ext
  rw [ByteArray.data_append]
  simp [sl]
theorem dg_app (x : Nat) (l : List UInt8) : dg x ++ sl l = sl (UInt8.ofNat (48 + x) :: l) := one_app _ l
theorem ret_str {a b : ByteArray} (h : a = b) : Ending.returned (.string a) = .returned (.string b) := by rw [h]
theorem sl_size (l : List UInt8) : (sl l).size = l.length := rfl
theorem dec_len {u : Nat} (h : u ≤ 9223372036854775808) : (Lib.decDigits u).length ≤ 21 := by
  rcases Nat.lt_or_ge u 9223372036854775808 with h1 | h1
  · have := Lib.itoa_length_le (u : Int) (by omega) (by omega)
    rw [Lib.itoa_nonneg] at this; exact this
  · obtain rfl : u = 9223372036854775808 := by omega
    have := Lib.itoa_length_le (-((9223372036854775808 : Nat) : Int)) (by omega) (by omega)
    rw [Lib.itoa_neg _ (by omega)] at this
    simp only [List.length_cons] at this
    omega

def TextLoop (w : World) (U : Nat) (v3 v4 : Value) (wr : World) : Prop := ∃ (u : Nat) (l : List UInt8), u ≤ 9223372036854775808 ∧ v3 = .int .u64 (u : Int) ∧ v4 = .string (sl l) ∧ Lib.decDigits U = pre u ++ l ∧ Below w.heap.size w wr
set_option maxRecDepth 100000 in
set_option maxHeartbeats 2000000 in
theorem refText_all (n : Int) (w : World) (h0 : -9223372036854775808 ≤ n) (h1 : n ≤ 9223372036854775807) :
    Calls Tryd.prog 33 #[.int .i64 n] w fun e w' => e = .returned (.string (sl (Lib.itoa n))) ∧ Below w.heap.size w w' := by
  have cd := conv_dg
  obtain ⟨U, hU⟩ : ∃ U, U = n.natAbs := ⟨_, rfl⟩
  have hUb : U ≤ 9223372036854775808 := by omega
  have hlen := dec_len hUb
  have cS := refSize_all n w h0 h1
  rw [← hU] at cS
  have hr : U % 10 < 10 := Nat.mod_lt _ (by omega)
  have c1 := cd w (U % 10) _ rfl hr
  have e3 : (U : Int) % 10 = ((U % 10 : Nat) : Int) := by omega
  have hst : Lib.decDigits U = pre U ++ [UInt8.ofNat (48 + U % 10)] := dec_pre U
  have hdg : dg (U % 10) = sl [UInt8.ofNat (48 + U % 10)] := rfl
  rw [hdg] at c1
  have HU := Lib.hid hU
  have HST := Lib.hid hst
  have CS := Lib.hid cS
  have HLEN := Lib.hid hlen
  generalize U % 10 = r0 at *
  clear hU hst cS hdg hlen
  go_enter Tryd.func33, Tryd.ntmps33
  go_wp2_with fail
  refine CS.out.mono ?_
  rintro e w1 ⟨rfl, rfl⟩
  go_wp2_with fail
  go_loopw [3, 4] (fun v3 v4 wr => TextLoop w U v3 v4 wr) (fun v3 _ _ => (intOf v3).toNat)
  case atStart => exact ⟨U, _, hUb, rfl, rfl, HST.out, bel_new _ _⟩
  case round =>
    obtain ⟨u, l, hub, rfl, rfl, hdec, hb⟩ := hrel
    have hl : l.length ≤ 21 := by
      have h1 := congrArg List.length hdec
      have h2 := HLEN.out
      rw [List.length_append] at h1; omega
    have HD := Lib.hid hdec
    clear hdec
    by_cases hu : u < 10
    · have t1 : decide ((10 : Int) ≤ (u : Int)) = false := by simp; omega
      by_cases hn : n < 0
      · have q1 : ¬ 9223372036854775807 < 1 + (sl l).size := by rw [sl_size]; omega
        have z1 : (⟨#[45]⟩ : ByteArray).size = 1 := rfl
        go_wp2_with fail
        go_ret
        exact ⟨ret_str (by
          have hl2 : Lib.decDigits U = l := by rw [HD.out, pre_small hu]; rfl
          unfold Lib.itoa
          rw [if_pos hn, ← HU.out, hl2]
          exact one_app 45 l), hb⟩
      · go_wp2_with fail
        go_ret
        exact ⟨ret_str (by
          have hl2 : Lib.decDigits U = l := by rw [HD.out, pre_small hu]; rfl
          unfold Lib.itoa
          rw [if_neg (by omega), show n.toNat = U by have := HU.out; omega, hl2]), hb⟩
    · have t1 : decide ((10 : Int) ≤ (u : Int)) = true := by simp; omega
      have e1 : (u : Int) / 10 = ((u / 10 : Nat) : Int) := by omega
      have e2 : ((u / 10 : Nat) : Int) % 10 = ((u / 10 % 10 : Nat) : Int) := by omega
      have hr2 : u / 10 % 10 < 10 := Nat.mod_lt _ (by omega)
      have c2 := cd wr (u / 10 % 10) _ rfl hr2
      have hst2 : pre u = pre (u / 10) ++ [UInt8.ofNat (48 + u / 10 % 10)] := by rw [pre_big hu, dec_pre]
      have hap := dg_app (u / 10 % 10) l
      have HS2 := Lib.hid hst2
      have HAP := Lib.hid hap
      have s1 : (dg (u / 10 % 10)).size = 1 := rfl
      have s2 : (sl l).size = l.length := rfl
      have hult : u / 10 < u := by omega
      have hub2 : u / 10 ≤ 9223372036854775808 := by omega
      clear hst2 hap c1 cd
      generalize u / 10 % 10 = r2 at *
      generalize u / 10 = u2 at *
      have q1 : ¬ 9223372036854775807 < 1 + l.length := by omega
      go_wp2_with fail
      go_roundw
      case rel => exact ⟨u2, UInt8.ofNat (48 + r2) :: l, hub2, rfl, by rw [HAP.out], by rw [HD.out, HS2.out, List.append_assoc]; rfl, bel_alloc hb _⟩
      case measure => simp [intOf]; omega
end Go.Proofs.YtegfionpeimecaaDoor
