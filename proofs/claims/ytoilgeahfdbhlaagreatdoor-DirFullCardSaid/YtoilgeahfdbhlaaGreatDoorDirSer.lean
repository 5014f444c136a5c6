/- Contracts of series' isDigit, isLetter, Good, letter, check, Check and num.In. -/
import Derived.Test.YtoilgeahfdbhlaaGreatDoorGrdMem
import Derived.Test.YtoilgeahfdbhlaaGreatDoorDirMath
set_option linter.unusedSimpArgs false
namespace Go.Proofs.YtoilgeahfdbhlaaGreatDoor
open Go.RowKit Go.Mem1 Go.DirMath

theorem rb {a b : Bool} (h : b = a) : Ending.returned (.bool a) = .returned (.bool b) := by rw [h]
theorem isDigit_any (c : UInt8) (w : World) :
    Calls Tryz.prog 78 #[.int .u8 (c.toNat : Int)] w fun e w' => e = .returned (.bool (isDig c)) ∧ w = w' := by
  have HK := Lib.hid (show isDig c = (decide (48 ≤ (c.toNat : Int)) && decide ((c.toNat : Int) ≤ 57)) from rfl)
  generalize isDig c = b at HK ⊢
  go_enter Tryz.func78, Tryz.ntmps78
  go_wp2_with fail
  all_goals
    go_ret
    exact ⟨rb (by rw [HK.out]; simp_all <;> omega), rfl⟩
theorem isLetter_any (c : UInt8) (w : World) :
    Calls Tryz.prog 79 #[.int .u8 (c.toNat : Int)] w fun e w' => e = .returned (.bool (isLet c)) ∧ w = w' := by
  have HK := Lib.hid (show isLet c = (decide (65 ≤ (c.toNat : Int)) && decide ((c.toNat : Int) ≤ 90)) from rfl)
  generalize isLet c = b at HK ⊢
  go_enter Tryz.func79, Tryz.ntmps79
  go_wp2_with fail
  all_goals
    go_ret
    exact ⟨rb (by rw [HK.out]; simp_all <;> omega), rfl⟩
theorem nIn_any (v lo hi : Int) (w : World) :
    Calls Tryz.prog 92 #[.int .i64 v, .int .i64 lo, .int .i64 hi] w fun e w' => e = .returned (.bool (decide (lo ≤ v ∧ v ≤ hi))) ∧ w = w' := by
  have HK := Lib.hid (show decide (lo ≤ v ∧ v ≤ hi) = (decide (lo ≤ v) && decide (v ≤ hi)) by rw [Bool.decide_and])
  generalize decide (lo ≤ v ∧ v ≤ hi) = b at HK ⊢
  go_enter Tryz.func92, Tryz.ntmps92
  go_wp2_with fail
  all_goals
    go_ret
    exact ⟨rb (by rw [HK.out]; simp_all <;> omega), rfl⟩
/-- A right's word. -/
def letB (r : Int) : ByteArray := if r = 2 then ⟨#[80]⟩ else if r = 1 then ⟨#[67]⟩ else ⟨#[]⟩
theorem letter_any (r : Int) (w : World) :
    Calls Tryz.prog 93 #[.int .i64 r] w fun e w' => e = .returned (.string (letB r)) ∧ w = w' := by
  by_cases h2 : r = 2
  · subst h2
    go_enter Tryz.func93, Tryz.ntmps93
    go_wp2_with fail
    go_ret
    exact ⟨rfl, rfl⟩
  · by_cases h1 : r = 1
    · subst h1
      go_enter Tryz.func93, Tryz.ntmps93
      go_wp2_with fail
      go_ret
      exact ⟨rfl, rfl⟩
    · have e : letB r = ⟨#[]⟩ := by unfold letB; rw [if_neg h2, if_neg h1]
      rw [e]
      clear e
      have k2 : (r == 2) = false := by simpa using h2
      have k1 : (r == 1) = false := by simpa using h1
      clear h1 h2
      go_enter Tryz.func93, Tryz.ntmps93
      go_wp2_with fail
      go_ret
      exact ⟨rfl, rfl⟩
theorem toList_nil {s : ByteArray} (h : s.size = 0) : s = ⟨#[]⟩ := by
  apply ByteArray.ext
  exact Array.eq_empty_of_size_eq_zero h
theorem all_take_succ {s : ByteArray} {k : Nat} (h : k < s.size) : (s.data.toList.take (k + 1)).all okCh = ((s.data.toList.take k).all okCh && okCh s[k]) := by
  rw [List.take_succ_eq_append_getElem (by simpa using h), List.all_append]
  simp only [List.all_cons, List.all_nil, Bool.and_true]
  rfl
/-- What Good answers behind its first test. -/
theorem good_zero {s : ByteArray} (h : 0 < s.size) : s.data.toList.headD 0 = s[0] := by
  obtain ⟨⟨l⟩⟩ := s
  cases l with
  | nil => simp [ByteArray.size] at h
  | cons c r => rfl
set_option maxRecDepth 100000 in
set_option maxHeartbeats 1000000 in
theorem good_any (s : ByteArray) (w : World) (hs : s.size ≤ 1000000) :
    Calls Tryz.prog 66 #[.string s] w fun e w' => e = .returned (.bool (goodB s)) ∧ w = w' := by
  have HK := Lib.hid (show goodB s = (decide (0 < s.size) && decide (s.size ≤ 8) && !isDig (s.data.toList.headD 0) && s.data.toList.all okCh) from rfl)
  generalize goodB s = b at HK ⊢
  by_cases h0 : s.size = 0
  · obtain rfl := toList_nil h0
    clear h0
    go_enter Tryz.func66, Tryz.ntmps66
    go_wp2_with fail
    go_ret
    exact ⟨rb (by rw [HK.out]; rfl), rfl⟩
  · have h3 : s.toList.isEmpty = false := by
      rw [List.isEmpty_eq_false_iff]
      intro e
      exact h0 (by rw [ByteArray.toList_eq] at e; obtain ⟨⟨l⟩⟩ := s; simp at e; simp [ByteArray.size, e])
    have h1 : ¬ s.toList = [] := fun e => h0 (by rw [ByteArray.toList_eq] at e; obtain ⟨⟨l⟩⟩ := s; simp at e; simp [ByteArray.size, e])
    have h2 : (!s.toList.isEmpty) = true := by simpa using h1
    by_cases h8 : 8 < s.size
    · have t8 : decide ((8 : Int) < (s.size : Int)) = true := by simp; omega
      go_enter Tryz.func66, Tryz.ntmps66
      go_wp2_with fail
      go_ret
      exact ⟨rb (by rw [HK.out, decide_eq_false (show ¬ s.size ≤ 8 by omega)]; simp), rfl⟩
    · have t8 : decide ((8 : Int) < (s.size : Int)) = false := by simp; omega
      have hp : 0 < s.size := by omega
      have HD := fun w' => isDigit_any s[0] w'
      have hz := good_zero hp
      rw [hz, decide_eq_true hp, decide_eq_true (show s.size ≤ 8 by omega)] at HK
      clear hz
      obtain ⟨D, hD⟩ : ∃ D, isDig s[0] = D := ⟨_, rfl⟩
      rw [hD] at HD HK
      have HDD := Lib.hid HD
      clear HD hD
      cases D with
      | true =>
        go_enter Tryz.func66, Tryz.ntmps66
        go_wp2_with (go_at_call 78; refine (HDD.out _).mono ?_; rintro e w' ⟨rfl, rfl⟩)
        go_ret
        exact ⟨rb (by rw [HK.out]; rfl), rfl⟩
      | false =>
        go_enter Tryz.func66, Tryz.ntmps66
        go_wp2_with (go_at_call 78; refine (HDD.out _).mono ?_; rintro e w' ⟨rfl, rfl⟩)
        go_loop [18] (fun i => ∃ k : Nat, k ≤ s.size ∧ i = .int .i64 k ∧ Hid ((s.data.toList.take k).all okCh = true)) (fun i => s.size - (intOf i).toNat)
        case atStart => exact ⟨0, Nat.zero_le _, rfl, Lib.hid (by simp)⟩
        case round =>
          obtain ⟨k, hk, rfl, hA⟩ := hrel
          by_cases hlt : k < s.size
          · have HX := Lib.hid (all_take_succ hlt)
            have D1 := fun w' => isDigit_any s[k] w'
            have L1 := fun w' => isLetter_any s[k] w'
            have HO := Lib.hid (show okCh s[k] = (isDig s[k] || isLet s[k]) from rfl)
            generalize okCh s[k] = ok at HX HO
            generalize isDig s[k] = dd at D1 HO
            generalize isLet s[k] = ll at L1 HO
            have D2 := Lib.hid D1
            have L2 := Lib.hid L1
            clear D1 L1
            have hbad : ok = false → b = false := fun h => by
              rw [HK.out]
              have : s.data.toList.all okCh = false := by
                rw [Bool.eq_false_iff]
                intro hall
                have h2 : (s.data.toList.take (k + 1)).all okCh = true := by
                  rw [List.all_eq_true] at hall ⊢
                  exact fun x hx => hall x (List.mem_of_mem_take hx)
                rw [HX.out, h] at h2
                simp at h2
              rw [this]; rfl
            have HB := Lib.hid hbad
            clear hbad
            cases dd <;> cases ll
            all_goals
              go_wp2_with (first | (go_at_call 78; refine (D2.out _).mono ?_; rintro e w' ⟨rfl, rfl⟩) | (go_at_call 79; refine (L2.out _).mono ?_; rintro e w' ⟨rfl, rfl⟩))
            all_goals first
              | (go_ret
                 exact ⟨rb (HB.out HO.out), rfl⟩)
              | (go_round
                 case rel => exact ⟨k + 1, by omega, by go_num, Lib.hid (by rw [HX.out, hA.out, HO.out]; rfl)⟩
                 case measure => simp [intOf]; omega)
          · obtain rfl : k = s.size := by omega
            go_wp2_with fail
            go_ret
            exact ⟨rb (by rw [HK.out]; have := hA.out; rw [List.take_of_length_le (by simp)] at this; rw [this]; rfl), rfl⟩
end Go.Proofs.YtoilgeahfdbhlaaGreatDoor
