/- straddlelaw6.GridWalk returns true. -/
import Derived.Test.YtihdebgofjacpaaGrdCounts
set_option linter.unusedSimpArgs false
namespace Go.Proofs.Ytihdebgofjacpaa
open Go.RowKit Go.Mem1 Go.GridMath

set_option maxRecDepth 100000 in
set_option maxHeartbeats 2000000 in
theorem walk_early (A : Option Addr) (n c : Nat) (l : List Stp) (p m : Int) (w : World) (h : TabAt w w.heap.size A n l) (hc : 8 < n ∨ n ≤ 8 ∧ chk l ≠ none) :
    Calls Try.prog 3 #[.slice A n c, .int .i64 p, .int .u8 m] w fun e w' => e = .returned (.bool true) ∧ Below w.heap.size w w' := by
  have HK := Lib.hid (fun w' => gknown_ok w')
  have hfd := wrong_field
  rcases hc with h8 | ⟨h8, hc⟩
  · have t8 : decide ((8 : Int) < (n : Int)) = true := by simp; omega
    go_enter Try.func3, Try.ntmps3
    go_wp2_with (go_at_call 6; refine (HK.out _).mono ?_; rintro e w1 ⟨rfl, B1⟩; replace B1 := Lib.hid B1)
    go_ret
    exact ⟨rfl, B1.out⟩
  · have t8 : decide ((8 : Int) < (n : Int)) = false := by simp; omega
    obtain ⟨kx, hkx⟩ := Option.ne_none_iff_exists'.1 hc
    have HO := Lib.hid (fun w' hb => ofchk_any A n c l w w' h (by omega) hb)
    rw [hkx] at HO
    obtain ⟨k, x'⟩ := kx
    have hx := (chk_bound hkx).2
    have hx' : (x' != 0) = true := by simp; omega
    clear h hc hkx hx
    go_enter Try.func3, Try.ntmps3
    go_wp2_with ((first
      | (go_at_call 6; refine (HK.out _).mono ?_; rintro e w1 ⟨rfl, B1⟩; replace B1 := Lib.hid B1)
      | (go_at_call 8; refine (HO.out _ B1.out).mono ?_; rintro e w2 ⟨A1, c1, rfl, hOC⟩)
      | (go_at_call 7; refine Calls.mono hOC.out ?_; rintro e w3 ⟨A3, n3, c3, rfl, B3⟩; dsimp only [Option.map, Option.getD])))
    go_ret
    exact ⟨rfl, B3.out⟩
set_option maxRecDepth 100000 in
set_option maxHeartbeats 2000000 in
theorem walk_out (A : Option Addr) (n c : Nat) (l : List Stp) (p m : Int) (w : World) (h : TabAt w w.heap.size A n l) (h8 : n ≤ 8) (hc : chk l = none) (hp : p < 1 ∨ 1000000 < p) :
    Calls Try.prog 3 #[.slice A n c, .int .i64 p, .int .u8 m] w fun e w' => e = .returned (.bool true) ∧ Below w.heap.size w w' := by
  have HK := Lib.hid (fun w' => gknown_ok w')
  have hfd := wrong_field
  have t8 : decide ((8 : Int) < (n : Int)) = false := by simp; omega
  have HO := Lib.hid (fun w' hb => ofchk_any A n c l w w' h (by omega) hb)
  rw [hc] at HO
  have hp' : (decide (p < 1) = true) ∨ (decide (p < 1) = false ∧ decide (1000000 < p) = true) := by simp; omega
  clear h hc hp
  rcases hp' with p1 | ⟨p1, p2⟩
  all_goals
    go_enter Try.func3, Try.ntmps3
    go_wp2_with ((first
      | (go_at_call 6; refine (HK.out _).mono ?_; rintro e w1 ⟨rfl, B1⟩; replace B1 := Lib.hid B1)
      | (go_at_call 8; refine (HO.out _ B1.out).mono ?_; rintro e w2 ⟨A1, c1, rfl, hOC⟩)
      | (go_at_call 7; refine Calls.mono hOC.out ?_; rintro e w3 ⟨A3, n3, c3, rfl, B3⟩; dsimp only [Option.map, Option.getD])))
    go_ret
    exact ⟨rfl, B3.out⟩
set_option maxRecDepth 100000 in
set_option maxHeartbeats 2000000 in
theorem walk_main (A : Option Addr) (n c : Nat) (l : List Stp) (p : Int) (m : Nat) (w : World) (h : TabAt w w.heap.size A n l) (h8 : n ≤ 8) (hc : chk l = none) (hp : 1 ≤ p ∧ p ≤ 1000000) (hm : m ≤ 255) :
    Calls Try.prog 3 #[.slice A n c, .int .i64 p, .int .u8 (m : Int)] w fun e w' => e = .returned (.bool true) ∧ Below w.heap.size w w' := by
  have HK := Lib.hid (fun w' => gknown_ok w')
  have hfd := wrong_field
  have t8 : decide ((8 : Int) < (n : Int)) = false := by simp; omega
  have HO := Lib.hid (fun w' hb => ofchk_any A n c l w w' h (by omega) hb)
  rw [hc] at HO
  have p1 : decide (p < 1) = false := by simp; omega
  have p2 : decide (1000000 < p) = false := by simp; omega
  have hok := okT_chk hc
  have HX := Lib.hid (near_on hok hp.1)
  have HN := Lib.hid (fun w' (hb : Below w.heap.size w w') => (near_any A n c l p w' ((h.carry hb).wider hb.size) hc).mono (R' := fun e w2 => e = .returned (.int .i64 (nearT l p)) ∧ Hid (Below w.heap.size w w2)) (fun e w2 ⟨he, h2⟩ => ⟨he, hb.trans (h2.mono hb.size)⟩))
  generalize nearT l p = F at HX HN
  have HB := Lib.hid (fun k hk => (ups_all hok HX.out k hk))
  have HU := Lib.hid (fun (k : Nat) w' (hb : Below w.heap.size w w') => (up_any A n c l (ups l F k) w' ((h.carry hb).wider hb.size) hc).mono (R' := fun e w2 => e = .returned (.tuple #[.int .i64 (ups l F (k + 1)), .bool (upT l (ups l F k)).2]) ∧ Hid (Below w.heap.size w w2)) (fun e w2 ⟨he, h2⟩ => ⟨by rw [he, ups], hb.trans (h2.mono hb.size)⟩))
  have HUD := Lib.hid (fun (k : Nat) (hk : (upT l (ups l F k)).2 = true) => ups_down hok hk)
  have HOn := Lib.hid (fun (k : Nat) (hk : ∀ j < k, (upT l (ups l F j)).2 = true) w' (hb : Below w.heap.size w w') => (on_any A n c l (ups l F k) w' ((h.carry hb).wider hb.size) hc).mono (R' := fun e w2 => e = .returned (.bool true) ∧ Hid (Below w.heap.size w w2)) (fun e w2 ⟨he, h2⟩ => ⟨by rw [he, (HB.out k hk).1], hb.trans (h2.mono hb.size)⟩))
  have HDn := Lib.hid (fun (k : Nat) (hk : (upT l (ups l F k)).2 = true) w' (hb : Below w.heap.size w w') => (down_any A n c l (ups l F (k + 1)) w' ((h.carry hb).wider hb.size) hc).mono (R' := fun e w2 => e = .returned (.tuple #[.int .i64 (ups l F k), .bool true]) ∧ Hid (Below w.heap.size w w2)) (fun e w2 ⟨he, h2⟩ => ⟨by rw [he, (HUD.out k hk).1], hb.trans (h2.mono hb.size)⟩))
  have HCt := Lib.hid (fun (k : Nat) (hk : ∀ j < k, (upT l (ups l F j)).2 = true) w' (hb : Below w.heap.size w w') => count_at (c := c) h hc (count_walk hok HX.out hk) (by have := (HB.out k hk).2.2.2; omega) w' hb)
  have hm1 : IntKind.i64.wrap (m : Int) = (m : Int) := iwrap (by omega)
  clear h hc hok hp
  go_enter Try.func3, Try.ntmps3
  go_wp2_with ((first
    | (go_at_call 6; refine (HK.out _).mono ?_; rintro e w1 ⟨rfl, B1⟩; replace B1 := Lib.hid B1)
    | (go_at_call 8; refine (HO.out _ B1.out).mono ?_; rintro e w2 ⟨A1, c1, rfl, hOC⟩)
    | (go_at_call 7; refine Calls.mono hOC.out ?_; rintro e w3 ⟨A3, n3, c3, rfl, B3⟩; dsimp only [Option.map, Option.getD])
    | (go_at_call 9; refine (HN.out _ B3.out).mono ?_; rintro e w4 ⟨rfl, B4⟩)))
  clear HK HO HN
  go_loopw [8, 9, 10] (fun v8 v9 v10 wr => ∃ (k : Nat), k ≤ m ∧ v8 = .int .i64 (ups l F k) ∧ v9 = .int .i64 k ∧ v10 = .int .i64 k ∧ Hid ((∀ j < k, (upT l (ups l F j)).2 = true) ∧ Below w.heap.size w wr)) (fun _ _ v10 _ => m - (intOf v10).toNat)
  case atStart => exact ⟨0, by omega, rfl, rfl, rfl, Lib.hid ⟨fun j hj => absurd hj (Nat.not_lt_zero _), B4.out⟩⟩
  case round =>
    clear hOC B1 B3 B4
    obtain ⟨k, hk, rfl, rfl, rfl, hS⟩ := hrel
    by_cases hlt : k < m
    · have hlt' : decide ((k : Int) < (m : Int)) = true := by simp; omega
      obtain ⟨b, hb⟩ : ∃ b, (upT l (ups l F k)).2 = b := ⟨_, rfl⟩
      have HUk := Lib.hid (HU.out k wr hS.out.2)
      rw [hb] at HUk
      cases b with
      | true =>
        have HD1 := Lib.hid (HUD.out k hb)
        have hq : Hid (∀ j < k + 1, (upT l (ups l F j)).2 = true) := fun j hj => by
          rcases Nat.lt_or_ge j k with h | h
          · exact hS.out.1 j h
          · obtain rfl : j = k := by omega
            exact hb
        clear hb
        have hle : decide (ups l F (k + 1) ≤ ups l F k) = false := by have := HD1.out.2; simp; omega
        have HOk := Lib.hid (HOn.out (k + 1) hq.out)
        obtain ⟨Y, hY⟩ : ∃ Y, ups l F (k + 1) = Y := ⟨_, rfl⟩
        rw [hY] at HUk HOk hle
        have HY := Lib.hid hY
        clear hY
        go_wp2_with ((first
          | (go_at_call 10; refine HUk.out.mono ?_; rintro e w5 ⟨rfl, B5⟩)
          | (go_at_call 11; refine (HOk.out _ B5.out).mono ?_; rintro e w6 ⟨rfl, B6⟩)))
        go_roundw
        case rel => exact ⟨k + 1, by omega, by rw [HY.out], by go_num, by go_num, Lib.hid ⟨hq.out, B6.out⟩⟩
        case measure => simp [intOf]; omega
      | false =>
        clear hb
        have HCk := Lib.hid (HCt.out k hS.out.1)
        go_wp2_with ((first
          | (go_at_call 10; refine HUk.out.mono ?_; rintro e w5 ⟨rfl, B5⟩)
          | (go_at_call 12; refine (HCk.out _ B5.out).mono ?_; rintro e w6 ⟨rfl, B6⟩)))
        go_loopw [8, 13] (fun v8 v13 wr => ∃ (j : Nat), j ≤ k ∧ v8 = .int .i64 (ups l F (k - j)) ∧ v13 = .int .i64 j ∧ Hid (Below w.heap.size w wr)) (fun _ v13 _ => k - (intOf v13).toNat)
        case atStart => exact ⟨0, by omega, rfl, rfl, B6⟩
        case round =>
          clear B6
          obtain ⟨j, hj, rfl, rfl, hB⟩ := hrel
          by_cases hjk : j < k
          · have hjk' : decide ((j : Int) < (k : Int)) = true := by simp; omega
            obtain ⟨i, hi⟩ : ∃ i, i = k - j - 1 := ⟨_, rfl⟩
            have hi1 : k - j = i + 1 := by omega
            have hi2 : k - (j + 1) = i := by omega
            have hui := hS.out.1 i (by omega)
            have HDi := Lib.hid (HDn.out i hui)
            have hge : decide (ups l F (i + 1) ≤ ups l F i) = false := by have := (HUD.out i hui).2; simp; omega
            rw [hi1]
            obtain ⟨Y, hY⟩ : ∃ Y, ups l F (i + 1) = Y := ⟨_, rfl⟩
            obtain ⟨Z, hZ⟩ : ∃ Z, ups l F i = Z := ⟨_, rfl⟩
            rw [hY, hZ] at HDi hge
            rw [hY]
            have HZ := Lib.hid hZ
            have HI := Lib.hid hi2
            clear hY hZ hui hi hi1 hi2
            go_wp2_with (go_at_call 13; refine (HDi.out _ hB.out).mono ?_; rintro e w7 ⟨rfl, B7⟩)
            go_roundw
            case rel => exact ⟨j + 1, by omega, by rw [HI.out, HZ.out], by go_num, B7⟩
            case measure => simp [intOf]; omega
          · obtain rfl : j = k := by omega
            have hjk' : decide ((j : Int) < (j : Int)) = false := by simp
            rw [Nat.sub_self]
            have he : ups l F 0 = F := rfl
            rw [he]
            go_wp2_with fail
            go_ret
            exact ⟨rfl, hB.out⟩
    · obtain rfl : k = m := by omega
      have HCk := Lib.hid (HCt.out k hS.out.1)
      go_wp2_with (go_at_call 12; refine (HCk.out _ hS.out.2).mono ?_; rintro e w6 ⟨rfl, B6⟩)
      go_loopw [8, 13] (fun v8 v13 wr => ∃ (j : Nat), j ≤ k ∧ v8 = .int .i64 (ups l F (k - j)) ∧ v13 = .int .i64 j ∧ Hid (Below w.heap.size w wr)) (fun _ v13 _ => k - (intOf v13).toNat)
      case atStart => exact ⟨0, by omega, rfl, rfl, B6⟩
      case round =>
        clear B6
        obtain ⟨j, hj, rfl, rfl, hB⟩ := hrel
        by_cases hjk : j < k
        · have hjk' : decide ((j : Int) < (k : Int)) = true := by simp; omega
          obtain ⟨i, hi⟩ : ∃ i, i = k - j - 1 := ⟨_, rfl⟩
          have hi1 : k - j = i + 1 := by omega
          have hi2 : k - (j + 1) = i := by omega
          have hui := hS.out.1 i (by omega)
          have HDi := Lib.hid (HDn.out i hui)
          have hge : decide (ups l F (i + 1) ≤ ups l F i) = false := by have := (HUD.out i hui).2; simp; omega
          rw [hi1]
          obtain ⟨Y, hY⟩ : ∃ Y, ups l F (i + 1) = Y := ⟨_, rfl⟩
          obtain ⟨Z, hZ⟩ : ∃ Z, ups l F i = Z := ⟨_, rfl⟩
          rw [hY, hZ] at HDi hge
          rw [hY]
          have HZ := Lib.hid hZ
          have HI := Lib.hid hi2
          clear hY hZ hui hi hi1 hi2
          go_wp2_with (go_at_call 13; refine (HDi.out _ hB.out).mono ?_; rintro e w7 ⟨rfl, B7⟩)
          go_roundw
          case rel => exact ⟨j + 1, by omega, by rw [HI.out, HZ.out], by go_num, B7⟩
          case measure => simp [intOf]; omega
        · obtain rfl : j = k := by omega
          have hjk' : decide ((j : Int) < (j : Int)) = false := by simp
          rw [Nat.sub_self]
          have he : ups l F 0 = F := rfl
          rw [he]
          go_wp2_with fail
          go_ret
          exact ⟨rfl, hB.out⟩
theorem walk_ok (A : Option Addr) (n c : Nat) (l : List Stp) (p m : Int) (w : World) (h : TabAt w w.heap.size A n l) (hm : 0 ≤ m ∧ m ≤ 255) :
    Calls Try.prog 3 #[.slice A n c, .int .i64 p, .int .u8 m] w fun e w' => e = .returned (.bool true) ∧ Below w.heap.size w w' := by
  by_cases h8 : 8 < n
  · exact walk_early A n c l p m w h (.inl h8)
  · by_cases hc : chk l = none
    · by_cases hp : p < 1 ∨ 1000000 < p
      · exact walk_out A n c l p m w h (by omega) hc hp
      · obtain ⟨y, rfl⟩ := Int.eq_ofNat_of_zero_le hm.1
        exact walk_main A n c l p y w h (by omega) hc (by omega) (by omega)
    · exact walk_early A n c l p m w h (.inr ⟨by omega, hc⟩)
end Go.Proofs.Ytihdebgofjacpaa
