/- straddlelaw8.DirFull returns true. -/
import Derived.Test.YtoilgeahfdbhlaaGreatDoorDirKnown
import Derived.Test.YtoilgeahfdbhlaaGreatDoorAtTell
set_option linter.unusedSimpArgs false
namespace Go.Proofs.YtoilgeahfdbhlaaGreatDoor
open Go.RowKit Go.Mem1 Go.GridMath Go.DirMath

/-- The series that are listed. -/
def fullL (n : Nat) : List Lst := (List.range n).map fun (j : Nat) => ((⟨ab, 5, (j : Int) + 1, 1⟩ : Ser), (1 : Int))
theorem fullL_len (n : Nat) : (fullL n).length = n := by simp [fullL]
theorem fullL_succ (n : Nat) : fullL (n + 1) = fullL n ++ [((⟨ab, 5, (n : Int) + 1, 1⟩ : Ser), 1)] := by simp [fullL, List.range_succ]
theorem fullL_st {n k : Nat} (h : n ≤ k) : ∀ y ∈ fullL n, y.1.st ≠ (k : Int) + 1 := by
  intro y hy
  obtain ⟨j, hj, rfl⟩ := List.mem_map.1 hy
  have := List.mem_range.1 hj
  dsimp only
  omega
theorem find_full {n k : Nat} (h : k < n) : findI (fullL n) ⟨ab, 5, (k : Int) + 1, 1⟩ = k := by
  unfold findI
  have hat : ∀ j < n, (fullL n)[j]! = ((⟨ab, 5, (j : Int) + 1, 1⟩ : Ser), 1) := fun j hj => by
    rw [getElem!_pos (fullL n) j (by rw [fullL_len]; exact hj)]
    simp [fullL]
  have e := Lib.idxBy_hit (fun _ (y : Lst) => eqS y.1 ⟨ab, 5, (k : Int) + 1, 1⟩) (fullL n) n k default h (by rw [fullL_len]; exact Nat.le_refl _) (by
    rw [hat k h]; unfold eqS; simp) (fun j hj => by
    rw [hat j (by omega)]
    exact eqS_st (by dsimp only; omega))
  rw [List.take_of_length_le (by rw [fullL_len]; exact Nat.le_refl _)] at e
  exact e
/-- At the head of a round. -/
def FullJ (w : World) (B : Nat) (vC v : Value) (k : Nat) (wr : World) : Prop := ∃ vL, DirAt wr B B vC vL [(ab, v, pl)] (fullL (min k 64)) 0 ∧ Below w.heap.size w wr
theorem FullJ_put {w wr : World} {B : Nat} {vC v : Value} {k : Nat} (h : FullJ w B vC v k wr) (hk : k < 64) (hB : w.heap.size ≤ B) :
    Calls Tryz.prog 11 #[.pointer (some ⟨B, 0, none⟩), serV ⟨ab, 5, 1 + (k : Int), 1⟩] wr fun e w' => e = .returned (.tuple #[.int .i64 ((k : Int) + 1), .nilIface]) ∧ FullJ w B vC v (k + 1) w' := by
  obtain ⟨vL, hD, hb⟩ := h
  rw [show (1 : Int) + (k : Int) = (k : Int) + 1 by omega]
  rw [Nat.min_eq_left (by omega)] at hD
  have := list_ok hD ⟨ab, 5, (k : Int) + 1, 1⟩ size_ab (by
    rw [wS_ab (by omega) (by omega) (Or.inl rfl) (fullL_st (Nat.le_refl _)) (by omega), fullL_len, if_neg (by omega)]) (by rw [fullL_len]; exact hk)
  refine this.mono fun e w' ⟨h1, vL', h2, h3⟩ => ⟨by rw [h1, fullL_len], vL', ?_, hb.trans (h3.mono hB)⟩
  rw [Nat.min_eq_left (by omega), fullL_succ]
  exact h2
theorem FullJ_full {w wr : World} {B : Nat} {vC v : Value} {k : Nat} (h : FullJ w B vC v k wr) (hk : 64 ≤ k) (hk2 : k ≤ 1000) :
    Calls Tryz.prog 11 #[.pointer (some ⟨B, 0, none⟩), serV ⟨ab, 5, 1 + (k : Int), 1⟩] wr fun e w' => ∃ b, e = .returned (.tuple #[.int .i64 0, .iface 84 (.pointer (some ⟨b, 0, none⟩))]) ∧ IsErr w' w'.heap.size [(seriesB, ((64 : Nat) : Int))] ((8 : Nat) : Int) (.iface 84 (.pointer (some ⟨b, 0, none⟩))) ∧ FullJ w B vC v (k + 1) w' := by
  obtain ⟨vL, hD, hb⟩ := h
  rw [show (1 : Int) + (k : Int) = (k : Int) + 1 by omega]
  rw [Nat.min_eq_right hk] at hD
  have e8 : wS [(ab, v, pl)] (fullL 64) 0 ⟨ab, 5, (k : Int) + 1, 1⟩ = 8 := by
    rw [wS_ab (by omega) (by omega) (Or.inl rfl) (fullL_st hk) (by omega), fullL_len, if_pos (by omega)]
  have := list_bad hD ⟨ab, 5, (k : Int) + 1, 1⟩ size_ab (by rw [e8]; omega)
  rw [e8, fullL_len] at this
  refine this.mono fun e w' ⟨b, h1, h2, h3⟩ => ⟨b, h1, ⟨b, _, rfl, h2.there, h2.reads 0, h2.reads 1, h2.reads 2, rfl⟩, vL, ?_, hb.trans (h3.mono hb.size)⟩
  rw [Nat.min_eq_right (by omega)]
  exact hD.carry h3
theorem FullJ.carry {w wr w' : World} {B : Nat} {vC v : Value} {k : Nat} (h : FullJ w B vC v k wr) (hb : Below wr.heap.size wr w') : FullJ w B vC v k w' := by
  obtain ⟨vL, hD, h1⟩ := h
  exact ⟨vL, hD.carry hb, h1.trans (hb.mono h1.size)⟩
set_option maxRecDepth 100000 in
set_option maxHeartbeats 4000000 in
theorem full_ok (X : Nat) (hX : X < 256) (w : World) (hg : ErrType w) :
    Calls Tryz.prog 4 #[.int .u8 (X : Int)] w fun e w' => e = .returned (.bool true) ∧ Below w.heap.size w w' := by
  have HG := Lib.hid hg
  have hX0 : (0 : Int) ≤ (X : Int) := by omega
  have hX1 : (X : Int) < 256 := by omega
  obtain ⟨N, hN⟩ : ∃ N : Nat, (64 : Int) + (X : Int) % 4 = (N : Int) := ⟨64 + X % 4, by omega⟩
  have hN1 : 64 ≤ N := by omega
  have hN2 : N ≤ 67 := by omega
  clear hg
  go_enter Tryz.func4, Tryz.ntmps4
  go_wp2_with (go_at_call 5; refine (dknown_ok _).mono ?_; rintro e w0 ⟨rfl, hb0⟩; replace hb0 := Lib.hid hb0)
  go_wp2_with (go_at_call 6; refine Hid.out ?_)
  refine Lib.hid ?_
  refine (new_any w0).mono ?_
  rintro e w1 ⟨rfl, hD1, hb1⟩
  obtain ⟨B, hB⟩ : ∃ B, w0.heap.size = B := ⟨_, rfl⟩
  rw [hB] at hD1 hb1 ⊢
  have HK := Lib.hid (class_ab hD1 rfl)
  have HB1 := Lib.hid (hb0.out.trans (hb1.mono (by rw [← hB]; exact hb0.out.size)))
  have hBw : w.heap.size ≤ B := by rw [← hB]; exact hb0.out.size
  clear hD1 hb1 hb0 hB
  go_wp2_with (go_at_call 8; refine Hid.out ?_)
  refine Lib.hid ?_
  refine HK.out.mono ?_
  rintro e w2 ⟨rfl, vC, v, hD2, hb2⟩
  have HJ1 : Hid (FullJ w B vC v 0 w2) := ⟨_, hD2, HB1.out.trans (hb2.mono hBw)⟩
  clear hD2 hb2 HK HB1
  go_wp2_with fail
  clear hN
  go_loopw [5] (fun v5 wr => ∃ k : Nat, k ≤ N ∧ v5 = .int .i64 k ∧ Hid (FullJ w B vC v k wr)) (fun v5 _ => N - (intOf v5).toNat)
  case atStart => exact ⟨0, by omega, rfl, HJ1⟩
  case round =>
    obtain ⟨k, hk, rfl, hJ⟩ := hrel
    clear HJ1
    by_cases hlt : k < N
    · by_cases h64 : k < 64
      · have HP := Lib.hid (FullJ_put hJ.out h64 hBw)
        have t1 : decide ((k : Int) < 64) = true := by simp; omega
        have t2 : decide ((64 : Int) ≤ (k : Int)) = false := by simp; omega
        clear hJ
        go_wp2_with (go_at_call 11; refine Hid.out ?_)
        refine Lib.hid ?_
        refine HP.out.mono ?_
        rintro e w3 ⟨rfl, hJ3⟩
        have HJ3 := Lib.hid hJ3
        clear hJ3 HP
        go_wp2_with fail
        go_roundw
        case rel => exact ⟨k + 1, by omega, by go_num, HJ3⟩
        case measure => simp [intOf]; omega
      · have HP := Lib.hid (FullJ_full hJ.out (by omega) (by omega))
        have t1 : decide ((k : Int) < 64) = false := by simp; omega
        have t2 : decide ((64 : Int) ≤ (k : Int)) = true := by simp; omega
        clear hJ
        go_wp2_with (go_at_call 11; refine Hid.out ?_)
        refine Lib.hid ?_
        refine HP.out.mono ?_
        rintro e w3 ⟨b, rfl, hE, hJ3⟩
        have HJ3 := Lib.hid hJ3
        have HE := Lib.hid hE
        clear hJ3 hE HP
        go_wp2_with (go_at_call 16; refine Hid.out ?_)
        refine Lib.hid ?_
        refine (fAt_any seriesB ((64 : Nat) : Int) ((8 : Nat) : Int) w3).mono ?_
        rintro e w4 ⟨A, n, c, rfl, hPa, hb4⟩
        have hJ4 := HJ3.out.carry hb4
        have hg4 : ErrType w4 := by
          obtain ⟨_, _, hb⟩ := hJ4
          exact (hb.cell (p := ⟨0, 0, none⟩) HG.out.lt).trans HG.out
        have HT := Lib.hid (tells_one seriesB 64 8 A n c b w4 hg4 ((HE.out.carry hb4).wider hb4.size) hPa (by decide) (by omega) (by omega) (by omega))
        have HJ4 := Lib.hid hJ4
        clear hPa hb4 hJ4 hg4 HJ3 HE
        go_wp2_with (go_at_call 7; refine Hid.out ?_)
        refine Lib.hid ?_
        refine HT.out.mono ?_
        rintro e w5 ⟨rfl, hb5⟩
        have HJ5 : Hid (FullJ w B vC v (k + 1) w5) := HJ4.out.carry hb5
        clear hb5 HT HJ4
        go_wp2_with fail
        go_roundw
        case rel => exact ⟨k + 1, by omega, by go_num, HJ5⟩
        case measure => simp [intOf]; omega
    · obtain rfl : k = N := by omega
      obtain ⟨vL, hD, hb⟩ := hJ.out
      rw [Nat.min_eq_right hN1] at hD
      have hF := find_any hD ⟨ab, 5, 64, 1⟩
      rw [show findI (fullL 64) ⟨ab, 5, 64, 1⟩ = 63 from find_full (n := 64) (k := 63) (by omega)] at hF
      have HF := Lib.hid hF
      have HDD := Lib.hid hD
      have HB := Lib.hid hb
      clear hD hb hF hJ
      go_wp2_with (go_at_call 26; refine Hid.out ?_)
      refine Lib.hid ?_
      refine HF.out.mono ?_
      rintro e w3 ⟨rfl, hb3⟩
      have HR := Lib.hid (Row_any (HDD.out.carry hb3))
      rw [fullL_len] at HR
      have HB3 := Lib.hid (HB.out.trans (hb3.mono HB.out.size))
      clear hb3 HF HDD HB
      go_wp2_with (go_at_call 28; refine Hid.out ?_)
      refine Lib.hid ?_
      refine HR.out.mono ?_
      rintro e w4 ⟨⟨A, c, rfl⟩, hb4⟩
      have HB4 := Lib.hid (HB3.out.trans (hb4.mono HB3.out.size))
      clear hb4 HR HB3
      go_wp2_with fail
      go_ret
      exact ⟨rfl, HB4.out⟩
end Go.Proofs.YtoilgeahfdbhlaaGreatDoor
