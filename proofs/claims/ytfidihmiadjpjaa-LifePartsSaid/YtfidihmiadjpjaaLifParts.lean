/- straddlelaw14.LifeParts returns true. -/
import Derived.Test.YtfidihmiadjpjaaLifPartsM
set_option linter.unusedSimpArgs false
namespace Go.Proofs.Ytfidihmiadjpjaa
open Go.RowKit Go.Mem1 Go.LifMath

def LTrue (w : World) (e : Ending) (w' : World) : Prop := e = .returned (.bool true) ∧ Below w.heap.size w w'
set_option maxHeartbeats 1000000 in
theorem parts_skip (A : Option Addr) (n c : Nat) (w : World) (hn : n = 0 ∨ 60 < n) : Calls Try.prog 4 #[.slice A n c] w (LTrue w) := by
  rcases hn with rfl | hn
  · go_enter Try.func4, Try.ntmps4
    go_wp2_with (go_at_call 6; refine (lknown_ok _).mono ?_; rintro e w0 ⟨rfl, hb0⟩; replace hb0 := Lib.hid hb0)
    go_ret
    exact ⟨rfl, hb0.out⟩
  · have t0 : ((n : Int) == 0) = false := by simp; omega
    have t1 : decide ((60 : Int) < (n : Int)) = true := by simp; omega
    go_enter Try.func4, Try.ntmps4
    go_wp2_with (go_at_call 6; refine (lknown_ok _).mono ?_; rintro e w0 ⟨rfl, hb0⟩; replace hb0 := Lib.hid hb0)
    go_ret
    exact ⟨rfl, hb0.out⟩
set_option maxRecDepth 100000 in
set_option maxHeartbeats 2000000 in
theorem parts_main (A : Option Addr) (n c : Nat) (l : List Nat) (w : World) (hA : Byt w w.heap.size A n l) (h0 : 0 < n) (hn : n ≤ 60) :
    Calls Try.prog 4 #[.slice A n c] w (LTrue w) := by
  have HA := Lib.hid hA
  have HLEN := Lib.hid hA.len
  have t0 : ((n : Int) == 0) = false := by simp; omega
  have t1 : decide ((60 : Int) < (n : Int)) = false := by simp; omega
  have HT := Lib.hid (fun k (hk : k ≤ n) => tot_bound (l := l) hA.bnd k (by rw [hA.len]; exact hk))
  clear hA
  go_enter Try.func4, Try.ntmps4
  go_wp2_with (go_at_call 6; refine (lknown_ok _).mono ?_; rintro e w0 ⟨rfl, hb0⟩; replace hb0 := Lib.hid hb0)
  clear t0 t1
  go_loopw [3, 4] (fun v3 v4 wr => ∃ k : Nat, k ≤ n ∧ v3 = .int .i64 (tot l k : Int) ∧ v4 = .int .i64 k ∧ wr = w0) (fun _ v4 _ => n - (intOf v4).toNat)
  case atStart => exact ⟨0, by omega, rfl, rfl, rfl⟩
  case round =>
    obtain ⟨k, hk, rfl, rfl, rfl⟩ := hrel
    by_cases hlt : k < n
    · obtain ⟨b, off, X, rfl, hbl, hX, hEk, hcell⟩ := HA.out.at_ hlt
      have d0 := (hb0.out.cell (p := ⟨b, off + k, none⟩) hbl).trans hcell
      have hX0 : (0 : Int) ≤ (X : Int) := by omega
      have hX1 : (X : Int) < 256 := by omega
      have hb := HT.out k hk
      have hT := Lib.hid (tot_succ hEk)
      obtain ⟨T, hTT⟩ : ∃ T, tot l k = T := ⟨_, rfl⟩
      rw [hTT] at hb hT ⊢
      obtain ⟨hb1, hb2⟩ := hb
      clear hEk hcell hTT
      go_wp2_with fail
      go_roundw
      case rel => exact ⟨k + 1, by omega, by rw [hT.out]; go_num, by go_num, by first | rfl | trivial⟩
      case measure => simp [intOf]; omega
    · obtain rfl : k = n := by omega
      obtain ⟨wA, rfl⟩ : ∃ wA, wA = wr := ⟨_, rfl⟩
      obtain ⟨hT1, hT2⟩ := HT.out k (Nat.le_refl _)
      have HS := Lib.hid (fun B g w1 (h : Lv wA B g [] w1) => PJ.start (l := l) (n := k) h (by omega) (by omega))
      obtain ⟨T, hTT⟩ : ∃ T, tot l k = T := ⟨_, rfl⟩
      rw [hTT] at hT1 hT2 HS ⊢
      have HTT := Lib.hid hTT
      clear hTT
      go_wp2_with (go_at_call 7; refine Hid.out ?_)
      refine Lib.hid ?_
      refine (lv_new wA).mono ?_
      rintro _ w1 ⟨rfl, hA⟩
      obtain ⟨g, hg⟩ : ∃ g, wA.heap.size = g := ⟨_, rfl⟩
      rw [hg] at hA ⊢
      have HG := Lib.hid hg
      have HS1 := Lib.hid (HS.out _ _ _ hA)
      clear hA HS hg
      go_wp2_with (go_at_call 8; refine Hid.out ?_)
      refine Lib.hid ?_
      refine HS1.out.mono ?_
      rintro _ w2 ⟨rfl, hP⟩
      have HP := Lib.hid hP
      clear hP HS1
      go_wp2_with fail
      go_loopw [8, 9] (fun v8 v9 wr => ∃ i : Nat, i ≤ k ∧ v8 = .int .i64 (fil l i : Int) ∧ v9 = .int .i64 i ∧ Hid (PJ wA g g l k i wr)) (fun _ v9 _ => k - (intOf v9).toNat)
      case atStart => exact ⟨0, by omega, rfl, rfl, HP⟩
      case round =>
        obtain ⟨i, hi, rfl, rfl, hP⟩ := hrel
        clear HP
        by_cases hlt2 : i < k
        · obtain ⟨b, off, X, rfl, hbl, hX, hEk, hcell⟩ := HA.out.at_ hlt2
          have hwr : Below w.heap.size w wr := hb0.out.trans (hP.out.2.mono (by rw [← HG.out]; exact hb0.out.size))
          have d0 := (hwr.cell (p := ⟨b, off + i, none⟩) hbl).trans hcell
          have hX0 : (0 : Int) ≤ (X : Int) := by omega
          have hX1 : (X : Int) < 256 := by omega
          have hf1 := fil_le l i
          have hf2 := (HT.out i hi).2
          by_cases h3 : i % 3 = 2
          · have HC := Lib.hid (hP.out.canc hEk hlt2 h3)
            have hFS := Lib.hid (fil_canc (l := l) h3)
            have t3 : ((i : Int) % 3 == 2) = true := by simp; omega
            obtain ⟨F, hF⟩ : ∃ F, fil l i = F := ⟨_, rfl⟩
            rw [hF] at hFS hf1 ⊢
            clear hEk hcell hwr hP h3 hF hf2
            go_wp2_with (go_at_call 10; refine Hid.out ?_)
            refine Lib.hid ?_
            refine HC.out.mono ?_
            rintro _ w3 ⟨rfl, hP⟩
            have HP := Lib.hid hP
            clear hP HC d0
            go_wp2_with fail
            go_roundw
            case rel => exact ⟨i + 1, by omega, by rw [hFS.out], by go_num, HP⟩
            case measure => simp [intOf]; omega
          · have HC := Lib.hid (hP.out.fill hEk hlt2 h3)
            have hFS := Lib.hid (fil_fill (l := l) hEk h3)
            have t3 : ((i : Int) % 3 == 2) = false := by simp; omega
            have hf3 : fil l i ≤ 256 * i := Nat.le_trans hf1 hf2
            obtain ⟨F, hF⟩ : ∃ F, fil l i = F := ⟨_, rfl⟩
            rw [hF] at hFS hf3 ⊢
            clear hEk hcell hwr hP h3 hF hf2 hf1
            go_wp2_with (go_at_call 9; refine Hid.out ?_)
            refine Lib.hid ?_
            refine HC.out.mono ?_
            rintro _ w3 ⟨rfl, hP⟩
            have HP := Lib.hid hP
            clear hP HC d0
            go_wp2_with fail
            go_roundw
            case rel => exact ⟨i + 1, by omega, by rw [hFS.out]; go_num, by go_num, HP⟩
            case measure => simp [intOf]; omega
        · obtain rfl : i = k := by omega
          have hD := hP.out.done
          rw [HTT.out] at hD
          have hf1 := fil_le l i
          rw [HTT.out] at hf1
          obtain ⟨F, hF⟩ : ∃ F, fil l i = F := ⟨_, rfl⟩
          rw [hF] at hD hf1 ⊢
          have HD := Lib.hid hD
          clear hP hD hF
          go_wp2_with (go_at_call 11; refine Hid.out ?_)
          refine Lib.hid ?_
          refine (done_get HD.out).mono ?_
          rintro _ w4 ⟨rfl, hD⟩
          have HD := Lib.hid (Lv.carry hD (bel_new w4 (.cells #[.int .i64 T, .int .i64 F, .int .i64 ((T : Int) - (F : Int)), .int .i64 0, .int .i64 1, .int .i64 1, .int .i64 1] 33)))
          clear hD
          unfold entV doneE
          dsimp only
          go_wp2_with ((first
            | (go_at_call 9; refine (done_fill HD.out).mono ?_; rintro _ _ ⟨rfl, rfl⟩)
            | (go_at_call 10; refine (done_canc HD.out).mono ?_; rintro _ _ ⟨rfl, rfl⟩)
            | (go_at_call 15; refine Hid.out ?_)))
          refine Lib.hid ?_
          refine (Lv.isFair HD.out).mono ?_
          rintro _ w5 ⟨rfl, hD5⟩
          have HD5 := Lib.hid hD5
          clear hD5 HD
          go_wp2_with (go_at_call 13; refine Hid.out ?_)
          refine Lib.hid ?_
          refine (done_sum HD5.out).mono ?_
          rintro _ w6 ⟨rfl, hD6⟩
          have HD6 := Lib.hid hD6
          clear hD6 HD5
          go_wp2_with fail
          go_ret
          exact ⟨rfl, hb0.out.trans (HD6.out.2.mono (by rw [← HG.out]; exact hb0.out.size))⟩
end Go.Proofs.Ytfidihmiadjpjaa
