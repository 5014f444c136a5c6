/- straddlelaw14.LifeOwners returns true. -/
import Derived.Test.YtfidihmiadjpjaaLifOwnersM
set_option linter.unusedSimpArgs false
namespace Go.Proofs.Ytfidihmiadjpjaa
open Go.RowKit Go.Mem1 Go.LifMath

def OTrue (w : World) (e : Ending) (w' : World) : Prop := e = .returned (.bool true) ∧ Below w.heap.size w w'
set_option maxHeartbeats 1000000 in
theorem owners_skip (A : Option Addr) (n c : Nat) (Ad : Option Addr) (nd cd : Nat) (w : World) (hn : 60 < n ∨ nd < n ∨ 100 < nd) : Calls Try.prog 5 #[.slice A n c, .slice Ad nd cd] w (OTrue w) := by
  by_cases h1 : 60 < n
  · have t0 : decide ((60 : Int) < (n : Int)) = true := by simp; omega
    clear hn h1
    go_enter Try.func5, Try.ntmps5
    go_wp2_with (go_at_call 6; refine (lknown_ok _).mono ?_; rintro e w0 ⟨rfl, hb0⟩; replace hb0 := Lib.hid hb0)
    go_ret
    exact ⟨rfl, hb0.out⟩
  · have t0 : decide ((60 : Int) < (n : Int)) = false := by simp; omega
    by_cases h2 : nd < n
    · have t1 : decide (nd < n) = true := by simpa using h2
      clear hn h1 h2
      go_enter Try.func5, Try.ntmps5
      go_wp2_with (go_at_call 6; refine (lknown_ok _).mono ?_; rintro e w0 ⟨rfl, hb0⟩; replace hb0 := Lib.hid hb0)
      go_ret
      exact ⟨rfl, hb0.out⟩
    · have t1 : decide (nd < n) = false := by simpa using h2
      have t2 : decide ((100 : Int) < (nd : Int)) = true := by simp; omega
      clear hn h1 h2
      go_enter Try.func5, Try.ntmps5
      go_wp2_with (go_at_call 6; refine (lknown_ok _).mono ?_; rintro e w0 ⟨rfl, hb0⟩; replace hb0 := Lib.hid hb0)
      go_ret
      exact ⟨rfl, hb0.out⟩
set_option maxRecDepth 100000 in
set_option maxHeartbeats 2000000 in
theorem owners_main (A : Option Addr) (n c : Nat) (Ad : Option Addr) (nd cd : Nat) (l : List Nat) (f : Nat → Bool) (w : World) (hA : Byt w w.heap.size A n l) (hD : Bls w w.heap.size Ad nd f) (hn : n ≤ 60) (hnd : n ≤ nd) (h100 : nd ≤ 100) :
    Calls Try.prog 5 #[.slice A n c, .slice Ad nd cd] w (OTrue w) := by
  have HA := Lib.hid hA
  have HD := Lib.hid hD
  have HLEN := Lib.hid hA.len
  have t0 : decide ((60 : Int) < (n : Int)) = false := by simp; omega
  have t1 : decide (nd < n) = false := by simp; omega
  have t2 : decide ((100 : Int) < (nd : Int)) = false := by simp; omega
  clear hA hD
  go_enter Try.func5, Try.ntmps5
  go_wp2_with (go_at_call 6; refine (lknown_ok _).mono ?_; rintro e w0 ⟨rfl, hb0⟩; replace hb0 := Lib.hid hb0)
  clear t0 t1 t2
  go_wp2_with (go_at_call 7; refine Hid.out ?_)
  refine Lib.hid ?_
  refine (lv_new w0).mono ?_
  rintro _ w1 ⟨rfl, hN⟩
  obtain ⟨g, hg⟩ : ∃ g, w0.heap.size = g := ⟨_, rfl⟩
  rw [hg] at hN ⊢
  have HW0 : Hid (w.heap.size ≤ g) := Lib.hid (by rw [← hg]; exact hb0.out.size)
  have HJ0 : Hid (OJ w0 g g l f 0 w1) := Lib.hid hN
  clear hN hg
  go_wp2_with fail
  go_loopw [6] (fun v6 wr => ∃ k : Nat, k ≤ n ∧ v6 = .int .i64 k ∧ Hid (OJ w0 g g l f k wr)) (fun v6 _ => n - (intOf v6).toNat)
  case atStart => exact ⟨0, by omega, rfl, HJ0⟩
  case round =>
    obtain ⟨k, hk, rfl, hJ⟩ := hrel
    clear HJ0
    by_cases hlt : k < n
    · obtain ⟨b, off, X, rfl, hbl, hX, hEk, hcell⟩ := HA.out.at_ hlt
      obtain ⟨b2, off2, rfl, hbl2, hcell2⟩ := HD.out k (by omega)
      have hwr : Below w.heap.size w wr := hb0.out.trans (hJ.out.2.mono HW0.out)
      have d0 := (hwr.cell (p := ⟨b, off + k, none⟩) hbl).trans hcell
      have hX0 : (0 : Int) ≤ (X : Int) := by omega
      have hX1 : (X : Int) < 256 := by omega
      have HE := Lib.hid (OJ.enter (x := X) hJ.out (by omega))
      have HX := Lib.hid hEk
      have HC2 := Lib.hid hcell2
      have HB2 := Lib.hid hbl2
      clear hEk hcell hwr hJ hcell2 hbl2
      go_wp2_with (go_at_call 8; refine Hid.out ?_)
      refine Lib.hid ?_
      refine HE.out.mono ?_
      rintro _ w2 ⟨rfl, hP⟩
      have d2 := ((hb0.out.trans (hP.2.mono HW0.out)).cell (p := ⟨b2, off2 + k, none⟩) HB2.out).trans HC2.out
      have k0 : (0 : Int) ≤ (k : Int) := by omega
      have k1 : (k : Int) < (nd : Int) := by omega
      cases hf : f k with
      | true =>
        rw [hf] at d2
        have HF := Lib.hid (hP.fill HX.out hf)
        clear hP HE d0 hf
        go_wp2_with (go_at_call 9; refine Hid.out ?_)
        refine Lib.hid ?_
        refine HF.out.mono ?_
        rintro _ w3 ⟨rfl, hP⟩
        have HP := Lib.hid hP
        clear hP HF d2
        go_wp2_with fail
        go_roundw
        case rel => exact ⟨k + 1, by omega, by go_num, HP⟩
        case measure => simp [intOf]; omega
      | false =>
        rw [hf] at d2
        have HP := Lib.hid (hP.skip HX.out hf)
        clear hP HE d0 hf
        go_wp2_with fail
        go_roundw
        case rel => exact ⟨k + 1, by omega, by go_num, HP⟩
        case measure => simp [intOf]; omega
    · obtain rfl : k = n := by omega
      have HJ1 := hJ
      clear hJ
      obtain ⟨wA, rfl⟩ : ∃ wA, wA = wr := ⟨_, rfl⟩
      go_wp2_with fail
      go_loopw [9] (fun v9 wr => ∃ o : Nat, o ≤ 4 ∧ v9 = .int .i64 o ∧ Hid (OJ w0 g g l f k wr)) (fun v9 _ => 4 - (intOf v9).toNat)
      case atStart => exact ⟨0, by omega, rfl, HJ1⟩
      case round =>
        obtain ⟨o, ho, rfl, hJ⟩ := hrel
        clear HJ1
        by_cases ho4 : o < 4
        · have t8 : decide ((o : Int) < 4) = true := by simp; omega
          have HO := Lib.hid (Lv.open_ (show Lv w0 g g (ents l f k) wr from hJ.out) (o : Int))
          rw [ents_len] at HO
          clear hJ
          go_wp2_with (go_at_call 12; refine Hid.out ?_)
          refine Lib.hid ?_
          refine HO.out.mono ?_
          rintro _ w3 ⟨⟨A3, c3, rfl, hrow⟩, hL3⟩
          have HV : Hid (RowV w0 g g (ents l f k) (.slice A3 (opens (o : Int) (ents l f k) k).length c3) (opens (o : Int) (ents l f k) k) w3) := Lib.hid ⟨hL3, _, hrow⟩
          have hRk := opens_len (o : Int) (ents l f k) k
          obtain ⟨m, hm⟩ : ∃ m, (opens (o : Int) (ents l f k) k).length = m := ⟨_, rfl⟩
          rw [hm] at HV hRk ⊢
          have HM := Lib.hid hm
          clear hm hrow hL3 HO
          go_wp2_with fail
          go_loopw [11, 12] (fun v11 v12 wr => ∃ i : Nat, i ≤ k ∧ v11 = .int .i64 ((opens (o : Int) (ents l f k) i).length : Int) ∧ v12 = .int .i64 i ∧ wr = w3) (fun _ v12 _ => k - (intOf v12).toNat)
          case atStart => exact ⟨0, by omega, rfl, rfl, rfl⟩
          case round =>
            obtain ⟨i, hi, rfl, rfl, rfl⟩ := hrel
            by_cases hlt2 : i < k
            · obtain ⟨b, off, X, rfl, hbl, hX, hEk, hcell⟩ := HA.out.at_ hlt2
              obtain ⟨b2, off2, rfl, hbl2, hcell2⟩ := HD.out i (by omega)
              have hwr : Below w.heap.size w wr := hb0.out.trans (HV.out.lv.2.mono HW0.out)
              have d0 := (hwr.cell (p := ⟨b, off + i, none⟩) hbl).trans hcell
              have d2 := (hwr.cell (p := ⟨b2, off2 + i, none⟩) hbl2).trans hcell2
              have hX0 : (0 : Int) ≤ (X : Int) := by omega
              have hX1 : (X : Int) < 256 := by omega
              have k0 : (0 : Int) ≤ (i : Int) := by omega
              have k1 : (i : Int) < (nd : Int) := by omega
              have hat := ents_at (f := f) hEk hlt2
              have hop := open_one o X (f i)
              by_cases hXo : X % 4 = o
              · have t3 : ((X : Int) % 4 != (o : Int)) = false := by simp; omega
                cases hf : f i with
                | true =>
                  rw [hf] at d2 hop hat
                  have hS := Lib.hid (congrArg List.length (opens_skip hat (by rw [hop]; simp)))
                  clear hEk hcell hcell2 hwr hat hop hXo hf
                  go_wp2_with fail
                  go_roundw
                  case rel => exact ⟨i + 1, by omega, by rw [hS.out], by go_num, by first | rfl | trivial⟩
                  case measure => simp [intOf]; omega
                | false =>
                  rw [hf] at d2 hop hat
                  have ho1 : openE (o : Int) (oneE X false) = true := by rw [hop]; simp [hXo]
                  have hS := Lib.hid (congrArg List.length (opens_take hat ho1))
                  obtain ⟨bR, cR, hv, hlR, hcR⟩ := HV.out.at_ (opens_at hat ho1 hlt2)
                  rw [HM.out] at hv hlR
                  injection hv with hv1 hv2 hv3
                  subst hv1; subst hv3
                  clear hv2
                  obtain ⟨q, hq⟩ : ∃ q, (opens (o : Int) (ents l f k) i).length = q := ⟨_, rfl⟩
                  rw [List.length_append, hq] at hS
                  rw [hq] at hlR hcR ⊢
                  have q0 : (0 : Int) ≤ (q : Int) := by omega
                  have q1 : (q : Int) < (m : Int) := by omega
                  have q2 : decide (m ≤ q) = false := by simp; omega
                  clear hEk hcell hcell2 hwr hat hop hXo hf ho1 hq
                  go_wp2_with fail
                  go_roundw
                  case rel => exact ⟨i + 1, by omega, by rw [hS.out]; go_num, by go_num, by first | rfl | trivial⟩
                  case measure => simp [intOf]; omega
              · have t3 : ((X : Int) % 4 != (o : Int)) = true := by simp; omega
                have hS := Lib.hid (congrArg List.length (opens_skip hat (by rw [hop]; simp [hXo])))
                clear hEk hcell hcell2 hwr hat hop hXo d2
                go_wp2_with fail
                go_roundw
                case rel => exact ⟨i + 1, by omega, by rw [hS.out], by go_num, by first | rfl | trivial⟩
                case measure => simp [intOf]; omega
            · obtain rfl : i = k := by omega
              rw [HM.out]
              have HJ2 : Hid (OJ w0 g g l f i wr) := Lib.hid HV.out.lv
              go_wp2_with fail
              go_roundw
              case rel => exact ⟨o + 1, by omega, by go_num, HJ2⟩
              case measure => simp [intOf]; omega
        · obtain rfl : o = 4 := by omega
          have HB := Lib.hid hJ.out.2
          clear hJ
          go_wp2_with fail
          go_ret
          exact ⟨rfl, hb0.out.trans (HB.out.mono HW0.out)⟩
end Go.Proofs.Ytfidihmiadjpjaa
