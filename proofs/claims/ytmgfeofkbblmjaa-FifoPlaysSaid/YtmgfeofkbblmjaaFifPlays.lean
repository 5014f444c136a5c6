/- straddlelaw9.FifoPlays returns true. -/
import Derived.Test.YtmgfeofkbblmjaaFifPlM
import Derived.Test.YtmgfeofkbblmjaaFifPlBad
import Derived.Test.YtmgfeofkbblmjaaFifPlR1
import Derived.Test.YtmgfeofkbblmjaaFifPlR2
import Derived.Test.YtmgfeofkbblmjaaFifPlR3
import Derived.Test.YtmgfeofkbblmjaaFifPlR4
import Derived.Test.YtmgfeofkbblmjaaFifAct
import Derived.Deep.RegionLaw
import Derived.Deep.RegionHeld3
set_option linter.unusedSimpArgs false
namespace Go.Proofs.Ytmgfeofkbblmjaa
open Go.RowKit Go.Mem1 Go.FifMath

set_option maxRecDepth 100000 in
set_option maxHeartbeats 4000000 in
theorem plays_main (A : Option Addr) (n cp R C : Nat) (l : List Ac) (w : World) (hA : Acts w w.heap.size A n l) (hn : n ≤ 100) (hR : 1 ≤ R ∧ R ≤ 20) (hC : 1 ≤ C ∧ C ≤ 100) :
    Calls Try.prog 3 #[.int .i64 R, .int .i64 C, .slice A n cp] w (PlTrue w) := by
  obtain ⟨i0, hi0, hz0, hz1, hz2⟩ := info_parts cell_info
  obtain ⟨j0, hj0, hy0, hy1, hy2⟩ := info_parts int_info
  have HI0 := Lib.hid hi0
  have HI1 := Lib.hid hz0
  have HI2 := Lib.hid hz1
  have HI3 := Lib.hid hz2
  have HJ0 := Lib.hid hj0
  have HJ1 := Lib.hid hy0
  have HJ2 := Lib.hid hy1
  have HJ3 := Lib.hid hy2
  have HA := Lib.hid hA
  have HN := Lib.hid (fun w1 => ar_new w1 (R := R) (C := C) (by omega) (by omega))
  obtain ⟨hR1, hR2⟩ := hR
  obtain ⟨hC1, hC2⟩ := hC
  have t1 : decide ((100 : Int) < (n : Int)) = false := by simp; omega
  have t2 : decide ((100 : Int) < (C : Int)) = false := by simp; omega
  have t3 : decide ((20 : Int) < (R : Int)) = false := by simp; omega
  have t4 : decide ((1 : Int) ≤ (R : Int)) = true := by simp; omega
  have t5 : decide ((R : Int) ≤ 1024) = true := by simp; omega
  have t6 : decide ((1 : Int) ≤ (C : Int)) = true := by simp; omega
  have t7 : decide ((C : Int) ≤ 4096) = true := by simp; omega
  clear hA hi0 hz0 hz1 hz2 hj0 hy0 hy1 hy2
  go_enter Try.func3, Try.ntmps3
  go_wp2_with ((first
    | (go_at_call 6; refine (fknown_ok _).mono ?_; rintro e w0 ⟨rfl, hb0⟩; replace hb0 := Lib.hid hb0)
    | (go_at_call 7; refine Hid.out ?_)))
  refine Lib.hid ?_
  refine (HN.out w0).mono ?_
  rintro _ w1 ⟨g, rfl, hAr, hB⟩
  obtain ⟨B, hBq⟩ : ∃ B, w0.heap.size = B := ⟨_, rfl⟩
  rw [hBq] at hAr hB
  have HP0 : Hid (PlJ w0 B g R C (.slice none 0 0) (.slice none 0 0) 0 w1) := Lib.hid ⟨[], [], ⟨hAr, World.ownsRow_nil _ _ _ _, World.ownsRow_nil _ _ _ _, hB⟩, rfl⟩
  have HW0 : Hid (w.heap.size ≤ B) := Lib.hid (by rw [← hBq]; exact hb0.out.size)
  clear hAr hB HN hBq
  go_wp2_with fail
  clear t1 t2 t3 t4 t5 t6 t7
  go_loopw [10, 11, 12, 13] (fun v10 v11 v12 v13 wr => ∃ (i : Nat) (nx : Int), i ≤ n ∧ v13 = .int .i64 i ∧ v12 = .int .i64 nx ∧ Hid (PlJ w0 B g R C v10 v11 nx wr)) (fun _ _ _ v13 _ => n - (intOf v13).toNat)
  case atStart => exact ⟨0, 0, by omega, rfl, rfl, HP0⟩
  case round =>
    obtain ⟨i, nx, hi, rfl, rfl, hJ⟩ := hrel
    clear HP0
    by_cases hlt : i < n
    · obtain ⟨M, F, hP, hnx⟩ := hJ.out
      subst hnx
      obtain ⟨⟨op, row, cl, v⟩, hx⟩ := HA.out.get hlt
      clear hJ
      change Code.wp _ (((Try.f3.body.map loopsOf).getD []).headD Code.skip) _ _ _
      by_cases hop : op = 1
      · by_cases hno : (0 ≤ row ∧ row < (R : Int)) ∧ M.length < C
        · cases F with
          | nil => exact round_new HA hb0 HW0 hn hR1 hR2 hC1 hC2 hlt hP hx hop hno.1 hno.2 (Lib.hid (by
          intro v10 v11 nx2 w2 hJ2
          intros
          refine ⟨?_, by simp [intOf]; omega⟩
          (repeat apply Exists.intro)
          refine ⟨?_, rfl⟩
          exact ⟨i + 1, nx2, by omega, by go_num, rfl, Lib.hid hJ2⟩))
          | cons c F => exact round_again HA hb0 HW0 hn hR1 hR2 hC1 hC2 hlt hP hx hop hno.1 hno.2 (Lib.hid (by
          intro v10 v11 nx2 w2 hJ2
          intros
          refine ⟨?_, by simp [intOf]; omega⟩
          (repeat apply Exists.intro)
          refine ⟨?_, rfl⟩
          exact ⟨i + 1, nx2, by omega, by go_num, rfl, Lib.hid hJ2⟩))
        · exact round_refused HA hb0 HW0 hn hR1 hR2 hC1 hC2 hlt hP hx hop hno (Lib.hid (by
          intro v10 v11 nx2 w2 hJ2
          intros
          refine ⟨?_, by simp [intOf]; omega⟩
          (repeat apply Exists.intro)
          refine ⟨?_, rfl⟩
          exact ⟨i + 1, nx2, by omega, by go_num, rfl, Lib.hid hJ2⟩))
      · exact round_out HA hb0 HW0 hn hR1 hR2 hC1 hC2 hlt hP hx hop (Lib.hid (by
          intro v10 v11 nx2 w2 hJ2
          intros
          refine ⟨?_, by simp [intOf]; omega⟩
          (repeat apply Exists.intro)
          refine ⟨?_, rfl⟩
          exact ⟨i + 1, nx2, by omega, by go_num, rfl, Lib.hid hJ2⟩))
    · obtain rfl : i = n := by omega
      obtain ⟨M, F, hP, hnx⟩ := hJ.out
      obtain ⟨AM, cM, rfl, hq1, hq2⟩ := hP.reads
      obtain ⟨AF, cF, rfl⟩ := own_slice hP.f
      obtain ⟨m, hm⟩ : ∃ m, M.length = m := ⟨_, rfl⟩
      obtain ⟨kF, hkF⟩ : ∃ kF, F.length = kF := ⟨_, rfl⟩
      have HM := Lib.hid hm
      have hfew := hP.few
      have HP := Lib.hid hP
      rw [hm, hkF] at HP hfew
      rw [hm, hkF]
      clear hJ hP hnx hm hkF hq1 hq2
      obtain ⟨wQ, rfl⟩ : ∃ wQ, wQ = wr := ⟨_, rfl⟩
      go_wp2_with fail
      go_loopw [20] (fun v20 wr => ∃ r : Nat, r ≤ R ∧ v20 = .int .i64 r ∧ Hid (PlB w0 B g R C (.slice AM m cM) (.slice AF kF cF) M M F F wr)) (fun v20 _ => R - (intOf v20).toNat)
      case atStart => exact ⟨0, by omega, rfl, HP⟩
      case round =>
        obtain ⟨r, hr, rfl, hP⟩ := hrel
        clear HP
        by_cases hrR : r < R
        · have HROW := Lib.hid (ar_row hP.out.ar hrR)
          have HP1 := Lib.hid (fun w' (hb : Below wr.heap.size wr w') => hP.out.carry hb)
          have t8 : decide (r < R) = true := by simpa using hrR
          obtain ⟨L, hL⟩ : ∃ L, rowOf M r = L := ⟨_, rfl⟩
          rw [hL] at HROW
          have HL := Lib.hid hL
          clear hL
          go_wp2_with (go_at_call 10; refine Hid.out ?_)
          refine Lib.hid ?_
          refine HROW.out.mono ?_
          rintro _ w2 ⟨A2, c2, rfl, ho2, hb2⟩
          have HV0 : Hid (PlV w0 B g R C (.slice AM m cM) (.slice AF kF cF) M F L (.slice A2 L.length c2) w2) := Lib.hid ⟨HP1.out w2 hb2, _, ho2⟩
          have HFR := Lib.hid (ar_front HV0.out.1.ar hrR)
          rw [HL.out] at HFR
          obtain ⟨nL, hnL⟩ : ∃ nL, L.length = nL := ⟨_, rfl⟩
          rw [hnL] at HV0 HFR ⊢
          have HNL := Lib.hid hnL
          clear hnL HROW HP1 ho2 hb2 hP
          go_wp2_with (go_at_call 11; refine HFR.out.mono ?_; rintro _ _ ⟨rfl, rfl⟩)
          obtain ⟨wS, rfl⟩ : ∃ wS, wS = wr := ⟨_, rfl⟩
          clear HFR
          go_loopw [22, 23, 24, 25] (fun v22 v23 v24 v25 wr => ∃ j q : Nat, j ≤ m ∧ v25 = .int .i64 j ∧ v22 = .int .i64 q ∧ v23 = .int .i64 (cur L q) ∧ v24 = .bool (decide (q < nL)) ∧ Hid ((rowOf (M.take j) r).length = q) ∧ Hid (PlV w0 B g R C (.slice AM m cM) (.slice AF kF cF) M F L (.slice A2 nL c2) wr)) (fun _ _ _ v25 _ => m - (intOf v25).toNat)
          case atStart => exact ⟨0, 0, by omega, rfl, rfl, rfl, rfl, Lib.hid (by simp [rowOf]), HV0⟩
          case round =>
            obtain ⟨j, q, hj, rfl, rfl, rfl, rfl, hq, hV⟩ := hrel
            clear HV0
            by_cases hjm : j < m
            · obtain ⟨x, hx⟩ : ∃ x, M[j]? = some x := ⟨_, List.getElem?_eq_getElem (by rw [HM.out]; exact hjm)⟩
              obtain ⟨bM, cM', hvM, hbM, k0, k1, k2⟩ := hV.out.1.cell hx
              injection hvM with hvM1 hvM2 hvM3
              subst hvM1; subst hvM3
              clear hvM2
              have j0 : (0 : Int) ≤ (j : Int) := by omega
              have j1 : (j : Int) < (m : Int) := by omega
              have t9 : decide (j < m) = true := by simpa using hjm
              obtain ⟨xc, xr, xv⟩ := x
              dsimp only at k0 k1 k2
              by_cases hxr : xr = r
              · subst hxr
                obtain ⟨hat, hqn⟩ := row_place hx
                rw [hq.out, HL.out] at hat
                rw [hq.out] at hqn
                obtain ⟨b2, c2', hv2, hb2, hc2⟩ := hV.out.at_ hat
                rw [HNL.out] at hv2
                injection hv2 with hv21 hv22 hv23
                subst hv21; subst hv23
                have hqL : q < nL := by
                  rw [← HNL.out]
                  rcases Nat.lt_or_ge q L.length with h | h
                  · exact h
                  · rw [List.getElem?_eq_none h] at hat; cases hat
                have HVA := Lib.hid (ar_value hV.out.1.ar (x := (xc, xr, xv)) (List.mem_of_getElem? hx))
                have HXD := Lib.hid (fun p => hV.out.carry (bel_drewN wr p))
                have HNX := Lib.hid (fun p => ar_next (HXD.out p).1.ar hrR (k := q) (x := (xc, xv)) (by rw [HL.out]; exact hat))
                rw [HL.out, HNL.out] at HNX
                have hcur := cur_at hat
                dsimp only at hc2 hcur HVA HNX
                rw [hcur]
                have hq100 : q ≤ 100 := by
                  have h1 := rowOf_len M xr
                  rw [HL.out, HNL.out, HM.out] at h1
                  omega
                have s1 : decide (nL ≤ q) = false := by simp; omega
                have s2 : decide (q < nL) = true := by simpa using hqL
                have s3 : (0 : Int) ≤ (q : Int) := by omega
                have s4 : (q : Int) < (nL : Int) := by omega
                rw [s2]
                have HQ := Lib.hid hqn
                clear hx hat hqn hV hcur hv22 hq hqL
                go_wp2_with (go_at_call 12; refine HVA.out.mono ?_; rintro _ _ ⟨rfl, rfl⟩)
                go_quiet (fail)
                go_wp2_with (go_at_call 13; refine (HNX.out _).mono ?_; rintro _ _ ⟨rfl, rfl⟩)
                go_roundw
                case rel => exact ⟨j + 1, q + 1, by omega, by go_num, by go_num, rfl, rfl, HQ, HXD.out _⟩
                case measure => simp [intOf]; omega
              · have HQ := Lib.hid ((row_past hx hxr).trans hq.out)
                have tx : ((xr : Int) != (r : Int)) = true := by simp; omega
                clear hx hxr hq
                go_wp2_with fail
                go_roundw
                case rel => exact ⟨j + 1, q, by omega, by go_num, rfl, rfl, rfl, HQ, hV⟩
                case measure => simp [intOf]; omega
            · obtain rfl : j = m := by omega
              have hqq : q = nL := by
                rw [← hq.out, ← HNL.out, ← HL.out, List.take_of_length_le (by rw [HM.out]; exact Nat.le_refl _)]
              subst hqq
              have HLN := Lib.hid (ar_len hV.out.1.ar hrR)
              rw [HL.out, HNL.out] at HLN
              have HEND := Lib.hid hV.out.1
              have s1 : decide (q < q) = false := by simp
              rw [s1]
              clear hV hq
              go_wp2_with (go_at_call 14; refine HLN.out.mono ?_; rintro _ _ ⟨rfl, rfl⟩)
              go_roundw
              case rel => exact ⟨r + 1, by omega, by go_num, HEND⟩
              case measure => simp [intOf]; omega
        · obtain rfl : r = R := by omega
          have HFREE := Lib.hid (ar_free hP.out.ar)
          rw [HM.out] at HFREE
          have HLB := Lib.hid (ar_len_bad hP.out.ar (row := (r : Int)) (by omega))
          have HB := Lib.hid hP.out.bel
          clear hP
          go_wp2_with ((first
            | (go_at_call 15; refine HFREE.out.mono ?_; rintro _ _ ⟨rfl, rfl⟩)
            | (go_at_call 14; refine HLB.out.mono ?_; rintro _ _ ⟨rfl, rfl⟩)))
          go_ret
          exact ⟨rfl, hb0.out.trans (HB.out.mono HW0.out)⟩
end Go.Proofs.Ytmgfeofkbblmjaa
