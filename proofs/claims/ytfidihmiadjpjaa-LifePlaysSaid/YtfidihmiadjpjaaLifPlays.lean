/- straddlelaw14.LifePlays returns true. -/
import Derived.Test.YtfidihmiadjpjaaLifPlR1
import Derived.Test.YtfidihmiadjpjaaLifPlR2
import Derived.Test.YtfidihmiadjpjaaLifPlR3
import Derived.Test.YtfidihmiadjpjaaLifPlR4a
import Derived.Test.YtfidihmiadjpjaaLifPlR4b
import Derived.Test.YtfidihmiadjpjaaLifPlR4c
import Derived.Test.YtfidihmiadjpjaaLifPlR4d
import Derived.Test.YtfidihmiadjpjaaLifPlR5a
import Derived.Test.YtfidihmiadjpjaaLifPlR5b
import Derived.Test.YtfidihmiadjpjaaLifPlR5c
import Derived.Test.YtfidihmiadjpjaaLifPlR5d
import Derived.Test.YtfidihmiadjpjaaLifPlQtt
import Derived.Test.YtfidihmiadjpjaaLifPlQtf
import Derived.Test.YtfidihmiadjpjaaLifPlQf
import Derived.Test.YtfidihmiadjpjaaLifPlM
import Derived.Test.YtfidihmiadjpjaaLifAct
import Derived.Test.YtfidihmiadjpjaaLifRead
import Derived.Test.YtfidihmiadjpjaaLifPlW
import Derived.Deep.RegionLaw
import Derived.Deep.RegionHeld3
import Derived.Deep.QuietTactic
import Derived.BigQuiet
set_option linter.unusedSimpArgs false
namespace Go.Proofs.Ytfidihmiadjpjaa
open Go.RowKit Go.Mem1 Go.LifMath

set_option maxRecDepth 100000 in
set_option maxHeartbeats 4000000 in
theorem plays_main (A : Option Addr) (n cp : Nat) (ow se si : Int) (l : List Ac) (w : World) (hA : Acts w w.heap.size A n l) (hn : n ≤ 100) :
    Calls Try.prog 3 #[.slice A n cp, .int .i64 ow, .int .i64 se, .int .i64 si] w (PTrue w) := by
  have HA := Lib.hid hA
  have t1 : decide ((100 : Int) < (n : Int)) = false := by simp; omega
  clear hA
  go_enter Try.func3, Try.ntmps3
  go_wp2_with (go_at_call 6; refine (lknown_ok _).mono ?_; rintro e w0 ⟨rfl, hb0⟩; replace hb0 := Lib.hid hb0)
  clear t1
  go_wp2_with (go_at_call 7; refine Hid.out ?_)
  refine Lib.hid ?_
  refine (new_any w0).mono ?_
  rintro _ w1 ⟨rfl, hN, hNb⟩
  obtain ⟨g, hg⟩ : ∃ g, w0.heap.size = g := ⟨_, rfl⟩
  rw [hg] at hN hNb ⊢
  have HW0 : Hid (w.heap.size ≤ g) := Lib.hid (by rw [← hg]; exact hb0.out.size)
  have HP0 : Hid (PlJ w0 g g (.slice none 0 0) 0 w1) := Lib.hid ⟨[], ⟨⟨_, ⟨hN, fun _ h => by cases h⟩, fun j hj => by cases hj⟩, World.ownsRow_nil _ _ _ _, hNb⟩, Nat.le_refl _⟩
  clear hN hg hNb
  go_wp2_with fail
  go_loopw [10, 11] (fun v10 v11 wr => ∃ i : Nat, i ≤ n ∧ v11 = .int .i64 i ∧ Hid (PlJ w0 g g v10 i wr)) (fun _ v11 _ => n - (intOf v11).toNat)
  case atStart => exact ⟨0, by omega, rfl, HP0⟩
  case round =>
   obtain ⟨i, hi, rfl, hJ⟩ := hrel
   clear HP0
   by_cases hlt : i < n
   · obtain ⟨L, hP, hLi⟩ := hJ.out
     obtain ⟨⟨op, aow, ase, asi, id, q⟩, hx⟩ := HA.out.get hlt
     clear hJ
     change Code.wp _ (((Try.f3.body.map loopsOf).getD []).headD Code.skip) _ _ _
     by_cases hop : op = 1
     · by_cases hq : 1 ≤ q ∧ q ≤ 1000000
       · exact round_enter HA hb0 HW0 hn hlt hP hLi hx hop hq (Lib.hid (by
          intro v10 w2 hJ2
          intros
          refine ⟨?_, by simp [intOf]; omega⟩
          (repeat apply Exists.intro)
          refine ⟨?_, rfl⟩
          exact ⟨i + 1, by omega, by go_num, Lib.hid hJ2⟩))
       · exact round_refused HA hb0 HW0 hn hlt hP hLi hx hop hq (Lib.hid (by
          intro v10 w2 hJ2
          intros
          refine ⟨?_, by simp [intOf]; omega⟩
          (repeat apply Exists.intro)
          refine ⟨?_, rfl⟩
          exact ⟨i + 1, by omega, by go_num, Lib.hid hJ2⟩))
     · cases hid : hasB L.length id with
       | false =>
         by_cases hop2 : op = 2
         · exact round_name_fill HA hb0 HW0 hn hlt hP hLi hx hop2 hid (Lib.hid (by
          intro v10 w2 hJ2
          intros
          refine ⟨?_, by simp [intOf]; omega⟩
          (repeat apply Exists.intro)
          refine ⟨?_, rfl⟩
          exact ⟨i + 1, by omega, by go_num, Lib.hid hJ2⟩))
         · exact round_name_canc HA hb0 HW0 hn hlt hP hLi hx ⟨hop, hop2⟩ hid (Lib.hid (by
          intro v10 w2 hJ2
          intros
          refine ⟨?_, by simp [intOf]; omega⟩
          (repeat apply Exists.intro)
          refine ⟨?_, rfl⟩
          exact ⟨i + 1, by omega, by go_num, Lib.hid hJ2⟩))
       | true =>
         obtain ⟨k, hkL, hidk⟩ : ∃ k : Nat, k < L.length ∧ id = (k : Int) + 1 := by
           unfold hasB at hid
           rw [Bool.and_eq_true, decide_eq_true_eq, decide_eq_true_eq] at hid
           exact ⟨(id - 1).toNat, by omega, by omega⟩
         obtain ⟨⟨een, efi, eca, eop, eow, ese, esi⟩, hk⟩ : ∃ e, L[k]? = some e := ⟨_, List.getElem?_eq_getElem hkL⟩
         by_cases hq1 : q < 1
         · by_cases hop2 : op = 2
           · exact round_few_fill HA hb0 HW0 hn hlt hP hLi hx hop2 hk hidk hq1 (Lib.hid (by
          intro v10 w2 hJ2
          intros
          refine ⟨?_, by simp [intOf]; omega⟩
          (repeat apply Exists.intro)
          refine ⟨?_, rfl⟩
          exact ⟨i + 1, by omega, by go_num, Lib.hid hJ2⟩))
           · exact round_few_canc HA hb0 HW0 hn hlt hP hLi hx ⟨hop, hop2⟩ hk hidk hq1 (Lib.hid (by
          intro v10 w2 hJ2
          intros
          refine ⟨?_, by simp [intOf]; omega⟩
          (repeat apply Exists.intro)
          refine ⟨?_, rfl⟩
          exact ⟨i + 1, by omega, by go_num, Lib.hid hJ2⟩))
         · by_cases hq2 : eop < q
           · by_cases hop2 : op = 2
             · exact round_much_fill HA hb0 HW0 hn hlt hP hLi hx hop2 hk hidk ⟨by omega, hq2⟩ (Lib.hid (by
          intro v10 w2 hJ2
          intros
          refine ⟨?_, by simp [intOf]; omega⟩
          (repeat apply Exists.intro)
          refine ⟨?_, rfl⟩
          exact ⟨i + 1, by omega, by go_num, Lib.hid hJ2⟩))
             · exact round_much_canc HA hb0 HW0 hn hlt hP hLi hx ⟨hop, hop2⟩ hk hidk ⟨by omega, hq2⟩ (Lib.hid (by
          intro v10 w2 hJ2
          intros
          refine ⟨?_, by simp [intOf]; omega⟩
          (repeat apply Exists.intro)
          refine ⟨?_, rfl⟩
          exact ⟨i + 1, by omega, by go_num, Lib.hid hJ2⟩))
           · by_cases hcap : ∀ b n c, u10 = Value.slice (some ⟨b, 0, none⟩) n c → c = k + 1
             · by_cases hop2 : op = 2
               · exact round_set_fill_end HA hb0 HW0 hn hlt hP hLi hx hop2 hk hidk ⟨by omega, by omega⟩ hcap (Lib.hid (by
          intro v10 w2 hJ2
          intros
          refine ⟨?_, by simp [intOf]; omega⟩
          (repeat apply Exists.intro)
          refine ⟨?_, rfl⟩
          exact ⟨i + 1, by omega, by go_num, Lib.hid hJ2⟩))
               · exact round_set_canc_end HA hb0 HW0 hn hlt hP hLi hx ⟨hop, hop2⟩ hk hidk ⟨by omega, by omega⟩ hcap (Lib.hid (by
          intro v10 w2 hJ2
          intros
          refine ⟨?_, by simp [intOf]; omega⟩
          (repeat apply Exists.intro)
          refine ⟨?_, rfl⟩
          exact ⟨i + 1, by omega, by go_num, Lib.hid hJ2⟩))
             · have hcap2 : ∀ b n c, u10 = Value.slice (some ⟨b, 0, none⟩) n c → c ≠ k + 1 := by
                 intro b n c h e
                 refine hcap (fun b' n' c' h' => ?_)
                 rw [h] at h'
                 injection h' with _ _ h3
                 omega
               by_cases hop2 : op = 2
               · exact round_set_fill_mid HA hb0 HW0 hn hlt hP hLi hx hop2 hk hidk ⟨by omega, by omega⟩ hcap2 (Lib.hid (by
          intro v10 w2 hJ2
          intros
          refine ⟨?_, by simp [intOf]; omega⟩
          (repeat apply Exists.intro)
          refine ⟨?_, rfl⟩
          exact ⟨i + 1, by omega, by go_num, Lib.hid hJ2⟩))
               · exact round_set_canc_mid HA hb0 HW0 hn hlt hP hLi hx ⟨hop, hop2⟩ hk hidk ⟨by omega, by omega⟩ hcap2 (Lib.hid (by
          intro v10 w2 hJ2
          intros
          refine ⟨?_, by simp [intOf]; omega⟩
          (repeat apply Exists.intro)
          refine ⟨?_, rfl⟩
          exact ⟨i + 1, by omega, by go_num, Lib.hid hJ2⟩))
   · obtain rfl : i = n := by omega
     obtain ⟨L, hP, hLi⟩ := hJ.out
     obtain ⟨AM, cM, rfl⟩ := own_slice hP.m
     obtain ⟨m, hm⟩ : ∃ m, L.length = m := ⟨_, rfl⟩
     rw [hm] at hLi hP ⊢
     have HM := Lib.hid hm
     have HP := Lib.hid hP
     clear hJ hP hm
     obtain ⟨wQ, rfl⟩ : ∃ wQ, wQ = wr := ⟨_, rfl⟩
     obtain ⟨i0, hi0, hz0, hz1, hz2⟩ := info_parts i64_info
     have HI0 := Lib.hid hi0
     have HI1 := Lib.hid hz0
     have HI2 := Lib.hid hz1
     have HI3 := Lib.hid hz2
     have hm100 : m ≤ 100 := by omega
     clear hi0 hz0 hz1 hz2 HA
     have hW0 := HW0.out
     clear HW0
     go_wp2_with fail
     go_loopw [17, 18, 19] (fun v17 v18 v19 wr => ∃ k : Nat, k ≤ m ∧ v18 = .int .i64 (sumE se si L k) ∧ v19 = .int .i64 k ∧ Hid (OpenJ wQ ow L k v17 wr)) (fun _ _ v19 _ => m - (intOf v19).toNat)
     case atStart => exact ⟨0, by omega, rfl, rfl, Lib.hid ⟨World.ownsRow_nil _ _ _ _, Below.refl _ _⟩⟩
     case round =>
       obtain ⟨k, hk, rfl, rfl, hJ⟩ := hrel
       obtain ⟨hO, hB⟩ := hJ.out
       obtain ⟨A5, c5, e5⟩ := own_slice hO
       subst e5
       by_cases hlt : k < m
       · obtain ⟨⟨en, fi, ca, op, xow, xse, xsi⟩, hx⟩ : ∃ x, L[k]? = some x := ⟨_, List.getElem?_eq_getElem (by rw [HM.out]; exact hlt)⟩
         obtain ⟨S, hS⟩ : ∃ S, sumE se si L k = S := ⟨_, rfl⟩
         obtain ⟨q, hq⟩ : ∃ q, (opens ow L k).length = q := ⟨_, rfl⟩
         rw [hS]
         rw [hq] at hJ ⊢
         have HQ := Lib.hid hq
         clear hq hO hB
         change Code.wp _ (((Try.f3.body.map loopsOf).getD []).drop 1 |>.headD Code.skip) _ _ _
         cases o1 : (xow == ow) with
         | true =>
           cases o2 : decide (0 < op) with
           | true => exact asked_tt HM HP hJ hlt hm100 HQ hS hx o1 o2 (Lib.hid (by
          intro v17 S2 w2 hJ2 hS2
          intros
          refine ⟨?_, by simp [intOf]; omega⟩
          (repeat apply Exists.intro)
          refine ⟨?_, rfl⟩
          exact ⟨k + 1, by omega, by rw [hS2], by go_num, Lib.hid hJ2⟩))
           | false => exact asked_tf HM HP hJ hlt hm100 HQ hS hx o1 o2 (Lib.hid (by
          intro v17 S2 w2 hJ2 hS2
          intros
          refine ⟨?_, by simp [intOf]; omega⟩
          (repeat apply Exists.intro)
          refine ⟨?_, rfl⟩
          exact ⟨k + 1, by omega, by rw [hS2], by go_num, Lib.hid hJ2⟩))
         | false => exact asked_f HM HP hJ hlt hm100 HQ hS hx o1 (Lib.hid (by
          intro v17 S2 w2 hJ2 hS2
          intros
          refine ⟨?_, by simp [intOf]; omega⟩
          (repeat apply Exists.intro)
          refine ⟨?_, rfl⟩
          exact ⟨k + 1, by omega, by rw [hS2], by go_num, Lib.hid hJ2⟩))
       · obtain rfl : k = m := by omega
         have hP4 := HP.out.carry hB
         have hK := opens_len ow L k
         obtain ⟨q, hq⟩ : ∃ q, (opens ow L k).length = q := ⟨_, rfl⟩
         obtain ⟨S, hS⟩ : ∃ S, sumE se si L k = S := ⟨_, rfl⟩
         rw [hq] at hK hO ⊢
         rw [hS]
         have HQ := Lib.hid hq
         have HS := Lib.hid hS
         have HOP := Lib.hid (hP4.asked HM.out hq hO)
         obtain ⟨wA, rfl⟩ : ∃ wA, wA = wr := ⟨_, rfl⟩
         clear hJ hB hO hP4 hq hS
         go_wp2_with (go_at_call 12; refine Hid.out ?_)
         refine Lib.hid ?_
         refine HOP.out.mono ?_
         rintro _ w3 ⟨A3, c3, rfl, hU⟩
         have HU := Lib.hid (hU.sum se si)
         rw [HM.out, HS.out] at HU
         clear hU HOP
         go_wp2_with (go_at_call 13; refine Hid.out ?_)
         refine Lib.hid ?_
         refine HU.out.mono ?_
         rintro _ w4 ⟨rfl, hU⟩
         have HLN := Lib.hid hU.size
         rw [HM.out] at HLN
         have HFR := Lib.hid hU.fair
         clear hU HU
         go_wp2_with ((first
            | (go_at_call 14; refine HLN.out.mono ?_; rintro _ _ ⟨rfl, rfl⟩)
            | (go_at_call 15; refine Hid.out ?_)))
         refine Lib.hid ?_
         refine HFR.out.mono ?_
         rintro _ w5 ⟨rfl, hU⟩
         have HU := Lib.hid hU
         clear hU HFR HLN
         go_wp2_with fail
         go_loopw [23] (fun v23 wr => ∃ j : Nat, j ≤ q ∧ v23 = .int .i64 j ∧ Hid (UJ w0 g L wA.heap.size wQ.heap.size (.slice A3 q c3) (.slice A5 q c5) (opens ow L k) q wr)) (fun v23 _ => q - (intOf v23).toNat)
         case atStart => exact ⟨0, by omega, rfl, HU⟩
         case round =>
           clear HU
           obtain ⟨j, hj, rfl, HU⟩ := hrel
           by_cases hlt3 : j < q
           · obtain ⟨x, p3, p5, rfl, rfl, d3, d5⟩ := HU.out.get rfl rfl hlt3
             have j0 : (0 : Int) ≤ (j : Int) := by omega
             have j1 : (j : Int) < (q : Int) := by omega
             have HD := Lib.hid (fun nq => HU.out.carry (w' := wr.drewN nq) ⟨rfl, rfl, rfl, Nat.le_refl _, fun _ _ => rfl⟩)
             go_wp2_with fail
             go_quiet (fail)
             go_wp2_with fail
             go_roundw
             case rel => exact ⟨j + 1, by omega, by go_num, Lib.hid (HD.out _)⟩
             case measure => simp [intOf]; omega
           · obtain rfl : j = q := by omega
             have HPA := Lib.hid (HU.out.past HM.out)
             go_wp2_with (go_at_call 11; refine Hid.out ?_)
             refine Lib.hid ?_
             refine HPA.out.mono ?_
             rintro _ w6 ⟨rfl, hb6⟩
             have HB6 := fun o => Lib.hid (hb0.out.trans ((HU.out.carry (bel_trans hb6 (bel_new w6 o))).bel.mono (by assumption)))
             clear hb6 HPA
             unfold entV
             go_wp2_with fail
             go_ret
             exact ⟨rfl, (HB6 _).out⟩
end Go.Proofs.Ytfidihmiadjpjaa
