/- straddlelaw4.MsgBack returns true. -/
import Derived.Test.YtegjimagphdncaaDoorMsgTwo
import Derived.Test.YtegjimagphdncaaDoorTellsAll
import Derived.Test.YtegjimagphdncaaDoorMsgRound
import Derived.Test.YtegjimagphdncaaDoorMsgRefText
set_option linter.unusedSimpArgs false
namespace Go.Proofs.YtegjimagphdncaaDoor
open Go Go.RowKit Go.Mem1 Go.CodMath

set_option maxRecDepth 100000 in
set_option maxHeartbeats 1000000 in
theorem back_early (h : Hd) (A : Option Addr) (n c : Nat) (w : World) (hn : 200 < n) :
    Calls Tryd.prog 3 #[.agg #[.int .i64 h.k, .int .i64 h.s, .int .i64 h.a, .int .i64 h.b, .int .i64 h.c, .int .i64 h.d, .int .i64 h.e, .int .i64 h.f, .slice A n c]] w fun e w' => e = .returned (.bool true) ∧ Below w.heap.size w w' := by
  have hk := fun w' => mknown_ok w'
  have HK := Lib.hid hk
  clear hk
  have hb : decide ((200 : Int) < (n : Int)) = true := by simp; omega
  go_enter Tryd.func3, Tryd.ntmps3
  go_wp2_with (go_at_call 9; refine Hid.out ?_)
  refine Lib.hid ?_
  refine (HK.out _).mono ?_
  rintro e w1 ⟨rfl, B1⟩
  have c8 := (B1.cell (p := ⟨w.heap.size, 8, none⟩) (by simp)).trans (show _ = some (Value.slice A n c) by simp)
  go_wp2_with fail
  go_ret
  exact ⟨rfl, bel_trans (bel_new _ _) B1⟩
set_option maxRecDepth 100000 in
set_option maxHeartbeats 4000000 in
theorem back_main (h : Hd) (rs : List R5) (A : Option Addr) (n c : Nat) (w : World) (hg : ErrType w) (hT : Tab w) (hok : h.ok) (hr : RowsAt w w.heap.size A n rs) (hn : n ≤ 200) :
    Calls Tryd.prog 3 #[.agg #[.int .i64 h.k, .int .i64 h.s, .int .i64 h.a, .int .i64 h.b, .int .i64 h.c, .int .i64 h.d, .int .i64 h.e, .int .i64 h.f, .slice A n c]] w fun e w' => e = .returned (.bool true) ∧ Below w.heap.size w w' := by
  have hk := fun w' => mknown_ok w'
  have HK := Lib.hid hk
  have HR := Lib.hid hr
  have HO := Lib.hid hok
  have HG := Lib.hid hg
  have HT := Lib.hid hT
  have e1 : decide ((200 : Int) < (n : Int)) = false := by simp; omega
  have htext := fun w' (k : Below w.heap.size w w') => (show Calls Tryd.prog 14 #[.agg #[.int .i64 h.k, .int .i64 h.s, .int .i64 h.a, .int .i64 h.b, .int .i64 h.c, .int .i64 h.d, .int .i64 h.e, .int .i64 h.f, .slice A n c]] w' fun r w'' => r = .returned (.string (textOf dtx h rs)) ∧ Below w'.heap.size w' w'' from text_any numTFull h rs A n c w' ((hr.carry k).wider k.size) (hT.keep k) hok hr.ok (by omega))
  have hof := fun w' (k : Below w.heap.size w w') => of_msg h rs A n c w' ((hr.carry k).wider k.size) (by omega)
  have hrt := fun w' A' n' c' (q : RowsAt w' w'.heap.size A' n' rs) (qn : n' ≤ 1000) => refText_msg h rs A' n' c' w' q hok hr.ok qn
  have HTX := Lib.hid htext
  have HOF := Lib.hid hof
  have HRT := Lib.hid hrt
  obtain ⟨TX, hTX⟩ : ∃ TX, TX = textOf dtx h rs := ⟨_, rfl⟩
  rw [← hTX] at HTX HRT
  clear hk hr hok hg hT htext hof hrt hTX
  go_enter Tryd.func3, Tryd.ntmps3
  go_wp2_with (go_at_call 9; refine Hid.out ?_)
  refine Lib.hid ?_
  refine (HK.out _).mono ?_
  rintro e w1 ⟨rfl, B1⟩
  have hba : Box w1 w.heap.size 25 #[.int .i64 h.k, .int .i64 h.s, .int .i64 h.a, .int .i64 h.b, .int .i64 h.c, .int .i64 h.d, .int .i64 h.e, .int .i64 h.f, .slice A n c] := (Box.fresh w _ _ rfl).kept_below B1 (by simp)
  have Bw1 : Below w.heap.size w w1 := bel_trans (bel_new _ _) B1
  obtain ⟨a0, a1, a2, a3, a4, a5, a6, a7, a8⟩ := box_cells9 hba
  have HBA := Lib.hid hba
  clear hba B1
  go_wp2_with (go_at_call 10; refine Hid.out ?_)
  refine Lib.hid ?_
  by_cases hc : MsgMath.chk h.k h.s n = 0
  · refine (encode_ok h rs A n c w1 HO.out ((HR.out.carry Bw1).wider Bw1.size) hc).mono ?_
    rintro e w2 ⟨A2, k2, rfl, hk2, hl2, hy2, B2⟩
    have Bw2 : Below w.heap.size w w2 := bel_trans Bw1 B2
    have hb2 := HBA.out.kept_below B2 HBA.out.there
    obtain ⟨b0, b1, b2, b3, b4, b5, b6, b7, b8⟩ := box_cells9 hb2
    have HB2 := Lib.hid hb2
    have HY2 := Lib.hid hy2
    have HK2 := Lib.hid hk2
    have HC := Lib.hid hc
    clear hb2 hy2 hk2 hc a0 a1 a2 a3 a4 a5 a6 a7 a8 B2 HBA
    go_wp2_with (go_at_call 12; refine Hid.out ?_)
    refine Lib.hid ?_
    refine (HOF.out _ Bw2).mono ?_
    rintro e w3 ⟨A3, n3, c3, rfl, hr3, _, B3⟩
    have hn3 : n3 = n := hr3.len.symm.trans HR.out.len
    have HR3 := Lib.hid hr3
    have HN3 := Lib.hid hn3
    have HB3 := Lib.hid B3
    clear hr3 hn3 B3
    go_wp2_with (go_at_call 11; refine Hid.out ?_)
    refine Lib.hid ?_
    refine (refEncode_ok h rs A3 n3 c3 _ HO.out HR3.out (by rw [HN3.out]; exact HC.out)).mono ?_
    rintro e w4 ⟨A4, k4, rfl, hk4, hy4, B4⟩
    have B24 := bel_trans HB3.out B4
    have Bw4 : Below w.heap.size w w4 := bel_trans Bw2 B24
    have hb4 := HB2.out.kept_below B24 HB2.out.there
    obtain ⟨d0, d1, d2, d3, d4, d5, d6, d7, d8⟩ := box_cells9 hb4
    have HB4 := Lib.hid hb4
    have HY4 := Lib.hid hy4
    have hy24 := HY2.out.carry B24
    have HY24 := Lib.hid hy24
    have htn := fun w' => tells_nil none 0 0 w'
    have HTN := Lib.hid htn
    obtain ⟨LB, hLB⟩ : ∃ LB, LB = (encOf h rs).length := ⟨_, rfl⟩
    rw [← hLB] at hl2 ⊢
    have HLB := Lib.hid hLB
    clear hb4 hy4 hy24 htn hLB b0 b1 b2 b3 b4 b5 b6 b7 b8 HK d0 d1 d2 d3 d4 d5 d6 d7 d8
    go_wp2_with fail
    have B45 := bel_new w4 (.cells #[.slice none 0 0, .int .i64 0] 34)
    have hbw : Box (w4.alloc (.cells #[.slice none 0 0, .int .i64 0] 34)) w4.heap.size 34 #[.slice none 0 0, .int .i64 0] := Box.fresh w4 _ _ rfl
    have hz5 : w4.heap.size < (w4.alloc (.cells #[.slice none 0 0, .int .i64 0] 34)).heap.size := by simp
    generalize (w4.alloc (.cells #[.slice none 0 0, .int .i64 0] 34)) = W5 at *
    have Bw5 : Below w.heap.size w W5 := bel_trans Bw4 B45
    have hb5 := HB4.out.kept_below B45 HB4.out.there
    have hyA := HY24.out.carry (B45.mono B24.size)
    have hyB := HY4.out.carry B45
    rw [← HLB.out] at hyA hyB
    obtain ⟨SB, hSB⟩ : ∃ SB, SB = strOf (encOf h rs) := ⟨_, rfl⟩
    have keepS := fun w' (k : Below W5.heap.size W5 w') => (⟨box_cells9 (hb5.kept_below k hb5.there), ⟨((hbw.kept_below k hbw.there).reads 0).trans rfl, ((hbw.kept_below k hbw.there).reads 1).trans rfl⟩, by rw [hSB]; exact conv_str (hyA.carry (k.mono (Nat.le_of_lt (Nat.lt_of_le_of_lt B24.size hz5)))) k2, by rw [hSB]; exact conv_str (hyB.carry (k.mono (Nat.le_of_lt hz5))) k4⟩ : (w'.cell? ⟨w.heap.size, 0, none⟩ = some (.int .i64 h.k) ∧ w'.cell? ⟨w.heap.size, 1, none⟩ = some (.int .i64 h.s) ∧ w'.cell? ⟨w.heap.size, 2, none⟩ = some (.int .i64 h.a) ∧ w'.cell? ⟨w.heap.size, 3, none⟩ = some (.int .i64 h.b) ∧ w'.cell? ⟨w.heap.size, 4, none⟩ = some (.int .i64 h.c) ∧ w'.cell? ⟨w.heap.size, 5, none⟩ = some (.int .i64 h.d) ∧ w'.cell? ⟨w.heap.size, 6, none⟩ = some (.int .i64 h.e) ∧ w'.cell? ⟨w.heap.size, 7, none⟩ = some (.int .i64 h.f) ∧ w'.cell? ⟨w.heap.size, 8, none⟩ = some (.slice A n c)) ∧ (w'.cell? ⟨w4.heap.size, 0, none⟩ = some (.slice none 0 0) ∧ w'.cell? ⟨w4.heap.size, 1, none⟩ = some (.int .i64 0)) ∧ (convert 27 9 (.slice A2 LB k2)).run Tryd.prog w' = .ok (.string SB) w' ∧ (convert 27 9 (.slice A4 LB k4)).run Tryd.prog w' = .ok (.string SB) w')
    have KS := Lib.hid keepS
    have HB5 := Lib.hid hb5
    have HYA := Lib.hid hyA
    have HBW := Lib.hid hbw
    have hS0 := keepS W5 (Below.refl _ _)
    have B50 : Below W5.heap.size W5 W5.drew := (Below.refl _ _).drew
    clear keepS hb5 hyA hyB hSB hbw HB4 HY4 HY24 HB2 HY2 B45
    go_region_held3 (fun w' => (w'.cell? ⟨w.heap.size, 0, none⟩ = some (.int .i64 h.k) ∧ w'.cell? ⟨w.heap.size, 1, none⟩ = some (.int .i64 h.s) ∧ w'.cell? ⟨w.heap.size, 2, none⟩ = some (.int .i64 h.a) ∧ w'.cell? ⟨w.heap.size, 3, none⟩ = some (.int .i64 h.b) ∧ w'.cell? ⟨w.heap.size, 4, none⟩ = some (.int .i64 h.c) ∧ w'.cell? ⟨w.heap.size, 5, none⟩ = some (.int .i64 h.d) ∧ w'.cell? ⟨w.heap.size, 6, none⟩ = some (.int .i64 h.e) ∧ w'.cell? ⟨w.heap.size, 7, none⟩ = some (.int .i64 h.f) ∧ w'.cell? ⟨w.heap.size, 8, none⟩ = some (.slice A n c)) ∧ (w'.cell? ⟨w4.heap.size, 0, none⟩ = some (.slice none 0 0) ∧ w'.cell? ⟨w4.heap.size, 1, none⟩ = some (.int .i64 0)) ∧ (convert 27 9 (.slice A2 LB k2)).run Tryd.prog w' = .ok (.string SB) w' ∧ (convert 27 9 (.slice A4 LB k4)).run Tryd.prog w' = .ok (.string SB) w')
      (first | exact hS0 | exact KS.out _ B50 | exact KS.out _ BA | exact KS.out _ BB | exact KS.out _ BC | exact KS.out _ BD)
      ((first | (go_at_call 13; refine (HTN.out _).mono ?_; rintro e wA ⟨rfl, Ba⟩; have BA : Below W5.heap.size W5 wA := B50.trans Ba)
              | (go_at_call 14; refine (HTX.out _ (bel_trans Bw5 BA)).mono ?_; rintro e wB ⟨rfl, Bb⟩; have BB : Below W5.heap.size W5 wB := bel_trans BA Bb)
              | (go_at_call 12; refine (HOF.out _ (bel_trans Bw5 BB)).mono ?_; rintro e wC ⟨Ac, nc, cc, rfl, hrC, _, Bc⟩; have BC : Below W5.heap.size W5 wC := bel_trans BB Bc)
              | (go_at_call 15; refine (HRT.out _ Ac nc cc hrC (by have q1 := hrC.len; have q2 := HR.out.len; omega)).mono ?_; rintro e wD ⟨rfl, Bd⟩; have BD : Below W5.heap.size W5 wD := bel_trans BC Bd)))
    all_goals
      have BwD : Below w.heap.size w wD := bel_trans Bw5 BD
      have q1 := ((HBW.out.kept_below BD HBW.out.there).reads 1).trans (show _ = some (Value.int .i64 0) from rfl)
      have hyD := HYA.out.carry (BD.mono (Nat.le_of_lt (Nat.lt_of_le_of_lt B24.size hz5)))
      have hbD := HB5.out.kept_below BD HB5.out.there
      have HBD := Lib.hid hbD
      have hyD2 := hyD.wider (show w2.heap.size ≤ wD.heap.size from Nat.le_trans B24.size (Nat.le_trans (Nat.le_of_lt hz5) BD.size))
      have hlr : rs.length = n := HR.out.len
      have hlb : LB ≤ 1000000 := by
        have := encOf_len h rs HO.out HR.out.ok (by omega)
        rw [HLB.out]; omega
      have hdec := decode_any A2 LB k2 (encOf h rs) wD hlb HK2.out hyD2
      rw [decOut_enc h rs HO.out HR.out.ok (by omega) (by rw [hlr]; exact HC.out)] at hdec
      have HDC := Lib.hid hdec
      have Hq1 := Lib.hid q1
      clear hyD hyD2 hbD hlb hdec hS0 KS B50 Ba Bb Bc Bd BA BB BC BD HBW HYA HB5
      go_wp2_with (go_at_call 16; refine Hid.out ?_)
      refine Lib.hid ?_
      refine HDC.out.mono ?_
      rintro e w6 ⟨v6, A6, n6, c6, rfl, hr6, _, B6, hv6, _⟩
      obtain rfl := hv6 rfl
      dsimp only at hr6 ⊢
      have Bw6 : Below w.heap.size w w6 := bel_trans BwD B6
      have hb6 := HBD.out.kept_below B6 HBD.out.there
      have HR6 := Lib.hid hr6
      have HB6 := Lib.hid hb6
      clear hr6 hv6 hb6 HBD B6 q1
      go_wp2_with fail
      have B67 := bel_new w6 (.cells #[.int .i64 h.k, .int .i64 h.s, .int .i64 h.a, .int .i64 h.b, .int .i64 h.c, .int .i64 h.d, .int .i64 h.e, .int .i64 h.f, .slice A6 n6 c6] 25)
      have hbx : Box (w6.alloc (.cells #[.int .i64 h.k, .int .i64 h.s, .int .i64 h.a, .int .i64 h.b, .int .i64 h.c, .int .i64 h.d, .int .i64 h.e, .int .i64 h.f, .slice A6 n6 c6] 25)) w6.heap.size 25 #[.int .i64 h.k, .int .i64 h.s, .int .i64 h.a, .int .i64 h.b, .int .i64 h.c, .int .i64 h.d, .int .i64 h.e, .int .i64 h.f, .slice A6 n6 c6] := Box.fresh w6 _ _ rfl
      generalize (w6.alloc (.cells #[.int .i64 h.k, .int .i64 h.s, .int .i64 h.a, .int .i64 h.b, .int .i64 h.c, .int .i64 h.d, .int .i64 h.e, .int .i64 h.f, .slice A6 n6 c6] 25)) = W7 at *
      have Bw7 : Below w.heap.size w W7 := bel_trans Bw6 B67
      have hb7 := HB6.out.kept_below B67 HB6.out.there
      have hr7 := (HR6.out.carry B67).wider B67.size
      have hl6 := HR6.out.len
      have hss : sameB h h rs rs = true := sameB_iff.2 ⟨rfl, rfl⟩
      have keepS := fun w' (k : Below W7.heap.size W7 w') => (⟨box_cells9 (hb7.kept_below k hb7.there), box_cells9 (hbx.kept_below k hbx.there)⟩ : (w'.cell? ⟨w.heap.size, 0, none⟩ = some (.int .i64 h.k) ∧ w'.cell? ⟨w.heap.size, 1, none⟩ = some (.int .i64 h.s) ∧ w'.cell? ⟨w.heap.size, 2, none⟩ = some (.int .i64 h.a) ∧ w'.cell? ⟨w.heap.size, 3, none⟩ = some (.int .i64 h.b) ∧ w'.cell? ⟨w.heap.size, 4, none⟩ = some (.int .i64 h.c) ∧ w'.cell? ⟨w.heap.size, 5, none⟩ = some (.int .i64 h.d) ∧ w'.cell? ⟨w.heap.size, 6, none⟩ = some (.int .i64 h.e) ∧ w'.cell? ⟨w.heap.size, 7, none⟩ = some (.int .i64 h.f) ∧ w'.cell? ⟨w.heap.size, 8, none⟩ = some (.slice A n c)) ∧ (w'.cell? ⟨w6.heap.size, 0, none⟩ = some (.int .i64 h.k) ∧ w'.cell? ⟨w6.heap.size, 1, none⟩ = some (.int .i64 h.s) ∧ w'.cell? ⟨w6.heap.size, 2, none⟩ = some (.int .i64 h.a) ∧ w'.cell? ⟨w6.heap.size, 3, none⟩ = some (.int .i64 h.b) ∧ w'.cell? ⟨w6.heap.size, 4, none⟩ = some (.int .i64 h.c) ∧ w'.cell? ⟨w6.heap.size, 5, none⟩ = some (.int .i64 h.d) ∧ w'.cell? ⟨w6.heap.size, 6, none⟩ = some (.int .i64 h.e) ∧ w'.cell? ⟨w6.heap.size, 7, none⟩ = some (.int .i64 h.f) ∧ w'.cell? ⟨w6.heap.size, 8, none⟩ = some (.slice A6 n6 c6)))
      have hs1 := fun w' (k : Below W7.heap.size W7 w') => same_any h h A6 A n6 n c6 c rs rs w' W7.heap.size w.heap.size (hr7.carry k) (HR.out.carry (bel_trans Bw7 k)) k.size (bel_trans Bw7 k).size (by unfold maxLen; omega)
      simp only [hss] at hs1
      have hofx := fun w' (k : Below W7.heap.size W7 w') => of_msg h rs A6 n6 c6 w' ((hr7.carry k).wider k.size) (by omega)
      have KS := Lib.hid keepS
      have HS1 := Lib.hid hs1
      have HSS := Lib.hid hss
      have HOX := Lib.hid hofx
      have hS0 := keepS W7 (Below.refl _ _)
      have B70 : Below W7.heap.size W7 W7.drew := (Below.refl _ _).drew
      clear keepS hs1 hss hofx hb7 hr7 hbx HB6 B67
      go_region_held3 (fun w' => (w'.cell? ⟨w.heap.size, 0, none⟩ = some (.int .i64 h.k) ∧ w'.cell? ⟨w.heap.size, 1, none⟩ = some (.int .i64 h.s) ∧ w'.cell? ⟨w.heap.size, 2, none⟩ = some (.int .i64 h.a) ∧ w'.cell? ⟨w.heap.size, 3, none⟩ = some (.int .i64 h.b) ∧ w'.cell? ⟨w.heap.size, 4, none⟩ = some (.int .i64 h.c) ∧ w'.cell? ⟨w.heap.size, 5, none⟩ = some (.int .i64 h.d) ∧ w'.cell? ⟨w.heap.size, 6, none⟩ = some (.int .i64 h.e) ∧ w'.cell? ⟨w.heap.size, 7, none⟩ = some (.int .i64 h.f) ∧ w'.cell? ⟨w.heap.size, 8, none⟩ = some (.slice A n c)) ∧ (w'.cell? ⟨w6.heap.size, 0, none⟩ = some (.int .i64 h.k) ∧ w'.cell? ⟨w6.heap.size, 1, none⟩ = some (.int .i64 h.s) ∧ w'.cell? ⟨w6.heap.size, 2, none⟩ = some (.int .i64 h.a) ∧ w'.cell? ⟨w6.heap.size, 3, none⟩ = some (.int .i64 h.b) ∧ w'.cell? ⟨w6.heap.size, 4, none⟩ = some (.int .i64 h.c) ∧ w'.cell? ⟨w6.heap.size, 5, none⟩ = some (.int .i64 h.d) ∧ w'.cell? ⟨w6.heap.size, 6, none⟩ = some (.int .i64 h.e) ∧ w'.cell? ⟨w6.heap.size, 7, none⟩ = some (.int .i64 h.f) ∧ w'.cell? ⟨w6.heap.size, 8, none⟩ = some (.slice A6 n6 c6)))
        (first | exact hS0 | exact KS.out _ B70 | exact KS.out _ BA | exact KS.out _ BB | exact KS.out _ BC | exact KS.out _ BD)
        ((first | (go_at_call 17; refine (HS1.out _ B70).mono ?_; rintro e wA ⟨rfl, Ba⟩; have BA : Below W7.heap.size W7 wA := B70.trans Ba)
                | (go_at_call 12; ((with_reducible refine (HOX.out _ BA).mono ?_)); rintro e wB ⟨Ab, nb, cb, rfl, hrB, _, Bb⟩; have BB : Below W7.heap.size W7 wB := bel_trans BA Bb)
                | (go_at_call 12; ((with_reducible refine (HOF.out _ (bel_trans Bw7 BB)).mono ?_)); rintro e wC ⟨Ac, nc, cc, rfl, hrC, _, Bc⟩; have BC : Below W7.heap.size W7 wC := bel_trans BB Bc)
                | (go_at_call 18; refine (refSame_any h h Ab Ac nb nc cb cc rs rs _ _ _ (hrB.carry Bc) hrC Bc.size (Nat.le_refl _) (by have q1 := hrB.len; unfold maxLen; omega)).mono ?_; rintro e wD ⟨rfl, Bd⟩; rw [HSS.out]; have BD : Below W7.heap.size W7 wD := bel_trans BC Bd)))
      all_goals
        have Bfin : Below w.heap.size w wD := bel_trans Bw7 BD
        clear hS0 KS B70 Ba Bb Bc Bd BA BB BC BD
        go_wp2_with fail
        go_ret
        exact ⟨rfl, Bfin⟩
  · obtain ⟨X, hX⟩ : ∃ X, X = MsgMath.chk h.k h.s n := ⟨_, rfl⟩
    have hX0 : X ≠ 0 := by rw [hX]; exact hc
    have hX5 : X ≤ 5 := by rw [hX]; exact MsgMath.chk_bd _ _ _
    refine (encode_bad h A n c w1 hc).mono ?_
    rintro e w2 ⟨b, rfl, hE, B2⟩
    rw [← hX] at hE
    have Bw2 : Below w.heap.size w w2 := bel_trans Bw1 B2
    have hb2 := HBA.out.kept_below B2 HBA.out.there
    obtain ⟨b0, b1, b2, b3, b4, b5, b6, b7, b8⟩ := box_cells9 hb2
    have HB2 := Lib.hid hb2
    have HE2 := Lib.hid hE
    have HX := Lib.hid hX
    have HX0 := Lib.hid hX0
    clear hb2 hE hX hX0 hc a0 a1 a2 a3 a4 a5 a6 a7 a8 B2 HBA
    go_wp2_with (go_at_call 12; refine Hid.out ?_)
    refine Lib.hid ?_
    refine (HOF.out _ Bw2).mono ?_
    rintro e w3 ⟨A3, n3, c3, rfl, hr3, _, B3⟩
    have hn3 : n3 = n := hr3.len.symm.trans HR.out.len
    have HN3 := Lib.hid hn3
    have HB3 := Lib.hid B3
    clear hr3 hn3 B3
    go_wp2_with (go_at_call 11; refine Hid.out ?_)
    refine Lib.hid ?_
    have hre := refEncode_bad h A3 n3 c3 w3 (by rw [HN3.out, ← HX.out]; exact HX0.out)
    refine hre.mono ?_
    rintro e w4 ⟨A4, m4, c4, rfl, _, hp4, B4⟩
    rw [HN3.out, ← HX.out]
    have B24 := bel_trans HB3.out B4
    have Bw4 : Below w.heap.size w w4 := bel_trans Bw2 B24
    have hb4 := HB2.out.kept_below B24 HB2.out.there
    have HB4 := Lib.hid hb4
    have HP4 := Lib.hid hp4
    clear hre hb4 hp4 b0 b1 b2 b3 b4 b5 b6 b7 b8 HK
    go_wp2_with fail
    have B45 := bel_new w4 (.cells #[.slice A4 m4 c4, .int .i64 (X : Int)] 34)
    have hbw : Box (w4.alloc (.cells #[.slice A4 m4 c4, .int .i64 (X : Int)] 34)) w4.heap.size 34 #[.slice A4 m4 c4, .int .i64 (X : Int)] := Box.fresh w4 _ _ rfl
    generalize (w4.alloc (.cells #[.slice A4 m4 c4, .int .i64 (X : Int)] 34)) = W5 at *
    have Bw5 : Below w.heap.size w W5 := bel_trans Bw4 B45
    have B25 : Below w2.heap.size w2 W5 := bel_trans B24 B45
    have hb5 := HB4.out.kept_below B45 HB4.out.there
    obtain ⟨SB, hSB⟩ : ∃ SB, SB = strOf [] := ⟨_, rfl⟩
    have keepS := fun w' (k : Below W5.heap.size W5 w') => (⟨box_cells9 (hb5.kept_below k hb5.there), ⟨((hbw.kept_below k hbw.there).reads 0).trans rfl, ((hbw.kept_below k hbw.there).reads 1).trans rfl⟩, by rw [hSB]; exact conv_str (Byt.empty w' 0 none) 0⟩ : (w'.cell? ⟨w.heap.size, 0, none⟩ = some (.int .i64 h.k) ∧ w'.cell? ⟨w.heap.size, 1, none⟩ = some (.int .i64 h.s) ∧ w'.cell? ⟨w.heap.size, 2, none⟩ = some (.int .i64 h.a) ∧ w'.cell? ⟨w.heap.size, 3, none⟩ = some (.int .i64 h.b) ∧ w'.cell? ⟨w.heap.size, 4, none⟩ = some (.int .i64 h.c) ∧ w'.cell? ⟨w.heap.size, 5, none⟩ = some (.int .i64 h.d) ∧ w'.cell? ⟨w.heap.size, 6, none⟩ = some (.int .i64 h.e) ∧ w'.cell? ⟨w.heap.size, 7, none⟩ = some (.int .i64 h.f) ∧ w'.cell? ⟨w.heap.size, 8, none⟩ = some (.slice A n c)) ∧ (w'.cell? ⟨w4.heap.size, 0, none⟩ = some (.slice A4 m4 c4) ∧ w'.cell? ⟨w4.heap.size, 1, none⟩ = some (.int .i64 (X : Int))) ∧ (convert 27 9 (.slice none 0 0)).run Tryd.prog w' = .ok (.string SB) w')
    have htn := fun w' (k : Below W5.heap.size W5 w') => tells_all numFull msgBytes (MsgMath.cut h.k) [] A4 m4 c4 X b w'
      (((bel_trans Bw5 k).cell (p := ⟨0, 0, none⟩) HG.out.lt).trans HG.out)
      ((HE2.out.carry (bel_trans B25 k)).wider (bel_trans B25 k).size)
      ((HP4.out.carry (bel_trans B45 k)).wider (bel_trans B45 k).size)
      (HT.out.keep (bel_trans Bw5 k))
      (fun x hx => by
        simp at hx; subst hx
        have := MsgMath.cut_bd h.k
        exact ⟨(show msgBytes.size ≤ 100 by decide), by unfold bd64; omega⟩) (by simp) (by omega) HX0.out
    have HTN := Lib.hid htn
    have KS := Lib.hid keepS
    have HBW := Lib.hid hbw
    have hS0 := keepS W5 (Below.refl _ _)
    have B50 : Below W5.heap.size W5 W5.drew := (Below.refl _ _).drew
    clear keepS htn hb5 hSB hbw HB4 HP4 HB2 HE2 B45 B25
    go_region_held3 (fun w' => (w'.cell? ⟨w.heap.size, 0, none⟩ = some (.int .i64 h.k) ∧ w'.cell? ⟨w.heap.size, 1, none⟩ = some (.int .i64 h.s) ∧ w'.cell? ⟨w.heap.size, 2, none⟩ = some (.int .i64 h.a) ∧ w'.cell? ⟨w.heap.size, 3, none⟩ = some (.int .i64 h.b) ∧ w'.cell? ⟨w.heap.size, 4, none⟩ = some (.int .i64 h.c) ∧ w'.cell? ⟨w.heap.size, 5, none⟩ = some (.int .i64 h.d) ∧ w'.cell? ⟨w.heap.size, 6, none⟩ = some (.int .i64 h.e) ∧ w'.cell? ⟨w.heap.size, 7, none⟩ = some (.int .i64 h.f) ∧ w'.cell? ⟨w.heap.size, 8, none⟩ = some (.slice A n c)) ∧ (w'.cell? ⟨w4.heap.size, 0, none⟩ = some (.slice A4 m4 c4) ∧ w'.cell? ⟨w4.heap.size, 1, none⟩ = some (.int .i64 (X : Int))) ∧ (convert 27 9 (.slice none 0 0)).run Tryd.prog w' = .ok (.string SB) w')
      (first | exact hS0 | exact KS.out _ B50 | exact KS.out _ BA | exact KS.out _ BB | exact KS.out _ BC | exact KS.out _ BD)
      ((first | (go_at_call 13; refine (HTN.out _ B50).mono ?_; rintro e wA ⟨rfl, Ba⟩; have BA : Below W5.heap.size W5 wA := B50.trans Ba)
              | (go_at_call 14; refine (HTX.out _ (bel_trans Bw5 BA)).mono ?_; rintro e wB ⟨rfl, Bb⟩; have BB : Below W5.heap.size W5 wB := bel_trans BA Bb)
              | (go_at_call 12; refine (HOF.out _ (bel_trans Bw5 BB)).mono ?_; rintro e wC ⟨Ac, nc, cc, rfl, hrC, _, Bc⟩; have BC : Below W5.heap.size W5 wC := bel_trans BB Bc)
              | (go_at_call 15; refine (HRT.out _ Ac nc cc hrC (by have q1 := hrC.len; have q2 := HR.out.len; omega)).mono ?_; rintro e wD ⟨rfl, Bd⟩; have BD : Below W5.heap.size W5 wD := bel_trans BC Bd)))
    all_goals
      have BwD : Below w.heap.size w wD := bel_trans Bw5 BD
      have q1 := ((HBW.out.kept_below BD HBW.out.there).reads 1).trans (show _ = some (Value.int .i64 (X : Int)) from rfl)
      have hne : (((X : Nat) : Int) != 0) = true := by have := HX0.out; simp; omega
      clear hS0 KS B50 Ba Bb Bc Bd BA BB BC BD HBW
      go_wp2_with fail
      go_ret
      exact ⟨rfl, BwD⟩
end Go.Proofs.YtegjimagphdncaaDoor
