/- straddlelaw6.GridPlain returns true. -/
import Derived.Test.YtihdebgofjacpaaGrdKnown
set_option linter.unusedSimpArgs false
namespace Go.Proofs.Ytihdebgofjacpaa
open Go.RowKit Go.Mem1 Go.GridMath

def pl1 : List Stp := [(1, 1)]
theorem near1 (p : Int) : nearT pl1 p = if 1 ≤ p then min p 1000000 else 0 := by
  unfold nearT
  have e : ∀ q : Int, near pl1.reverse q = if 1 ≤ q then q else 0 := fun q => by
    show near [((1 : Int), (1 : Int))] q = _
    rw [near_cons]
    by_cases h : 1 ≤ q
    · rw [if_pos h, if_pos h, Int.emod_one]; omega
    · rw [if_neg h, if_neg h]; rfl
  rw [e]
  by_cases h : 1 ≤ p
  · rw [if_pos (by omega), if_pos h]
  · rw [if_neg (by omega), if_neg h]
theorem on1 (p : Int) : onT pl1 p = decide (1 ≤ p ∧ p ≤ 1000000) := by
  unfold onT
  rw [near1, Bool.eq_iff_iff, Bool.and_eq_true, decide_eq_true_iff, decide_eq_true_iff, decide_eq_true_iff]
  by_cases h : 1 ≤ p
  · rw [if_pos h]; omega
  · rw [if_neg h]; omega
theorem up1 (p : Int) : upT pl1 p = if 1 ≤ p ∧ p < 1000000 then (p + 1, true) else (0, false) := by
  unfold upT
  have e : atI pl1 p = if 1 ≤ p ∧ p ≤ 1000000 then some (1, 1) else none := by
    unfold atI
    show (if 1000000 < p then none else (if (1 : Int) ≤ p then some ((1 : Int), (1 : Int)) else none)) = _
    by_cases h : 1000000 < p
    · rw [if_pos h, if_neg (by omega)]
    · rw [if_neg h]
      by_cases h1 : 1 ≤ p
      · rw [if_pos h1, if_pos (by omega)]
      · rw [if_neg h1, if_neg (by omega)]
  rw [e]
  by_cases h : 1 ≤ p ∧ p ≤ 1000000
  · rw [if_pos h]
    dsimp only
    rw [Int.emod_one, if_pos rfl]
    by_cases h2 : 1000000 < p + 1
    · rw [if_pos h2, if_neg (by omega)]
    · rw [if_neg h2, if_pos (by omega)]
  · rw [if_neg h, if_neg (by omega)]
theorem down1 (p : Int) : downT pl1 p = if 1 < p ∧ p ≤ 1000000 then (p - 1, true) else (0, false) := by
  unfold downT
  rw [on1, near1]
  by_cases h : 1 ≤ p ∧ p ≤ 1000000
  · rw [if_pos (by simpa using h)]
    by_cases h2 : 1 ≤ p - 1
    · rw [if_pos h2, if_pos (by omega), show min (p - 1) 1000000 = p - 1 by omega]
      rw [decide_eq_true (show p - 1 ≠ 0 by omega)]
    · rw [if_neg h2, if_neg (by omega)]; rfl
  · rw [if_neg (by simpa using h), if_neg (by omega)]
set_option maxRecDepth 100000 in
set_option maxHeartbeats 2000000 in
theorem plain_ok (p : Int) (w : World) : Calls Try.prog 5 #[.int .i64 p] w fun e w' => e = .returned (.bool true) ∧ Below w.heap.size w w' := by
  have hk := fun w' => gknown_ok w'
  have HK := Lib.hid hk
  have hc : chk pl1 = none := by decide
  have HT := Lib.hid (fun (w1 W1 : World) (hW : w1.alloc (.cells #[.int .i64 1, .int .i64 1] 39) = W1) => (show TabAt W1 W1.heap.size (some ⟨w1.heap.size, 0, none⟩) 1 pl1 by
    rw [← hW]
    exact TabAt.made w1 _ _ _ 1 pl1 rfl (fun k s hs => by
      match k, hs with
      | 0, hs => injection hs with hs; subst hs; exact ⟨rfl, rfl⟩) rfl rfl))
  have U := up1 p
  have D := down1 p
  have O := on1 p
  clear hk
  have hcase : (1 < p ∧ p < 1000000) ∨ p = 1 ∨ p = 1000000 ∨ p < 1 ∨ 1000000 < p := by omega
  generalize hu : upT pl1 p = u at *
  generalize hd : downT pl1 p = d at *
  generalize ho : onT pl1 p = o at *
  have HU := Lib.hid (fun A n c w' h => up_any A n c pl1 p w' h hc)
  have HD := Lib.hid (fun A n c w' h => down_any A n c pl1 p w' h hc)
  have HO := Lib.hid (fun A n c w' h => on_any A n c pl1 p w' h hc)
  rw [hu] at HU
  rw [hd] at HD
  rw [ho] at HO
  clear hu hd ho hc
  rcases hcase with h | rfl | rfl | h | h
  · rw [if_pos (by omega)] at U
    rw [if_pos (by omega)] at D
    rw [decide_eq_true (by omega)] at O
    subst U D O
    have p1 : decide (1 ≤ p) = true := by simp; omega
    have p2 : decide (p ≤ 1000000) = true := by simp; omega
    have p3 : decide (p < 1000000) = true := by simp; omega
    have p4 : decide (1 < p) = true := by simp; omega
    dsimp only at HU HD HO
    go_enter Try.func5, Try.ntmps5
    go_wp2_with (go_at_call 6; refine Hid.out ?_)
    refine Lib.hid ?_
    refine (HK.out _).mono ?_
    rintro e w1 ⟨rfl, B1⟩
    have HB1 := Lib.hid B1
    clear B1
    go_wp2_with ((first
      | (go_at_call 10; refine (HU.out _ _ _ _ (HT.out _ _ rfl)).mono ?_; clear HU; rintro e w2 ⟨rfl, hb2⟩; have T2 := Lib.hid (((HT.out _ _ rfl).carry hb2).wider hb2.size); replace hb2 := Lib.hid hb2)
      | (go_at_call 13; refine (HD.out _ _ _ _ T2.out).mono ?_; clear HD; rintro e w3 ⟨rfl, hb3⟩; have T3 := Lib.hid ((T2.out.carry hb3).wider hb3.size); replace hb3 := Lib.hid hb3)
      | (go_at_call 11; refine (HO.out _ _ _ _ T3.out).mono ?_; clear HO; rintro e w4 ⟨rfl, hb4⟩; replace hb4 := Lib.hid hb4)))
    go_ret
    exact ⟨rfl, bel_trans (bel_trans (bel_trans HB1.out (bel_new _ _)) (bel_trans hb2.out hb3.out)) hb4.out⟩
  · rw [if_pos (by omega)] at U
    rw [if_neg (by omega)] at D
    rw [decide_eq_true (by omega)] at O
    subst U D O
    dsimp only at HU HD HO
    go_enter Try.func5, Try.ntmps5
    go_wp2_with (go_at_call 6; refine Hid.out ?_)
    refine Lib.hid ?_
    refine (HK.out _).mono ?_
    rintro e w1 ⟨rfl, B1⟩
    have HB1 := Lib.hid B1
    clear B1
    go_wp2_with ((first
      | (go_at_call 10; refine (HU.out _ _ _ _ (HT.out _ _ rfl)).mono ?_; clear HU; rintro e w2 ⟨rfl, hb2⟩; have T2 := Lib.hid (((HT.out _ _ rfl).carry hb2).wider hb2.size); replace hb2 := Lib.hid hb2)
      | (go_at_call 13; refine (HD.out _ _ _ _ T2.out).mono ?_; clear HD; rintro e w3 ⟨rfl, hb3⟩; have T3 := Lib.hid ((T2.out.carry hb3).wider hb3.size); replace hb3 := Lib.hid hb3)
      | (go_at_call 11; refine (HO.out _ _ _ _ T3.out).mono ?_; clear HO; rintro e w4 ⟨rfl, hb4⟩; replace hb4 := Lib.hid hb4)))
    go_ret
    exact ⟨rfl, bel_trans (bel_trans (bel_trans HB1.out (bel_new _ _)) (bel_trans hb2.out hb3.out)) hb4.out⟩
  · rw [if_neg (by omega)] at U
    rw [if_pos (by omega)] at D
    rw [decide_eq_true (by omega)] at O
    subst U D O
    dsimp only at HU HD HO
    go_enter Try.func5, Try.ntmps5
    go_wp2_with (go_at_call 6; refine Hid.out ?_)
    refine Lib.hid ?_
    refine (HK.out _).mono ?_
    rintro e w1 ⟨rfl, B1⟩
    have HB1 := Lib.hid B1
    clear B1
    go_wp2_with ((first
      | (go_at_call 10; refine (HU.out _ _ _ _ (HT.out _ _ rfl)).mono ?_; clear HU; rintro e w2 ⟨rfl, hb2⟩; have T2 := Lib.hid (((HT.out _ _ rfl).carry hb2).wider hb2.size); replace hb2 := Lib.hid hb2)
      | (go_at_call 13; refine (HD.out _ _ _ _ T2.out).mono ?_; clear HD; rintro e w3 ⟨rfl, hb3⟩; have T3 := Lib.hid ((T2.out.carry hb3).wider hb3.size); replace hb3 := Lib.hid hb3)
      | (go_at_call 11; refine (HO.out _ _ _ _ T3.out).mono ?_; clear HO; rintro e w4 ⟨rfl, hb4⟩; replace hb4 := Lib.hid hb4)))
    go_ret
    exact ⟨rfl, bel_trans (bel_trans (bel_trans HB1.out (bel_new _ _)) (bel_trans hb2.out hb3.out)) hb4.out⟩
  · rw [if_neg (by omega)] at U
    rw [if_neg (by omega)] at D
    rw [decide_eq_false (by omega)] at O
    subst U D O
    have p1 : decide (1 ≤ p) = false := by simp; omega
    dsimp only at HU HD HO
    go_enter Try.func5, Try.ntmps5
    go_wp2_with (go_at_call 6; refine Hid.out ?_)
    refine Lib.hid ?_
    refine (HK.out _).mono ?_
    rintro e w1 ⟨rfl, B1⟩
    have HB1 := Lib.hid B1
    clear B1
    go_wp2_with ((first
      | (go_at_call 10; refine (HU.out _ _ _ _ (HT.out _ _ rfl)).mono ?_; clear HU; rintro e w2 ⟨rfl, hb2⟩; have T2 := Lib.hid (((HT.out _ _ rfl).carry hb2).wider hb2.size); replace hb2 := Lib.hid hb2)
      | (go_at_call 13; refine (HD.out _ _ _ _ T2.out).mono ?_; clear HD; rintro e w3 ⟨rfl, hb3⟩; have T3 := Lib.hid ((T2.out.carry hb3).wider hb3.size); replace hb3 := Lib.hid hb3)
      | (go_at_call 11; refine (HO.out _ _ _ _ T3.out).mono ?_; clear HO; rintro e w4 ⟨rfl, hb4⟩; replace hb4 := Lib.hid hb4)))
    go_ret
    exact ⟨rfl, bel_trans (bel_trans (bel_trans HB1.out (bel_new _ _)) (bel_trans hb2.out hb3.out)) hb4.out⟩
  · rw [if_neg (by omega)] at U
    rw [if_neg (by omega)] at D
    rw [decide_eq_false (by omega)] at O
    subst U D O
    have p1 : decide (1 ≤ p) = true := by simp; omega
    have p2 : decide (p ≤ 1000000) = false := by simp; omega
    dsimp only at HU HD HO
    go_enter Try.func5, Try.ntmps5
    go_wp2_with (go_at_call 6; refine Hid.out ?_)
    refine Lib.hid ?_
    refine (HK.out _).mono ?_
    rintro e w1 ⟨rfl, B1⟩
    have HB1 := Lib.hid B1
    clear B1
    go_wp2_with ((first
      | (go_at_call 10; refine (HU.out _ _ _ _ (HT.out _ _ rfl)).mono ?_; clear HU; rintro e w2 ⟨rfl, hb2⟩; have T2 := Lib.hid (((HT.out _ _ rfl).carry hb2).wider hb2.size); replace hb2 := Lib.hid hb2)
      | (go_at_call 13; refine (HD.out _ _ _ _ T2.out).mono ?_; clear HD; rintro e w3 ⟨rfl, hb3⟩; have T3 := Lib.hid ((T2.out.carry hb3).wider hb3.size); replace hb3 := Lib.hid hb3)
      | (go_at_call 11; refine (HO.out _ _ _ _ T3.out).mono ?_; clear HO; rintro e w4 ⟨rfl, hb4⟩; replace hb4 := Lib.hid hb4)))
    go_ret
    exact ⟨rfl, bel_trans (bel_trans (bel_trans HB1.out (bel_new _ _)) (bel_trans hb2.out hb3.out)) hb4.out⟩
end Go.Proofs.Ytihdebgofjacpaa
