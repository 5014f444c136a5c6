/- The reference's price and CheckQuote over a table that may be. -/
import Derived.Test.YtkcgklaoefbglaaGreatDoorQuoChk
import Derived.Test.YtkcgklaoefbglaaGreatDoorGrdRef
set_option linter.unusedSimpArgs false
namespace Go.Proofs.YtkcgklaoefbglaaGreatDoor
open Go.RowKit Go.Mem1 Go.OrdMath Go.GridMath

/-- A fault's number; 0: none. -/
def numE (r : Option Nat) : Int := match r with
  | none => 0
  | some x => (x : Int)
set_option maxRecDepth 100000 in
set_option maxHeartbeats 1000000 in
theorem rprice_any (p q : Int) (A : Option Addr) (n c : Nat) (l : List Stp) (w : World) (h : TabAt w w.heap.size A n l) (hc : chk l = none) (hq : 0 < q) :
    Calls Tryz.prog 17 #[.int .i64 p, .int .i64 q, .slice A n c] w fun e w' => e = .returned (.int .i64 (numE (prE p (onT l p)))) ∧ Below w.heap.size w w' := by
  have HO := Lib.hid (ron_any A n c l p w h hc)
  generalize onT l p = on at *
  have t0 : (q == 0) = false := by simp; omega
  clear h hc
  by_cases h1 : p < 1
  · have hr : numE (prE p on) = 1 := by unfold prE; rw [if_pos (by omega)]; rfl
    rw [hr]
    clear hr
    go_enter Tryz.func17, Tryz.ntmps17
    go_wp2_with fail
    go_ret
    exact ⟨rfl, Below.refl _ _⟩
  have t1 : decide (p < 1) = false := by simp; omega
  by_cases h2 : 1000000 < p
  · have hr : numE (prE p on) = 1 := by unfold prE; rw [if_pos (by omega)]; rfl
    rw [hr]
    clear hr
    have t2 : decide (1000000 < p) = true := by simp; omega
    go_enter Tryz.func17, Tryz.ntmps17
    go_wp2_with fail
    go_ret
    exact ⟨rfl, Below.refl _ _⟩
  have t2 : decide (1000000 < p) = false := by simp; omega
  cases on with
  | false =>
    have hr : numE (prE p false) = 10 := by unfold prE; rw [if_neg (by omega), if_pos rfl]; rfl
    rw [hr]
    clear hr
    go_enter Tryz.func17, Tryz.ntmps17
    go_wp2_with (go_at_call 30; refine HO.out.mono ?_; rintro e w' ⟨rfl, hb⟩; replace hb := Lib.hid hb)
    go_ret
    exact ⟨rfl, hb.out⟩
  | true =>
    have hr : numE (prE p true) = 0 := by unfold prE; rw [if_neg (by omega), if_neg (by decide)]; rfl
    rw [hr]
    clear hr
    go_enter Tryz.func17, Tryz.ntmps17
    go_wp2_with (go_at_call 30; refine HO.out.mono ?_; rintro e w' ⟨rfl, hb⟩; replace hb := Lib.hid hb)
    go_ret
    exact ⟨rfl, hb.out⟩
/- What the reference says of a quote: its two sides (price), then what crosses. Written by a program: a leaf a way. -/
/-- The reference's answer. -/
def refV (r : Option (Nat × Nat)) : Value := match r with
  | none => .tuple #[.int .i64 0, .int .i64 0]
  | some (k, x) => .tuple #[.int .i64 (x : Int), .int .i64 (k : Int)]
def RQ (w : World) (r : Option (Nat × Nat)) (e : Ending) (w' : World) : Prop := e = .returned (refV r) ∧ Below w.heap.size w w'
theorem RQ.good {w w' : World} {r : Option (Nat × Nat)} (h : r = none) (hb : Below w.heap.size w w') : RQ w r (.returned (.tuple #[.int .i64 0, .int .i64 0])) w' := by subst h; exact ⟨rfl, hb⟩
theorem RQ.bad {w w' : World} {r : Option (Nat × Nat)} {k x : Nat} {k' x' : Int} (h : r = some (k, x)) (hk : k' = (k : Int)) (hx : x' = (x : Int)) (hb : Below w.heap.size w w') : RQ w r (.returned (.tuple #[.int .i64 x', .int .i64 k'])) w' := by subst h; subst hk; subst hx; exact ⟨rfl, hb⟩
set_option maxRecDepth 100000 in
set_option maxHeartbeats 4000000 in
theorem rquote_any (q : Quo) (A : Option Addr) (n c : Nat) (l : List Stp) (w : World) (h : TabAt w w.heap.size A n l) (hc : chk l = none) :
    Calls Tryz.prog 7 #[quoV q, .slice A n c] w (RQ w (quoE q (onT l q.b) (onT l q.a))) := by
  obtain ⟨b, bq, a, aq⟩ := q
  obtain ⟨W1, hW1⟩ : ∃ W1, w.alloc (.cells #[.int .i64 b, .int .i64 bq, .int .i64 a, .int .i64 aq] 35) = W1 := ⟨_, rfl⟩
  have B1 : Below w.heap.size w W1 := by rw [← hW1]; exact bel_new _ _
  have X : Box W1 w.heap.size 35 #[.int .i64 b, .int .i64 bq, .int .i64 a, .int .i64 aq] := by rw [← hW1]; exact Box.fresh _ _ _ rfl
  have KX := Lib.hid (fun w' (hb : Below W1.heap.size W1 w') => (⟨((X.kept_below hb X.there).reads 0).trans rfl, ((X.kept_below hb X.there).reads 1).trans rfl, ((X.kept_below hb X.there).reads 2).trans rfl, ((X.kept_below hb X.there).reads 3).trans rfl⟩ :
    w'.cell? ⟨w.heap.size, 0, none⟩ = some (.int .i64 b) ∧ w'.cell? ⟨w.heap.size, 1, none⟩ = some (.int .i64 bq) ∧ w'.cell? ⟨w.heap.size, 2, none⟩ = some (.int .i64 a) ∧ w'.cell? ⟨w.heap.size, 3, none⟩ = some (.int .i64 aq)))
  obtain ⟨x0, x1, x2, x3⟩ := KX.out W1 (Below.refl _ _)
  have HPB := Lib.hid (fun (hq : 0 < bq) w' (hb : Below W1.heap.size W1 w') => (rprice_any b bq A n c l w' ((h.carry (bel_trans B1 hb)).wider (bel_trans B1 hb).size) hc hq).mono (R' := fun e w2 => e = .returned (.int .i64 (numE (prE b (onT l b)))) ∧ Hid (Below W1.heap.size W1 w2)) (fun e w2 he => ⟨he.1, bel_trans hb he.2⟩))
  have HPA := Lib.hid (fun (hq : 0 < aq) w' (hb : Below W1.heap.size W1 w') => (rprice_any a aq A n c l w' ((h.carry (bel_trans B1 hb)).wider (bel_trans B1 hb).size) hc hq).mono (R' := fun e w2 => e = .returned (.int .i64 (numE (prE a (onT l a)))) ∧ Hid (Below W1.heap.size W1 w2)) (fun e w2 he => ⟨he.1, bel_trans hb he.2⟩))
  have HG := Lib.hid (fun w' h hb => RQ.good (w := w) (w' := w') (r := quoE ⟨b, bq, a, aq⟩ (onT l b) (onT l a)) h hb)
  have HB := Lib.hid (fun k x k' x' w' h hk hx hb => RQ.bad (w := w) (w' := w') (r := quoE ⟨b, bq, a, aq⟩ (onT l b) (onT l a)) (k := k) (x := x) (k' := k') (x' := x') h hk hx hb)
  have HB1 := Lib.hid B1
  have hb0 : Hid (Below W1.heap.size W1 W1) := Below.refl _ _
  generalize hR : RQ w (quoE ⟨b, bq, a, aq⟩ (onT l b) (onT l a)) = R at HG HB ⊢
  clear hR B1 X
  have hE : quoE ⟨b, bq, a, aq⟩ (onT l b) (onT l a) = match sideE 0 b bq (onT l b) with
    | some r => some r
    | none =>
      match sideE 2 a aq (onT l a) with
        | some r => some r
        | none => if 0 < bq ∧ 0 < aq ∧ a ≤ b then some (2, 11) else none := rfl
  have sB : sideE 0 b bq (onT l b) = match (if 0 < bq then prE b (onT l b) else none) with
    | some x => some (0, x)
    | none => if bq < 0 ∨ 1000000 < bq then some (0 + 1, 1) else none := rfl
  have sA : sideE 2 a aq (onT l a) = match (if 0 < aq then prE a (onT l a) else none) with
    | some x => some (2, x)
    | none => if aq < 0 ∨ 1000000 < aq then some (2 + 1, 1) else none := rfl
  generalize onT l b = ob at *
  generalize onT l a = oa at *
  generalize hpb : prE b ob = pb at *
  generalize hpa : prE a oa = pa at *
  generalize quoE ⟨b, bq, a, aq⟩ ob oa = E at *
  generalize sideE 0 b bq ob = SB at *
  generalize sideE 2 a aq oa = SA at *
  have hxb : ∀ x, pb = some x → x = 1 ∨ x = 10 := fun x h => by
    rw [← hpb] at h
    unfold prE at h
    repeat' split at h
    all_goals first | (injection h with h; omega) | cases h
  have hxa : ∀ x, pa = some x → x = 1 ∨ x = 10 := fun x h => by
    rw [← hpa] at h
    unfold prE at h
    repeat' split at h
    all_goals first | (injection h with h; omega) | cases h
  clear h hc hpb hpa
  by_cases gb : bq < 0
  · skip
    have eb : SB = some (1, 1) := by rw [sB, if_neg (by omega)]; dsimp only; rw [if_pos (by omega)]
    have tb0 : decide (bq < 0) = true := by simp; omega
    have tb2 : decide (0 < bq) = false := by simp; omega
    rw [eb] at hE
    have HE := Lib.hid hE
    clear hE sA sB eb hxa hxb HPA
    go_enter Tryz.func7, Tryz.ntmps7
    go_wp2_with fail
    all_goals
      try go_ret
      exact HB.out 1 1 _ _ _ HE.out (by first | rfl | simp) (by first | rfl | simp) (bel_trans HB1.out hb0.out)
  by_cases gb0 : bq ≤ 0
  · skip
    by_cases ga : aq < 0
    · skip
      have eb : SB = none := by rw [sB, if_neg (by omega)]; dsimp only; rw [if_neg (by omega)]
      have tb0 : decide (bq < 0) = false := by simp; omega
      have tb1 : decide (1000000 < bq) = false := by simp; omega
      have tb2 : decide (0 < bq) = false := by simp; omega
      have ea : SA = some (3, 1) := by rw [sA, if_neg (by omega)]; dsimp only; rw [if_pos (by omega)]
      have ta0 : decide (aq < 0) = true := by simp; omega
      have ta2 : decide (0 < aq) = false := by simp; omega
      rw [eb, ea] at hE
      have HE := Lib.hid hE
      clear hE sA sB eb ea hxa hxb
      go_enter Tryz.func7, Tryz.ntmps7
      go_wp2_with fail
      all_goals
        try go_ret
        exact HB.out 3 1 _ _ _ HE.out (by first | rfl | simp) (by first | rfl | simp) (bel_trans HB1.out hb0.out)
    by_cases ga0 : aq ≤ 0
    · skip
      have eb : SB = none := by rw [sB, if_neg (by omega)]; dsimp only; rw [if_neg (by omega)]
      have tb0 : decide (bq < 0) = false := by simp; omega
      have tb1 : decide (1000000 < bq) = false := by simp; omega
      have tb2 : decide (0 < bq) = false := by simp; omega
      have ea : SA = none := by rw [sA, if_neg (by omega)]; dsimp only; rw [if_neg (by omega)]
      have ta0 : decide (aq < 0) = false := by simp; omega
      have ta1 : decide (1000000 < aq) = false := by simp; omega
      have ta2 : decide (0 < aq) = false := by simp; omega
      rw [eb, ea] at hE
      dsimp only at hE
      rw [if_neg (by omega)] at hE
      have HE := Lib.hid hE
      clear hE sA sB eb ea hxa hxb
      go_enter Tryz.func7, Tryz.ntmps7
      go_wp2_with fail
      all_goals
        try go_ret
        exact HG.out _ HE.out (bel_trans HB1.out hb0.out)
    cases pa with
    | some x =>
      have eb : SB = none := by rw [sB, if_neg (by omega)]; dsimp only; rw [if_neg (by omega)]
      have tb0 : decide (bq < 0) = false := by simp; omega
      have tb1 : decide (1000000 < bq) = false := by simp; omega
      have tb2 : decide (0 < bq) = false := by simp; omega
      have ea : SA = some (2, x) := by rw [sA, if_pos (by omega)]
      have ta0 : decide (aq < 0) = false := by simp; omega
      have ta2 : decide (0 < aq) = true := by simp; omega
      have va : (((x : Nat) : Int) != 0) = true := by rcases hxa x rfl with rfl | rfl <;> rfl
      replace HPA := HPA.out (by omega)
      replace HPA := fun w' hb => show Calls Tryz.prog 17 _ w' (fun e w2 => e = .returned (.int .i64 (x : Int)) ∧ Hid (Below W1.heap.size W1 w2)) from HPA w' hb
      rw [eb, ea] at hE
      have HE := Lib.hid hE
      clear hE sA sB eb ea hxa hxb
      go_enter Tryz.func7, Tryz.ntmps7
      go_wp2_with (first
        | (go_at_call 17; refine (HPA _ hb0.out).mono ?_; clear HPA; rintro e w3 ⟨rfl, hb2⟩; obtain ⟨z0, z1, z2, z3⟩ := KX.out _ hb2.out))
      all_goals
        try go_ret
        exact HB.out 2 x _ _ _ HE.out (by first | rfl | simp) (by first | rfl | simp) (bel_trans HB1.out hb2.out)
    | none =>
      by_cases ga1 : 1000000 < aq
      · skip
        have eb : SB = none := by rw [sB, if_neg (by omega)]; dsimp only; rw [if_neg (by omega)]
        have tb0 : decide (bq < 0) = false := by simp; omega
        have tb1 : decide (1000000 < bq) = false := by simp; omega
        have tb2 : decide (0 < bq) = false := by simp; omega
        have ea : SA = some (3, 1) := by rw [sA, if_pos (by omega)]; dsimp only; rw [if_pos (by omega)]
        have ta0 : decide (aq < 0) = false := by simp; omega
        have ta1 : decide (1000000 < aq) = true := by simp; omega
        have ta2 : decide (0 < aq) = true := by simp; omega
        replace HPA := HPA.out (by omega)
        replace HPA := fun w' hb => show Calls Tryz.prog 17 _ w' (fun e w2 => e = .returned (.int .i64 0) ∧ Hid (Below W1.heap.size W1 w2)) from HPA w' hb
        rw [eb, ea] at hE
        have HE := Lib.hid hE
        clear hE sA sB eb ea hxa hxb
        go_enter Tryz.func7, Tryz.ntmps7
        go_wp2_with (first
          | (go_at_call 17; refine (HPA _ hb0.out).mono ?_; clear HPA; rintro e w3 ⟨rfl, hb2⟩; obtain ⟨z0, z1, z2, z3⟩ := KX.out _ hb2.out))
        all_goals
          try go_ret
          exact HB.out 3 1 _ _ _ HE.out (by first | rfl | simp) (by first | rfl | simp) (bel_trans HB1.out hb2.out)
      have eb : SB = none := by rw [sB, if_neg (by omega)]; dsimp only; rw [if_neg (by omega)]
      have tb0 : decide (bq < 0) = false := by simp; omega
      have tb1 : decide (1000000 < bq) = false := by simp; omega
      have tb2 : decide (0 < bq) = false := by simp; omega
      have ea : SA = none := by rw [sA, if_pos (by omega)]; dsimp only; rw [if_neg (by omega)]
      have ta0 : decide (aq < 0) = false := by simp; omega
      have ta1 : decide (1000000 < aq) = false := by simp; omega
      have ta2 : decide (0 < aq) = true := by simp; omega
      replace HPA := HPA.out (by omega)
      replace HPA := fun w' hb => show Calls Tryz.prog 17 _ w' (fun e w2 => e = .returned (.int .i64 0) ∧ Hid (Below W1.heap.size W1 w2)) from HPA w' hb
      rw [eb, ea] at hE
      dsimp only at hE
      rw [if_neg (by omega)] at hE
      have HE := Lib.hid hE
      clear hE sA sB eb ea hxa hxb
      go_enter Tryz.func7, Tryz.ntmps7
      go_wp2_with (first
        | (go_at_call 17; refine (HPA _ hb0.out).mono ?_; clear HPA; rintro e w3 ⟨rfl, hb2⟩; obtain ⟨z0, z1, z2, z3⟩ := KX.out _ hb2.out))
      all_goals
        try go_ret
        exact HG.out _ HE.out (bel_trans HB1.out hb2.out)
  cases pb with
  | some x =>
    have eb : SB = some (0, x) := by rw [sB, if_pos (by omega)]
    have tb0 : decide (bq < 0) = false := by simp; omega
    have tb2 : decide (0 < bq) = true := by simp; omega
    have vb : (((x : Nat) : Int) != 0) = true := by rcases hxb x rfl with rfl | rfl <;> rfl
    replace HPB := HPB.out (by omega)
    replace HPB := fun w' hb => show Calls Tryz.prog 17 _ w' (fun e w2 => e = .returned (.int .i64 (x : Int)) ∧ Hid (Below W1.heap.size W1 w2)) from HPB w' hb
    rw [eb] at hE
    have HE := Lib.hid hE
    clear hE sA sB eb hxa hxb HPA
    go_enter Tryz.func7, Tryz.ntmps7
    go_wp2_with (first
      | (go_at_call 17; refine (HPB _ hb0.out).mono ?_; clear HPB; rintro e w2 ⟨rfl, hb1⟩; obtain ⟨y0, y1, y2, y3⟩ := KX.out _ hb1.out))
    all_goals
      try go_ret
      exact HB.out 0 x _ _ _ HE.out (by first | rfl | simp) (by first | rfl | simp) (bel_trans HB1.out hb1.out)
  | none =>
    by_cases gb1 : 1000000 < bq
    · skip
      have eb : SB = some (1, 1) := by rw [sB, if_pos (by omega)]; dsimp only; rw [if_pos (by omega)]
      have tb0 : decide (bq < 0) = false := by simp; omega
      have tb1 : decide (1000000 < bq) = true := by simp; omega
      have tb2 : decide (0 < bq) = true := by simp; omega
      replace HPB := HPB.out (by omega)
      replace HPB := fun w' hb => show Calls Tryz.prog 17 _ w' (fun e w2 => e = .returned (.int .i64 0) ∧ Hid (Below W1.heap.size W1 w2)) from HPB w' hb
      rw [eb] at hE
      have HE := Lib.hid hE
      clear hE sA sB eb hxa hxb HPA
      go_enter Tryz.func7, Tryz.ntmps7
      go_wp2_with (first
        | (go_at_call 17; refine (HPB _ hb0.out).mono ?_; clear HPB; rintro e w2 ⟨rfl, hb1⟩; obtain ⟨y0, y1, y2, y3⟩ := KX.out _ hb1.out))
      all_goals
        try go_ret
        exact HB.out 1 1 _ _ _ HE.out (by first | rfl | simp) (by first | rfl | simp) (bel_trans HB1.out hb1.out)
    by_cases ga : aq < 0
    · skip
      have eb : SB = none := by rw [sB, if_pos (by omega)]; dsimp only; rw [if_neg (by omega)]
      have tb0 : decide (bq < 0) = false := by simp; omega
      have tb1 : decide (1000000 < bq) = false := by simp; omega
      have tb2 : decide (0 < bq) = true := by simp; omega
      replace HPB := HPB.out (by omega)
      replace HPB := fun w' hb => show Calls Tryz.prog 17 _ w' (fun e w2 => e = .returned (.int .i64 0) ∧ Hid (Below W1.heap.size W1 w2)) from HPB w' hb
      have ea : SA = some (3, 1) := by rw [sA, if_neg (by omega)]; dsimp only; rw [if_pos (by omega)]
      have ta0 : decide (aq < 0) = true := by simp; omega
      have ta2 : decide (0 < aq) = false := by simp; omega
      rw [eb, ea] at hE
      have HE := Lib.hid hE
      clear hE sA sB eb ea hxa hxb
      go_enter Tryz.func7, Tryz.ntmps7
      go_wp2_with (first
        | (go_at_call 17; refine (HPB _ hb0.out).mono ?_; clear HPB; rintro e w2 ⟨rfl, hb1⟩; obtain ⟨y0, y1, y2, y3⟩ := KX.out _ hb1.out))
      all_goals
        try go_ret
        exact HB.out 3 1 _ _ _ HE.out (by first | rfl | simp) (by first | rfl | simp) (bel_trans HB1.out hb1.out)
    by_cases ga0 : aq ≤ 0
    · skip
      have eb : SB = none := by rw [sB, if_pos (by omega)]; dsimp only; rw [if_neg (by omega)]
      have tb0 : decide (bq < 0) = false := by simp; omega
      have tb1 : decide (1000000 < bq) = false := by simp; omega
      have tb2 : decide (0 < bq) = true := by simp; omega
      replace HPB := HPB.out (by omega)
      replace HPB := fun w' hb => show Calls Tryz.prog 17 _ w' (fun e w2 => e = .returned (.int .i64 0) ∧ Hid (Below W1.heap.size W1 w2)) from HPB w' hb
      have ea : SA = none := by rw [sA, if_neg (by omega)]; dsimp only; rw [if_neg (by omega)]
      have ta0 : decide (aq < 0) = false := by simp; omega
      have ta1 : decide (1000000 < aq) = false := by simp; omega
      have ta2 : decide (0 < aq) = false := by simp; omega
      rw [eb, ea] at hE
      dsimp only at hE
      rw [if_neg (by omega)] at hE
      have HE := Lib.hid hE
      clear hE sA sB eb ea hxa hxb
      go_enter Tryz.func7, Tryz.ntmps7
      go_wp2_with (first
        | (go_at_call 17; refine (HPB _ hb0.out).mono ?_; clear HPB; rintro e w2 ⟨rfl, hb1⟩; obtain ⟨y0, y1, y2, y3⟩ := KX.out _ hb1.out))
      all_goals
        try go_ret
        exact HG.out _ HE.out (bel_trans HB1.out hb1.out)
    cases pa with
    | some x =>
      have eb : SB = none := by rw [sB, if_pos (by omega)]; dsimp only; rw [if_neg (by omega)]
      have tb0 : decide (bq < 0) = false := by simp; omega
      have tb1 : decide (1000000 < bq) = false := by simp; omega
      have tb2 : decide (0 < bq) = true := by simp; omega
      replace HPB := HPB.out (by omega)
      replace HPB := fun w' hb => show Calls Tryz.prog 17 _ w' (fun e w2 => e = .returned (.int .i64 0) ∧ Hid (Below W1.heap.size W1 w2)) from HPB w' hb
      have ea : SA = some (2, x) := by rw [sA, if_pos (by omega)]
      have ta0 : decide (aq < 0) = false := by simp; omega
      have ta2 : decide (0 < aq) = true := by simp; omega
      have va : (((x : Nat) : Int) != 0) = true := by rcases hxa x rfl with rfl | rfl <;> rfl
      replace HPA := HPA.out (by omega)
      replace HPA := fun w' hb => show Calls Tryz.prog 17 _ w' (fun e w2 => e = .returned (.int .i64 (x : Int)) ∧ Hid (Below W1.heap.size W1 w2)) from HPA w' hb
      rw [eb, ea] at hE
      have HE := Lib.hid hE
      clear hE sA sB eb ea hxa hxb
      go_enter Tryz.func7, Tryz.ntmps7
      go_wp2_with (first
        | (go_at_call 17; refine (HPB _ hb0.out).mono ?_; clear HPB; rintro e w2 ⟨rfl, hb1⟩; obtain ⟨y0, y1, y2, y3⟩ := KX.out _ hb1.out)
        | (go_at_call 17; refine (HPA _ hb1.out).mono ?_; clear HPA; rintro e w3 ⟨rfl, hb2⟩; obtain ⟨z0, z1, z2, z3⟩ := KX.out _ hb2.out))
      all_goals
        try go_ret
        exact HB.out 2 x _ _ _ HE.out (by first | rfl | simp) (by first | rfl | simp) (bel_trans HB1.out hb2.out)
    | none =>
      by_cases ga1 : 1000000 < aq
      · skip
        have eb : SB = none := by rw [sB, if_pos (by omega)]; dsimp only; rw [if_neg (by omega)]
        have tb0 : decide (bq < 0) = false := by simp; omega
        have tb1 : decide (1000000 < bq) = false := by simp; omega
        have tb2 : decide (0 < bq) = true := by simp; omega
        replace HPB := HPB.out (by omega)
        replace HPB := fun w' hb => show Calls Tryz.prog 17 _ w' (fun e w2 => e = .returned (.int .i64 0) ∧ Hid (Below W1.heap.size W1 w2)) from HPB w' hb
        have ea : SA = some (3, 1) := by rw [sA, if_pos (by omega)]; dsimp only; rw [if_pos (by omega)]
        have ta0 : decide (aq < 0) = false := by simp; omega
        have ta1 : decide (1000000 < aq) = true := by simp; omega
        have ta2 : decide (0 < aq) = true := by simp; omega
        replace HPA := HPA.out (by omega)
        replace HPA := fun w' hb => show Calls Tryz.prog 17 _ w' (fun e w2 => e = .returned (.int .i64 0) ∧ Hid (Below W1.heap.size W1 w2)) from HPA w' hb
        rw [eb, ea] at hE
        have HE := Lib.hid hE
        clear hE sA sB eb ea hxa hxb
        go_enter Tryz.func7, Tryz.ntmps7
        go_wp2_with (first
          | (go_at_call 17; refine (HPB _ hb0.out).mono ?_; clear HPB; rintro e w2 ⟨rfl, hb1⟩; obtain ⟨y0, y1, y2, y3⟩ := KX.out _ hb1.out)
          | (go_at_call 17; refine (HPA _ hb1.out).mono ?_; clear HPA; rintro e w3 ⟨rfl, hb2⟩; obtain ⟨z0, z1, z2, z3⟩ := KX.out _ hb2.out))
        all_goals
          try go_ret
          exact HB.out 3 1 _ _ _ HE.out (by first | rfl | simp) (by first | rfl | simp) (bel_trans HB1.out hb2.out)
      by_cases gc : a ≤ b
      · skip
        have eb : SB = none := by rw [sB, if_pos (by omega)]; dsimp only; rw [if_neg (by omega)]
        have tb0 : decide (bq < 0) = false := by simp; omega
        have tb1 : decide (1000000 < bq) = false := by simp; omega
        have tb2 : decide (0 < bq) = true := by simp; omega
        replace HPB := HPB.out (by omega)
        replace HPB := fun w' hb => show Calls Tryz.prog 17 _ w' (fun e w2 => e = .returned (.int .i64 0) ∧ Hid (Below W1.heap.size W1 w2)) from HPB w' hb
        have ea : SA = none := by rw [sA, if_pos (by omega)]; dsimp only; rw [if_neg (by omega)]
        have ta0 : decide (aq < 0) = false := by simp; omega
        have ta1 : decide (1000000 < aq) = false := by simp; omega
        have ta2 : decide (0 < aq) = true := by simp; omega
        replace HPA := HPA.out (by omega)
        replace HPA := fun w' hb => show Calls Tryz.prog 17 _ w' (fun e w2 => e = .returned (.int .i64 0) ∧ Hid (Below W1.heap.size W1 w2)) from HPA w' hb
        rw [eb, ea] at hE
        dsimp only at hE
        rw [if_pos (by omega)] at hE
        have tc : decide (a ≤ b) = true := by simp; omega
        have HE := Lib.hid hE
        clear hE sA sB eb ea hxa hxb
        go_enter Tryz.func7, Tryz.ntmps7
        go_wp2_with (first
          | (go_at_call 17; refine (HPB _ hb0.out).mono ?_; clear HPB; rintro e w2 ⟨rfl, hb1⟩; obtain ⟨y0, y1, y2, y3⟩ := KX.out _ hb1.out)
          | (go_at_call 17; refine (HPA _ hb1.out).mono ?_; clear HPA; rintro e w3 ⟨rfl, hb2⟩; obtain ⟨z0, z1, z2, z3⟩ := KX.out _ hb2.out))
        all_goals
          try go_ret
          exact HB.out 2 11 _ _ _ HE.out (by first | rfl | simp) (by first | rfl | simp) (bel_trans HB1.out hb2.out)
      have eb : SB = none := by rw [sB, if_pos (by omega)]; dsimp only; rw [if_neg (by omega)]
      have tb0 : decide (bq < 0) = false := by simp; omega
      have tb1 : decide (1000000 < bq) = false := by simp; omega
      have tb2 : decide (0 < bq) = true := by simp; omega
      replace HPB := HPB.out (by omega)
      replace HPB := fun w' hb => show Calls Tryz.prog 17 _ w' (fun e w2 => e = .returned (.int .i64 0) ∧ Hid (Below W1.heap.size W1 w2)) from HPB w' hb
      have ea : SA = none := by rw [sA, if_pos (by omega)]; dsimp only; rw [if_neg (by omega)]
      have ta0 : decide (aq < 0) = false := by simp; omega
      have ta1 : decide (1000000 < aq) = false := by simp; omega
      have ta2 : decide (0 < aq) = true := by simp; omega
      replace HPA := HPA.out (by omega)
      replace HPA := fun w' hb => show Calls Tryz.prog 17 _ w' (fun e w2 => e = .returned (.int .i64 0) ∧ Hid (Below W1.heap.size W1 w2)) from HPA w' hb
      rw [eb, ea] at hE
      dsimp only at hE
      rw [if_neg (by omega)] at hE
      have tc : decide (a ≤ b) = false := by simp; omega
      have HE := Lib.hid hE
      clear hE sA sB eb ea hxa hxb
      go_enter Tryz.func7, Tryz.ntmps7
      go_wp2_with (first
        | (go_at_call 17; refine (HPB _ hb0.out).mono ?_; clear HPB; rintro e w2 ⟨rfl, hb1⟩; obtain ⟨y0, y1, y2, y3⟩ := KX.out _ hb1.out)
        | (go_at_call 17; refine (HPA _ hb1.out).mono ?_; clear HPA; rintro e w3 ⟨rfl, hb2⟩; obtain ⟨z0, z1, z2, z3⟩ := KX.out _ hb2.out))
      all_goals
        try go_ret
        exact HG.out _ HE.out (bel_trans HB1.out hb2.out)
end Go.Proofs.YtkcgklaoefbglaaGreatDoor
