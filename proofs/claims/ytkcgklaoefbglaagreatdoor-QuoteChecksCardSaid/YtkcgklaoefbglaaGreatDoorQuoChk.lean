/- quote.Check over a table that may be. -/
import Derived.Test.YtkcgklaoefbglaaGreatDoorOrdChk
set_option linter.unusedSimpArgs false
namespace Go.Proofs.YtkcgklaoefbglaaGreatDoor
open Go.RowKit Go.Mem1 Go.OrdMath Go.GridMath

/-- The word 'quote'. -/
def quoB : ByteArray := ⟨#[113, 117, 111, 116, 101]⟩
/-- A Fault 'quote' at a place, in new memory. -/
def QErr (w : World) (k x : Nat) (e : Ending) (w' : World) : Prop :=
  Below w.heap.size w w' ∧ ∃ b, e = .returned (.iface 63 (.pointer (some ⟨b, 0, none⟩))) ∧ IsErr w' w'.heap.size [(quoB, (k : Int))] (x : Int) (.iface 63 (.pointer (some ⟨b, 0, none⟩)))
theorem QErr.after {w w1 : World} {k x : Nat} {e : Ending} {w' : World} (h : QErr w1 k x e w') (hb : Below w.heap.size w w1) : QErr w k x e w' := ⟨bel_trans hb h.1, h.2⟩
theorem qfault_any (k x : Nat) (k' x' : Int) (w : World) (hk : k' = (k : Int)) (hx : x' = (x : Int)) :
    Calls Tryz.prog 22 #[.int .i64 k', .iface 62 (.int .i64 x')] w (QErr w k x) := by
  subst hk; subst hx
  go_enter Tryz.func22, Tryz.ntmps22
  go_wp2_with fail
  go_ret
  exact ⟨by first | exact bel_new _ _ | exact bel_alloc (bel_new _ _) _, _, rfl, _, _, rfl, by simp, by simp [quoB], by simp, by simp, rfl⟩
/-- What is wrong with a price. -/
def prE (p : Int) (on : Bool) : Option Nat := if ¬ (1 ≤ p ∧ p ≤ 1000000) then some 1 else if on = false then some 10 else none
theorem prE_chk (p : Int) (on : Bool) : chkO ⟨1, 0, 1, p, 1, false, 4⟩ on = (prE p on).map (fun x => (3, x)) := by
  unfold chkO prE
  dsimp only
  by_cases h1 : 1 ≤ p ∧ p ≤ 1000000
  · cases on <;> simp [h1]
  · rw [if_pos h1]; simp [h1]
theorem unwrapNil (w : World) : (Instr.typeAssert .nilIface 39 118 true).run Tryz.prog w = .ok (.tuple #[.nilIface, .bool false]) w := by kernel_rfl
set_option maxHeartbeats 1000000 in
theorem unwrap_nil (w : World) : Calls Tryz.prog 47 #[.nilIface] w fun e w' => e = .returned .nilIface ∧ w = w' := by
  have u0 := unwrapNil
  go_enter Tryz.func47, Tryz.ntmps47
  go_wp2_with fail
  go_ret
  exact ⟨rfl, rfl⟩
set_option maxHeartbeats 1000000 in
theorem unwrap_one {w : World} {B : Nat} {p : ByteArray} {k n : Int} {v : Value} (h : IsErr w B [(p, k)] n v) : Calls Tryz.prog 47 #[v] w fun e w' => e = .returned (.iface 62 (.int .i64 n)) ∧ w = w' := by
  obtain ⟨b, u, rfl, hb, h0, h1, h2, hr⟩ := h
  obtain rfl : u = _ := hr
  have u1 := unwrapFault
  have mU := methodUnwrapFault
  go_enter Tryz.func47, Tryz.ntmps47
  go_wp2
  go_ret
  exact ⟨rfl, rfl⟩
/-- What wrongPrice answers. -/
def PrV (w : World) (r : Option Nat) (e : Ending) (w' : World) : Prop :=
  match r with
    | none => e = .returned .nilIface ∧ Below w.heap.size w w'
    | some x => e = .returned (.iface 62 (.int .i64 (x : Int))) ∧ Below w.heap.size w w'
set_option maxRecDepth 100000 in
set_option maxHeartbeats 1000000 in
theorem wrongPrice_any (p : Int) (A : Option Addr) (n c : Nat) (l : List Stp) (w : World) (h : TabAt w w.heap.size A n l) (hc : chk l = none) :
    Calls Tryz.prog 39 #[.int .i64 p, .slice A n c] w (PrV w (prE p (onT l p))) := by
  have HC := Lib.hid (fun w' (hb : Below w.heap.size w w') => (ocheck_any ⟨1, 0, 1, p, 1, false, 4⟩ A n c l w' ((h.carry hb).wider hb.size) hc).mono (R' := fun e w2 => OChk ⟨1, 0, 1, p, 1, false, 4⟩ l w e w2) (fun e w2 he => by
    unfold OChk at he ⊢
    split
    · rename_i hk; rw [hk] at he; exact ⟨he.1, bel_trans hb he.2⟩
    · rename_i k x hk; rw [hk] at he; exact he.after hb))
  cases hr : prE p (onT l p) with
  | none =>
    have hk : chkO ⟨1, 0, 1, p, 1, false, 4⟩ (onT l p) = none := by rw [prE_chk, hr]; rfl
    have HP : PrV w none = fun e w' => e = .returned .nilIface ∧ Below w.heap.size w w' := rfl
    rw [HP]
    have HU := Lib.hid unwrap_nil
    replace HC := Lib.hid (fun w' hb => (HC.out w' hb).mono (R' := fun e w2 => e = .returned .nilIface ∧ Hid (Below w.heap.size w w2)) (fun e w2 he => by unfold OChk at he; rw [hk] at he; exact he))
    clear h hc hr HP hk
    go_enter Tryz.func39, Tryz.ntmps39
    go_wp2_with (first
      | (go_at_call 48; refine (HC.out _ (bel_new _ _)).mono ?_; rintro e w2 ⟨rfl, hb⟩)
      | (go_at_call 47; refine (HU.out _).mono ?_; rintro e w3 ⟨rfl, rfl⟩))
    go_ret
    exact ⟨rfl, hb.out⟩
  | some x =>
    have hk : chkO ⟨1, 0, 1, p, 1, false, 4⟩ (onT l p) = some (3, x) := by rw [prE_chk, hr]; rfl
    have HP : PrV w (some x) = fun e w' => e = .returned (.iface 62 (.int .i64 (x : Int))) ∧ Below w.heap.size w w' := rfl
    rw [HP]
    replace HC := Lib.hid (fun w' hb => (HC.out w' hb).mono (R' := fun e w2 => ∃ b, e = .returned (.iface 63 (.pointer (some ⟨b, 0, none⟩))) ∧ Hid (Below w.heap.size w w2) ∧ Hid (IsErr w2 w2.heap.size [(ordB, (3 : Int))] (x : Int) (.iface 63 (.pointer (some ⟨b, 0, none⟩))))) (fun e w2 he => by
      unfold OChk at he; rw [hk] at he
      obtain ⟨h1, b, h2, h3⟩ := he
      exact ⟨b, h2, h1, h3⟩))
    clear h hc hr HP hk
    go_enter Tryz.func39, Tryz.ntmps39
    go_wp2_with (first
      | (go_at_call 48; refine (HC.out _ (bel_new _ _)).mono ?_; rintro e w2 ⟨b, rfl, hb, he⟩)
      | (go_at_call 47; refine (unwrap_one he.out).mono ?_; rintro e w3 ⟨rfl, rfl⟩))
    go_ret
    exact ⟨rfl, hb.out⟩
/-- What is wrong with a side. -/
def sideE (at_ : Nat) (p q : Int) (on : Bool) : Option (Nat × Nat) :=
  match (if 0 < q then prE p on else none) with
    | some x => some (at_, x)
    | none => if q < 0 ∨ 1000000 < q then some (at_ + 1, 1) else none
/-- What wrongSide answers, what Check answers. -/
def QV (w : World) (r : Option (Nat × Nat)) (e : Ending) (w' : World) : Prop :=
  match r with
    | none => e = .returned .nilIface ∧ Below w.heap.size w w'
    | some (k, x) => QErr w k x e w'
theorem QV.good {w w' : World} {r : Option (Nat × Nat)} (h : r = none) (hb : Below w.heap.size w w') : QV w r (.returned .nilIface) w' := by
  unfold QV; rw [h]; exact ⟨rfl, hb⟩
theorem QV.bad {w w' : World} {r : Option (Nat × Nat)} {k x : Nat} {e : Ending} (h : r = some (k, x)) (hv : QErr w k x e w') : QV w r e w' := by
  unfold QV; rw [h]; exact hv
set_option maxRecDepth 100000 in
set_option maxHeartbeats 1000000 in
theorem wrongSide_any (k : Nat) (p q : Int) (A : Option Addr) (n c : Nat) (l : List Stp) (w : World) (h : TabAt w w.heap.size A n l) (hc : chk l = none) (hk : k ≤ 2) :
    Calls Tryz.prog 21 #[.int .i64 (k : Int), .int .i64 p, .int .i64 q, .slice A n c] w (QV w (sideE k p q (onT l p))) := by
  have HP := Lib.hid (wrongPrice_any p A n c l w h hc)
  have HG := Lib.hid (fun w' h hb => QV.good (w := w) (w' := w') (r := sideE k p q (onT l p)) h hb)
  have HB := Lib.hid (fun k' x e w' h hv => QV.bad (w := w) (w' := w') (r := sideE k p q (onT l p)) (k := k') (x := x) (e := e) h hv)
  generalize hR : QV w (sideE k p q (onT l p)) = R at HG HB ⊢
  clear hR
  generalize onT l p = on at *
  clear h hc
  by_cases hq : 0 < q
  · cases hr : prE p on with
    | some x =>
      have hS : sideE k p q on = some (k, x) := by unfold sideE; rw [if_pos hq, hr]
      rw [hr] at HP
      replace HP := Lib.hid (HP.out.mono (R' := fun e w2 => e = .returned (.iface 62 (.int .i64 (x : Int))) ∧ Hid (Below w.heap.size w w2)) (fun e w2 he => he))
      have HS := Lib.hid hS
      clear hS hr
      go_enter Tryz.func21, Tryz.ntmps21
      go_wp2_with (first
        | (go_at_call 39; refine HP.out.mono ?_; clear HP; rintro e w2 ⟨rfl, hb⟩)
        | (go_at_call 22; refine (qfault_any k x _ _ _ rfl rfl).mono ?_; rintro e wf ⟨hF, b, rfl, hE⟩; replace hE := Lib.hid hE; replace hF := Lib.hid hF))
      try go_ret
      exact HB.out k x _ _ HS.out (QErr.after ⟨hF.out, b, rfl, hE.out⟩ hb.out)
    | none =>
      rw [hr] at HP
      replace HP := Lib.hid (HP.out.mono (R' := fun e w2 => e = .returned .nilIface ∧ Hid (Below w.heap.size w w2)) (fun e w2 he => he))
      by_cases hm : 1000000 < q
      · have hS : sideE k p q on = some (k + 1, 1) := by unfold sideE; rw [if_pos hq, hr]; dsimp only; rw [if_pos (.inr hm)]
        have HS := Lib.hid hS
        have t0 : decide (q < 0) = false := by simp; omega
        have k1 : IntKind.i64.wrap ((k : Int) + 1) = (k : Int) + 1 := iwrap ⟨by omega, by omega⟩
        clear hS hr
        go_enter Tryz.func21, Tryz.ntmps21
        go_wp2_with (first
          | (go_at_call 39; refine HP.out.mono ?_; clear HP; rintro e w2 ⟨rfl, hb⟩)
          | (go_at_call 22; refine (qfault_any (k + 1) 1 _ _ _ (by first | rfl | (push_cast; rfl)) rfl).mono ?_; rintro e wf ⟨hF, b, rfl, hE⟩; replace hE := Lib.hid hE; replace hF := Lib.hid hF))
        try go_ret
        exact HB.out (k + 1) 1 _ _ HS.out (QErr.after ⟨hF.out, b, rfl, hE.out⟩ hb.out)
      · have hS : sideE k p q on = none := by unfold sideE; rw [if_pos hq, hr]; dsimp only; rw [if_neg (by omega)]
        have HS := Lib.hid hS
        have t0 : decide (q < 0) = false := by simp; omega
        have t1 : decide (1000000 < q) = false := by simp; omega
        clear hS hr
        go_enter Tryz.func21, Tryz.ntmps21
        go_wp2_with (first
          | (go_at_call 39; refine HP.out.mono ?_; clear HP; rintro e w2 ⟨rfl, hb⟩))
        try go_ret
        exact HG.out _ HS.out hb.out
  · by_cases hn : q < 0
    · have hS : sideE k p q on = some (k + 1, 1) := by unfold sideE; rw [if_neg hq]; dsimp only; rw [if_pos (.inl hn)]
      have HS := Lib.hid hS
      clear hS
      go_enter Tryz.func21, Tryz.ntmps21
      go_wp2_with (first
        | (go_at_call 22; refine (qfault_any (k + 1) 1 _ _ _ (by first | rfl | (push_cast; rfl)) rfl).mono ?_; rintro e wf ⟨hF, b, rfl, hE⟩; replace hE := Lib.hid hE; replace hF := Lib.hid hF))
      try go_ret
      exact HB.out (k + 1) 1 _ _ HS.out ⟨hF.out, b, rfl, hE.out⟩
    · obtain rfl : q = 0 := by omega
      have hS : sideE k p 0 on = none := by unfold sideE; rw [if_neg hq]; dsimp only; rw [if_neg (by omega)]
      have HS := Lib.hid hS
      clear hS
      go_enter Tryz.func21, Tryz.ntmps21
      go_wp2_with fail
      try go_ret
      exact HG.out _ HS.out (Below.refl _ _)
/-- A quote. -/
structure Quo where
  b : Int
  bq : Int
  a : Int
  aq : Int
abbrev quoV (q : Quo) : Value := .agg #[.int .i64 q.b, .int .i64 q.bq, .int .i64 q.a, .int .i64 q.aq]
/-- What is wrong with a quote. -/
def quoE (q : Quo) (ob oa : Bool) : Option (Nat × Nat) :=
  match sideE 0 q.b q.bq ob with
    | some r => some r
    | none =>
      match sideE 2 q.a q.aq oa with
        | some r => some r
        | none => if 0 < q.bq ∧ 0 < q.aq ∧ q.a ≤ q.b then some (2, 11) else none
set_option maxRecDepth 100000 in
set_option maxHeartbeats 1000000 in
theorem qcheck_any (q : Quo) (A : Option Addr) (n c : Nat) (l : List Stp) (w : World) (h : TabAt w w.heap.size A n l) (hc : chk l = none) :
    Calls Tryz.prog 10 #[quoV q, .slice A n c] w (QV w (quoE q (onT l q.b) (onT l q.a))) := by
  obtain ⟨b, bq, a, aq⟩ := q
  obtain ⟨W1, hW1⟩ : ∃ W1, w.alloc (.cells #[.int .i64 b, .int .i64 bq, .int .i64 a, .int .i64 aq] 23) = W1 := ⟨_, rfl⟩
  have B1 : Below w.heap.size w W1 := by rw [← hW1]; exact bel_new _ _
  have X : Box W1 w.heap.size 23 #[.int .i64 b, .int .i64 bq, .int .i64 a, .int .i64 aq] := by rw [← hW1]; exact Box.fresh _ _ _ rfl
  have KX := Lib.hid (fun w' (hb : Below W1.heap.size W1 w') => (⟨((X.kept_below hb X.there).reads 0).trans rfl, ((X.kept_below hb X.there).reads 1).trans rfl, ((X.kept_below hb X.there).reads 2).trans rfl, ((X.kept_below hb X.there).reads 3).trans rfl⟩ :
    w'.cell? ⟨w.heap.size, 0, none⟩ = some (.int .i64 b) ∧ w'.cell? ⟨w.heap.size, 1, none⟩ = some (.int .i64 bq) ∧ w'.cell? ⟨w.heap.size, 2, none⟩ = some (.int .i64 a) ∧ w'.cell? ⟨w.heap.size, 3, none⟩ = some (.int .i64 aq)))
  obtain ⟨x0, x1, x2, x3⟩ := KX.out W1 (Below.refl _ _)
  have HQB := Lib.hid (wrongSide_any 0 b bq A n c l W1 ((h.carry B1).wider B1.size) hc (by omega))
  have HQA := Lib.hid (fun w' (hb : Below W1.heap.size W1 w') => wrongSide_any 2 a aq A n c l w' ((h.carry (bel_trans B1 hb)).wider (bel_trans B1 hb).size) hc (by omega))
  have HG := Lib.hid (fun w' h hb => QV.good (w := w) (w' := w') (r := quoE ⟨b, bq, a, aq⟩ (onT l b) (onT l a)) h hb)
  have HB := Lib.hid (fun k' x e w' h hv => QV.bad (w := w) (w' := w') (r := quoE ⟨b, bq, a, aq⟩ (onT l b) (onT l a)) (k := k') (x := x) (e := e) h hv)
  have HB1 := Lib.hid B1
  generalize hR : QV w (quoE ⟨b, bq, a, aq⟩ (onT l b) (onT l a)) = R at HG HB ⊢
  clear hR B1 X
  generalize onT l b = ob at *
  generalize onT l a = oa at *
  clear h hc
  have hE : quoE ⟨b, bq, a, aq⟩ ob oa = match sideE 0 b bq ob with
    | some r => some r
    | none =>
      match sideE 2 a aq oa with
        | some r => some r
        | none => if 0 < bq ∧ 0 < aq ∧ a ≤ b then some (2, 11) else none := rfl
  cases hb : sideE 0 b bq ob with
  | some r =>
    obtain ⟨k, x⟩ := r
    rw [hb] at hE
    have HE := Lib.hid hE
    replace HQB := Lib.hid (HQB.out.mono (R' := fun e w2 => ∃ p, e = .returned (.iface 63 (.pointer (some ⟨p, 0, none⟩))) ∧ Hid (QErr W1 k x (.returned (.iface 63 (.pointer (some ⟨p, 0, none⟩)))) w2)) (fun e w2 he => by
      rw [hb] at he
      obtain ⟨h1, p, rfl, h3⟩ := he
      exact ⟨p, rfl, h1, p, rfl, h3⟩))
    clear hE hb
    go_enter Tryz.func10, Tryz.ntmps10
    go_wp2_with (go_at_call 21; refine HQB.out.mono ?_; clear HQB; rintro e w2 ⟨p, rfl, he⟩)
    try go_ret
    exact HB.out k x _ _ HE.out (QErr.after he.out HB1.out)
  | none =>
    rw [hb] at hE
    dsimp only at hE
    replace HQB := Lib.hid (HQB.out.mono (R' := fun e w2 => e = .returned .nilIface ∧ Hid (Below W1.heap.size W1 w2)) (fun e w2 he => by rw [hb] at he; exact he))
    clear hb
    cases ha : sideE 2 a aq oa with
    | some r =>
      obtain ⟨k, x⟩ := r
      rw [ha] at hE
      have HE := Lib.hid hE
      replace HQA := Lib.hid (fun w' hb => (HQA.out w' hb).mono (R' := fun e w2 => ∃ p, e = .returned (.iface 63 (.pointer (some ⟨p, 0, none⟩))) ∧ Hid (QErr W1 k x (.returned (.iface 63 (.pointer (some ⟨p, 0, none⟩)))) w2)) (fun e w2 he => by
        rw [ha] at he
        obtain ⟨h1, p, rfl, h3⟩ := he
        exact ⟨p, rfl, bel_trans hb h1, p, rfl, h3⟩))
      clear hE ha
      go_enter Tryz.func10, Tryz.ntmps10
      go_wp2_with (first
        | (go_at_call 21; refine HQB.out.mono ?_; clear HQB; rintro e w2 ⟨rfl, h2⟩; obtain ⟨y0, y1, y2, y3⟩ := KX.out _ h2.out)
        | (go_at_call 21; refine (HQA.out _ h2.out).mono ?_; clear HQA; rintro e w3 ⟨p, rfl, he⟩))
      try go_ret
      exact HB.out k x _ _ HE.out (QErr.after he.out HB1.out)
    | none =>
      rw [ha] at hE
      dsimp only at hE
      replace HQA := Lib.hid (fun w' hb => (HQA.out w' hb).mono (R' := fun e w2 => e = .returned .nilIface ∧ Hid (Below W1.heap.size W1 w2)) (fun e w2 he => by rw [ha] at he; exact ⟨he.1, bel_trans hb he.2⟩))
      clear ha
      by_cases g0 : 0 < bq
      rotate_left
      · skip
        have hE2 : quoE ⟨b, bq, a, aq⟩ ob oa = none := by rw [hE, if_neg (by omega)]
        have HE := Lib.hid hE2
        have t0 : decide (0 < bq) = false := by simp; omega
        clear hE hE2
        go_enter Tryz.func10, Tryz.ntmps10
        go_wp2_with (first
          | (go_at_call 21; refine HQB.out.mono ?_; clear HQB; rintro e w2 ⟨rfl, h2⟩; obtain ⟨y0, y1, y2, y3⟩ := KX.out _ h2.out)
          | (go_at_call 21; refine (HQA.out _ h2.out).mono ?_; clear HQA; rintro e w3 ⟨rfl, h3⟩; obtain ⟨z0, z1, z2, z3⟩ := KX.out _ h3.out))
        try go_ret
        exact HG.out _ HE.out (bel_trans HB1.out h3.out)
      by_cases g1 : 0 < aq
      rotate_left
      · skip
        have hE2 : quoE ⟨b, bq, a, aq⟩ ob oa = none := by rw [hE, if_neg (by omega)]
        have HE := Lib.hid hE2
        have t0 : decide (0 < bq) = true := by simp; omega
        have t1 : decide (0 < aq) = false := by simp; omega
        clear hE hE2
        go_enter Tryz.func10, Tryz.ntmps10
        go_wp2_with (first
          | (go_at_call 21; refine HQB.out.mono ?_; clear HQB; rintro e w2 ⟨rfl, h2⟩; obtain ⟨y0, y1, y2, y3⟩ := KX.out _ h2.out)
          | (go_at_call 21; refine (HQA.out _ h2.out).mono ?_; clear HQA; rintro e w3 ⟨rfl, h3⟩; obtain ⟨z0, z1, z2, z3⟩ := KX.out _ h3.out))
        try go_ret
        exact HG.out _ HE.out (bel_trans HB1.out h3.out)
      by_cases g2 : a ≤ b
      rotate_left
      · skip
        have hE2 : quoE ⟨b, bq, a, aq⟩ ob oa = none := by rw [hE, if_neg (by omega)]
        have HE := Lib.hid hE2
        have t0 : decide (0 < bq) = true := by simp; omega
        have t1 : decide (0 < aq) = true := by simp; omega
        have t2 : decide (a ≤ b) = false := by simp; omega
        clear hE hE2
        go_enter Tryz.func10, Tryz.ntmps10
        go_wp2_with (first
          | (go_at_call 21; refine HQB.out.mono ?_; clear HQB; rintro e w2 ⟨rfl, h2⟩; obtain ⟨y0, y1, y2, y3⟩ := KX.out _ h2.out)
          | (go_at_call 21; refine (HQA.out _ h2.out).mono ?_; clear HQA; rintro e w3 ⟨rfl, h3⟩; obtain ⟨z0, z1, z2, z3⟩ := KX.out _ h3.out))
        try go_ret
        exact HG.out _ HE.out (bel_trans HB1.out h3.out)
      have hE2 : quoE ⟨b, bq, a, aq⟩ ob oa = some (2, 11) := by rw [hE, if_pos ⟨g0, g1, g2⟩]
      have HE := Lib.hid hE2
      have t0 : decide (0 < bq) = true := by simp; omega
      have t1 : decide (0 < aq) = true := by simp; omega
      have t2 : decide (a ≤ b) = true := by simp; omega
      clear hE hE2
      go_enter Tryz.func10, Tryz.ntmps10
      go_wp2_with (first
        | (go_at_call 21; refine HQB.out.mono ?_; clear HQB; rintro e w2 ⟨rfl, h2⟩; obtain ⟨y0, y1, y2, y3⟩ := KX.out _ h2.out)
        | (go_at_call 21; refine (HQA.out _ h2.out).mono ?_; clear HQA; rintro e w3 ⟨rfl, h3⟩; obtain ⟨z0, z1, z2, z3⟩ := KX.out _ h3.out)
        | (go_at_call 22; refine (qfault_any 2 11 _ _ _ rfl rfl).mono ?_; rintro e wf ⟨hF, p, rfl, hX⟩; replace hX := Lib.hid hX; replace hF := Lib.hid hF))
      try go_ret
      exact HB.out 2 11 _ _ HE.out (QErr.after ⟨hF.out, p, rfl, hX.out⟩ (bel_trans HB1.out h3.out))
end Go.Proofs.YtkcgklaoefbglaaGreatDoor
