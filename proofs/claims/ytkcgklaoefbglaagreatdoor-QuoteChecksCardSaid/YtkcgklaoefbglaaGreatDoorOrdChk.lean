/- order.Check, whatever the order, over a table that may be; its faults. -/
import Derived.Test.YtkcgklaoefbglaaGreatDoorOrdSml
import Derived.Test.YtkcgklaoefbglaaGreatDoorIsErr
import Derived.Test.YtkcgklaoefbglaaGreatDoorGrdNear
set_option linter.unusedSimpArgs false
namespace Go.Proofs.YtkcgklaoefbglaaGreatDoor
open Go.RowKit Go.Mem1 Go.OrdMath Go.GridMath

/-- The word 'order'. -/
def ordB : ByteArray := ⟨#[111, 114, 100, 101, 114]⟩
/-- A Fault 'order' at a place, in new memory. -/
def OErr (w : World) (k x : Nat) (e : Ending) (w' : World) : Prop :=
  Below w.heap.size w w' ∧ ∃ b, e = .returned (.iface 63 (.pointer (some ⟨b, 0, none⟩))) ∧ IsErr w' w'.heap.size [(ordB, (k : Int))] (x : Int) (.iface 63 (.pointer (some ⟨b, 0, none⟩)))
theorem OErr.after {w w1 : World} {k x : Nat} {e : Ending} {w' : World} (h : OErr w1 k x e w') (hb : Below w.heap.size w w1) : OErr w k x e w' := ⟨bel_trans hb h.1, h.2⟩
theorem ofault_any (k x : Nat) (k' x' : Int) (w : World) (hk : k' = (k : Int)) (hx : x' = (x : Int)) :
    Calls Tryz.prog 60 #[.int .i64 k', .iface 62 (.int .i64 x')] w (OErr w k x) := by
  subst hk; subst hx
  go_enter Tryz.func60, Tryz.ntmps60
  go_wp2_with fail
  go_ret
  exact ⟨by first | exact bel_new _ _ | exact bel_alloc (bel_new _ _) _, _, rfl, _, _, rfl, by simp, by simp [ordB], by simp, by simp, rfl⟩
/-- What Check answers. -/
def OChk (o : Ord) (l : List Stp) (w : World) (e : Ending) (w' : World) : Prop :=
  match chkO o (onT l o.pr) with
    | none => e = .returned .nilIface ∧ Below w.heap.size w w'
    | some (k, x) => OErr w k x e w'
theorem OChk.bad {o : Ord} {l : List Stp} {w : World} {e : Ending} {w' : World} {k x : Nat} (h : chkO o (onT l o.pr) = some (k, x)) (hv : OErr w k x e w') : OChk o l w e w' := by
  unfold OChk; rw [h]; exact hv
theorem OChk.good {o : Ord} {l : List Stp} {w w' : World} (h : chkO o (onT l o.pr) = none) (hb : Below w.heap.size w w') : OChk o l w (.returned .nilIface) w' := by
  unfold OChk; rw [h]; exact ⟨rfl, hb⟩
set_option maxRecDepth 100000 in
set_option maxHeartbeats 1000000 in
theorem ocheck_any (o : Ord) (A : Option Addr) (n c : Nat) (l : List Stp) (w : World) (h : TabAt w w.heap.size A n l) (hc : chk l = none) :
    Calls Tryz.prog 48 #[ordV o, .slice A n c] w (OChk o l w) := by
  obtain ⟨i, ow, s, p, q, cu, lf⟩ := o
  obtain ⟨W1, hW1⟩ : ∃ W1, w.alloc (.cells #[.int .i64 i, .int .i64 ow, .int .i64 s, .int .i64 p, .int .i64 q, .bool cu, .int .i64 lf] 129) = W1 := ⟨_, rfl⟩
  have B1 : Below w.heap.size w W1 := by rw [← hW1]; exact bel_new _ _
  have z1 : w.heap.size < W1.heap.size := by rw [← hW1]; simp
  have c4 : W1.cell? ⟨w.heap.size, 4, none⟩ = some (.int .i64 q) := by rw [← hW1]; simp
  have c6 : W1.cell? ⟨w.heap.size, 6, none⟩ = some (.int .i64 lf) := by rw [← hW1]; simp
  have HO := Lib.hid ((on_any A n c l p W1 ((h.carry B1).wider B1.size) hc).mono (R' := fun e w2 => e = .returned (.bool (onT l p)) ∧ Hid (Below w.heap.size w w2) ∧ w2.cell? ⟨w.heap.size, 4, none⟩ = some (.int .i64 q) ∧ w2.cell? ⟨w.heap.size, 6, none⟩ = some (.int .i64 lf)) (fun e w2 ⟨he, h2⟩ => ⟨he, bel_trans B1 h2, (h2.cell (p := ⟨w.heap.size, 4, none⟩) z1).trans c4, (h2.cell (p := ⟨w.heap.size, 6, none⟩) z1).trans c6⟩))
  rw [← hW1] at HO
  clear B1 z1 c4 c6 hW1
  have HB := Lib.hid (fun k x e w' h hv => OChk.bad (o := ⟨i, ow, s, p, q, cu, lf⟩) (l := l) (w := w) (e := e) (w' := w') (k := k) (x := x) h hv)
  have HG := Lib.hid (fun w' h hb => OChk.good (o := ⟨i, ow, s, p, q, cu, lf⟩) (l := l) (w := w) (w' := w') h hb)
  have H1 := Lib.hid (fun w' => nIn_any ow 0 64 w')
  have H3 := Lib.hid (fun w' => nIn_any p 1 1000000 w')
  have H4 := Lib.hid (fun w' => nIn_any q 1 1000000 w')
  have HP := Lib.hid (fun w' => opp_any s w')
  have HL := Lib.hid (fun w' => life_any lf w')
  generalize OChk ⟨i, ow, s, p, q, cu, lf⟩ l w = R at *
  dsimp only at HB HG
  generalize onT l p = on at *
  have hK : chkO ⟨i, ow, s, p, q, cu, lf⟩ on = if i < 1 then some (0, 1) else if ¬ (0 ≤ ow ∧ ow ≤ 64) then some (1, 1) else if s ≠ 1 ∧ s ≠ 2 then some (2, 1) else if ¬ (1 ≤ p ∧ p ≤ 1000000) then some (3, 1) else if on = false then some (3, 10) else if ¬ (1 ≤ q ∧ q ≤ 1000000) then some (4, 1) else if ¬ (1 ≤ lf ∧ lf ≤ 4) then some (6, 1) else none := rfl
  generalize chkO ⟨i, ow, s, p, q, cu, lf⟩ on = K at *
  clear h hc
  by_cases h0 : i < 1
  · skip
    rw [if_pos h0] at hK
    have HK := Lib.hid hK
    clear hK
    go_enter Tryz.func48, Tryz.ntmps48
    go_wp2_with ((first
      | (go_at_call 60; refine (ofault_any 0 1 _ _ _ rfl rfl).mono ?_; rintro e wf ⟨hF, b, rfl, hE⟩; replace hE := Lib.hid hE; replace hF := Lib.hid hF)))
    try go_ret
    exact HB.out 0 1 _ _ HK.out (OErr.after ⟨hF.out, b, rfl, hE.out⟩ (bel_new _ _))
  by_cases h1 : 0 ≤ ow ∧ ow ≤ 64
  rotate_left
  · rw [decide_eq_false h1] at H1
    rw [if_neg h0, if_pos h1] at hK
    have HK := Lib.hid hK
    clear hK
    go_enter Tryz.func48, Tryz.ntmps48
    go_wp2_with ((first
      | (go_at_call 61; refine (H1.out _).mono ?_; clear H1; rintro e w' ⟨rfl, rfl⟩)
      | (go_at_call 60; refine (ofault_any 1 1 _ _ _ rfl rfl).mono ?_; rintro e wf ⟨hF, b, rfl, hE⟩; replace hE := Lib.hid hE; replace hF := Lib.hid hF)))
    try go_ret
    exact HB.out 1 1 _ _ HK.out (OErr.after ⟨hF.out, b, rfl, hE.out⟩ (bel_new _ _))
  rw [decide_eq_true h1] at H1
  by_cases h2 : s ≠ 1 ∧ s ≠ 2
  · rw [show oppI s = 0 by unfold oppI; rw [if_neg h2.1, if_neg h2.2]] at HP
    rw [if_neg h0, if_neg (not_not_intro h1), if_pos h2] at hK
    have HK := Lib.hid hK
    clear hK
    go_enter Tryz.func48, Tryz.ntmps48
    go_wp2_with ((first
      | (go_at_call 61; refine (H1.out _).mono ?_; clear H1; rintro e w' ⟨rfl, rfl⟩)
      | (go_at_call 62; refine (HP.out _).mono ?_; rintro e w' ⟨rfl, rfl⟩)
      | (go_at_call 60; refine (ofault_any 2 1 _ _ _ rfl rfl).mono ?_; rintro e wf ⟨hF, b, rfl, hE⟩; replace hE := Lib.hid hE; replace hF := Lib.hid hF)))
    try go_ret
    exact HB.out 2 1 _ _ HK.out (OErr.after ⟨hF.out, b, rfl, hE.out⟩ (bel_new _ _))
  obtain ⟨v, hv, hv0⟩ : ∃ v, oppI s = v ∧ (v == 0) = false := ⟨_, rfl, by unfold oppI; rcases (show s = 1 ∨ s = 2 by omega) with rfl | rfl <;> rfl⟩
  rw [hv] at HP
  clear hv
  by_cases h3 : 1 ≤ p ∧ p ≤ 1000000
  rotate_left
  · rw [decide_eq_false h3] at H3
    rw [if_neg h0, if_neg (not_not_intro h1), if_neg h2, if_pos h3] at hK
    have HK := Lib.hid hK
    clear hK
    go_enter Tryz.func48, Tryz.ntmps48
    go_wp2_with ((first
      | (go_at_call 61; refine (H1.out _).mono ?_; clear H1; rintro e w' ⟨rfl, rfl⟩)
      | (go_at_call 62; refine (HP.out _).mono ?_; rintro e w' ⟨rfl, rfl⟩)
      | (go_at_call 61; refine (H3.out _).mono ?_; clear H3; rintro e w' ⟨rfl, rfl⟩)
      | (go_at_call 60; refine (ofault_any 3 1 _ _ _ rfl rfl).mono ?_; rintro e wf ⟨hF, b, rfl, hE⟩; replace hE := Lib.hid hE; replace hF := Lib.hid hF)))
    try go_ret
    exact HB.out 3 1 _ _ HK.out (OErr.after ⟨hF.out, b, rfl, hE.out⟩ (bel_new _ _))
  rw [decide_eq_true h3] at H3
  cases on with
  | false =>
    rw [if_neg h0, if_neg (not_not_intro h1), if_neg h2, if_neg (not_not_intro h3), if_pos rfl] at hK
    have HK := Lib.hid hK
    clear hK
    go_enter Tryz.func48, Tryz.ntmps48
    go_wp2_with ((first
      | (go_at_call 61; refine (H1.out _).mono ?_; clear H1; rintro e w' ⟨rfl, rfl⟩)
      | (go_at_call 62; refine (HP.out _).mono ?_; rintro e w' ⟨rfl, rfl⟩)
      | (go_at_call 61; refine (H3.out _).mono ?_; clear H3; rintro e w' ⟨rfl, rfl⟩)
      | (go_at_call 63; refine HO.out.mono ?_; rintro e w2 ⟨rfl, hB2, k4, k6⟩)
      | (go_at_call 60; refine (ofault_any 3 10 _ _ _ rfl rfl).mono ?_; rintro e wf ⟨hF, b, rfl, hE⟩; replace hE := Lib.hid hE; replace hF := Lib.hid hF)))
    try go_ret
    exact HB.out 3 10 _ _ HK.out (OErr.after ⟨hF.out, b, rfl, hE.out⟩ hB2.out)
  | true =>
    by_cases h4 : 1 ≤ q ∧ q ≤ 1000000
    rotate_left
    · rw [decide_eq_false h4] at H4
      rw [if_neg h0, if_neg (not_not_intro h1), if_neg h2, if_neg (not_not_intro h3), if_neg (by simp), if_pos h4] at hK
      have HK := Lib.hid hK
      clear hK
      go_enter Tryz.func48, Tryz.ntmps48
      go_wp2_with ((first
        | (go_at_call 61; refine (H1.out _).mono ?_; clear H1; rintro e w' ⟨rfl, rfl⟩)
        | (go_at_call 62; refine (HP.out _).mono ?_; rintro e w' ⟨rfl, rfl⟩)
        | (go_at_call 61; refine (H3.out _).mono ?_; clear H3; rintro e w' ⟨rfl, rfl⟩)
        | (go_at_call 63; refine HO.out.mono ?_; rintro e w2 ⟨rfl, hB2, k4, k6⟩)
        | (go_at_call 61; refine (H4.out _).mono ?_; clear H4; rintro e w' ⟨rfl, rfl⟩)
        | (go_at_call 60; refine (ofault_any 4 1 _ _ _ rfl rfl).mono ?_; rintro e wf ⟨hF, b, rfl, hE⟩; replace hE := Lib.hid hE; replace hF := Lib.hid hF)))
      try go_ret
      exact HB.out 4 1 _ _ HK.out (OErr.after ⟨hF.out, b, rfl, hE.out⟩ hB2.out)
    rw [decide_eq_true h4] at H4
    by_cases h5 : 1 ≤ lf ∧ lf ≤ 4
    rotate_left
    · rw [show lifeS lf = ⟨#[45]⟩ by unfold lifeS; rw [if_neg (by omega), if_neg (by omega), if_neg (by omega), if_neg (by omega)]] at HL
      rw [if_neg h0, if_neg (not_not_intro h1), if_neg h2, if_neg (not_not_intro h3), if_neg (by simp), if_neg (not_not_intro h4), if_pos h5] at hK
      have HK := Lib.hid hK
      clear hK
      go_enter Tryz.func48, Tryz.ntmps48
      go_wp2_with ((first
        | (go_at_call 61; refine (H1.out _).mono ?_; clear H1; rintro e w' ⟨rfl, rfl⟩)
        | (go_at_call 62; refine (HP.out _).mono ?_; rintro e w' ⟨rfl, rfl⟩)
        | (go_at_call 61; refine (H3.out _).mono ?_; clear H3; rintro e w' ⟨rfl, rfl⟩)
        | (go_at_call 63; refine HO.out.mono ?_; rintro e w2 ⟨rfl, hB2, k4, k6⟩)
        | (go_at_call 61; refine (H4.out _).mono ?_; clear H4; rintro e w' ⟨rfl, rfl⟩)
        | (go_at_call 64; refine (HL.out _).mono ?_; rintro e w3 ⟨rfl, hB3⟩; replace hB3 := Lib.hid (bel_trans hB2.out hB3))
        | (go_at_call 60; refine (ofault_any 6 1 _ _ _ rfl rfl).mono ?_; rintro e wf ⟨hF, b, rfl, hE⟩; replace hE := Lib.hid hE; replace hF := Lib.hid hF)))
      try go_ret
      exact HB.out 6 1 _ _ HK.out (OErr.after ⟨hF.out, b, rfl, hE.out⟩ hB3.out)
    rcases (show lf = 1 ∨ lf = 2 ∨ lf = 3 ∨ lf = 4 by omega) with rfl | rfl | rfl | rfl
    all_goals
      first | rw [show lifeS 1 = ⟨#[100, 97, 121]⟩ from rfl] at HL | rw [show lifeS 2 = ⟨#[105, 111, 99]⟩ from rfl] at HL | rw [show lifeS 3 = ⟨#[102, 111, 107]⟩ from rfl] at HL | rw [show lifeS 4 = ⟨#[112, 111, 115, 116]⟩ from rfl] at HL
      rw [if_neg h0, if_neg (not_not_intro h1), if_neg h2, if_neg (not_not_intro h3), if_neg (by simp), if_neg (not_not_intro h4), if_neg (by omega)] at hK
      have HK := Lib.hid hK
      clear hK
      go_enter Tryz.func48, Tryz.ntmps48
      go_wp2_with ((first
        | (go_at_call 61; refine (H1.out _).mono ?_; clear H1; rintro e w' ⟨rfl, rfl⟩)
        | (go_at_call 62; refine (HP.out _).mono ?_; rintro e w' ⟨rfl, rfl⟩)
        | (go_at_call 61; refine (H3.out _).mono ?_; clear H3; rintro e w' ⟨rfl, rfl⟩)
        | (go_at_call 63; refine HO.out.mono ?_; rintro e w2 ⟨rfl, hB2, k4, k6⟩)
        | (go_at_call 61; refine (H4.out _).mono ?_; clear H4; rintro e w' ⟨rfl, rfl⟩)
        | (go_at_call 64; refine (HL.out _).mono ?_; rintro e w3 ⟨rfl, hB3⟩; replace hB3 := Lib.hid (bel_trans hB2.out hB3))))
      try go_ret
      exact HG.out _ HK.out hB3.out
end Go.Proofs.YtkcgklaoefbglaaGreatDoor
