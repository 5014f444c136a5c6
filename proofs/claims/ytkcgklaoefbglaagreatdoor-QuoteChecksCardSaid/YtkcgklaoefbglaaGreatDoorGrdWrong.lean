/- What may not be about a Step (wrong). -/
import Derived.Test.YtkcgklaoefbglaaGreatDoorGrdMem
import Derived.Deep.QuietTactic
import Derived.BigQuiet
import Derived.Deep.RegionWith
import Derived.Deep.RegionHeld3
set_option linter.unusedSimpArgs false
namespace Go.Proofs.YtkcgklaoefbglaaGreatDoor
open Go.RowKit Go.Mem1 Go.GridMath

theorem ret_i {a b : Int} (h : b = a) : Ending.returned (.int .i64 a) = .returned (.int .i64 b) := by rw [h]
set_option maxRecDepth 100000 in
set_option maxHeartbeats 1000000 in
theorem wrong_zero (A : Option Addr) (n c : Nat) (l : List Stp) (w : World) (h : TabAt w w.heap.size A n l) (hn : 0 < n) :
    Calls Tryz.prog 76 #[.slice A n c, .int .i64 0] w fun e w' => e = .returned (.int .i64 (wrongAt l 0)) ∧ Below w.heap.size w w' := by
  obtain ⟨b, off, s, rfl, hb, hs, h1, h2⟩ := h.get hn
  have e : wrongAt l 0 = wrong0 s := by rw [wrongAt, hs]; rfl
  rw [e]
  simp only [Nat.zero_mul, Nat.add_zero] at h1 h2
  obtain ⟨f, y⟩ := s
  dsimp only at h1 h2 ⊢
  clear e hs h
  obtain ⟨R, hR⟩ : ∃ R, R = wrong0 (f, y) := ⟨_, rfl⟩
  rw [← hR]
  have HR := Lib.hid hR
  clear hR
  by_cases t0 : f = 1
  · subst t0
    have t1 : decide ((0 : Int) < 0) = false := rfl
    go_enter Tryz.func76, Tryz.ntmps76
    go_wp2_with fail
    all_goals go_quiet (fail)
    all_goals go_wp2_with fail
    all_goals try (go_quiet (fail))
    all_goals try (go_wp2_with fail)
    all_goals
      go_ret
      exact ⟨ret_i (by rw [HR.out]; unfold wrong0; dsimp only; split <;> omega), by first | exact bel_drawn (bel_new _ _) _ | exact bel_drawn (bel_drawn (bel_new _ _) _) _⟩
  · have t0' : (f != 1) = true := by simpa using t0
    go_enter Tryz.func76, Tryz.ntmps76
    go_wp2_with fail
    go_ret
    exact ⟨ret_i (by rw [HR.out]; unfold wrong0; dsimp only; split <;> omega), bel_new _ _⟩
set_option maxRecDepth 100000 in
set_option maxHeartbeats 2000000 in
theorem wrong_succ (A : Option Addr) (n c k : Nat) (l : List Stp) (w : World) (h : TabAt w w.heap.size A n l) (hn : k + 1 < n) (hk : n ≤ 1000000) (hq : Fine (l[k]?.getD (0, 0))) :
    Calls Tryz.prog 76 #[.slice A n c, .int .i64 ((k : Int) + 1)] w fun e w' => e = .returned (.int .i64 (wrongAt l (k + 1))) ∧ Below w.heap.size w w' := by
  obtain ⟨b, off, s, rfl, hb, hs, h1, h2⟩ := h.get hn
  obtain ⟨b', off', q, e', hb', hs', h1', h2'⟩ := h.get (show k < n by omega)
  injection e' with e'
  injection e' with e1 e2
  subst e1; subst e2
  have e : wrongAt l (k + 1) = wrong1 q s := by rw [wrongAt, hs, hs']; rfl
  rw [e]
  rw [hs'] at hq
  obtain ⟨f, y⟩ := s
  obtain ⟨g, z⟩ := q
  dsimp only [Option.getD_some] at h1 h2 h1' h2' hq ⊢
  obtain ⟨q1, q2, q3, q4⟩ := hq
  dsimp only at q1 q2 q3 q4
  clear e hs h hs' hb'
  obtain ⟨R, hR⟩ : ∃ R, R = wrong1 (g, z) (f, y) := ⟨_, rfl⟩
  rw [← hR]
  have HR := Lib.hid hR
  clear hR
  have t0 : (((k : Int) + 1) == 0) = false := by simp; omega
  have t1 : decide ((0 : Int) < (k : Int) + 1) = true := by simp
  go_enter Tryz.func76, Tryz.ntmps76
  go_wp2_with fail
  all_goals go_quiet (fail)
  all_goals go_wp2_with fail
  all_goals first
    | (go_ret
       exact ⟨ret_i (by rw [HR.out]; unfold wrong1; dsimp only; split <;> omega), by first | exact bel_drawn (bel_new _ _) _ | exact bel_drawn (bel_drawn (bel_new _ _) _) _⟩)
    | skip
  generalize hW : World.drewN (w.alloc _) _ = W1
  have B1 : Below w.heap.size w W1 := by rw [← hW]; exact bel_drawn (bel_new _ _) _
  have g1 : W1.cell? ⟨b, off + k * 2, none⟩ = some (.int .i64 g) := (B1.cell (p := ⟨b, _, none⟩) hb).trans h1'
  have g2 : W1.cell? ⟨b, off + k * 2 + 1, none⟩ = some (.int .i64 z) := (B1.cell (p := ⟨b, _, none⟩) hb).trans h2'
  have g3 : W1.cell? ⟨w.heap.size, 0, none⟩ = some (.int .i64 f) := by rw [← hW]; simp
  have hS0 : W1.cell? ⟨b, off + k * 2, none⟩ = some (.int .i64 g) ∧ W1.cell? ⟨b, off + k * 2 + 1, none⟩ = some (.int .i64 z) ∧ W1.cell? ⟨w.heap.size, 0, none⟩ = some (.int .i64 f) := ⟨g1, g2, g3⟩
  obtain ⟨D, hD⟩ : ∃ D, decide ((f - g) % z = 0) = D := ⟨_, rfl⟩
  have HM := Lib.hid ((meets_any g z f W1.drew q3 q1 (by omega) (by omega)).mono (R' := fun e w' => e = .returned (.bool D) ∧ Below W1.heap.size W1 w') (fun e w' ⟨he, hw⟩ => ⟨by rw [he, hD], by rw [hw]; exact (Below.refl _ _).drew.alloc (Nat.le_refl _) _⟩))
  have HD := Lib.hid hD
  clear hD
  have bs : b < W1.heap.size := Nat.lt_of_lt_of_le hb B1.size
  have ws : w.heap.size < W1.heap.size := by rw [← hW]; simp
  have KS := Lib.hid (fun w' (h : Below W1.heap.size W1 w') => (⟨(h.cell (p := ⟨b, _, none⟩) bs).trans g1, (h.cell (p := ⟨b, _, none⟩) bs).trans g2, (h.cell (p := ⟨w.heap.size, _, none⟩) ws).trans g3⟩ : w'.cell? ⟨b, off + k * 2, none⟩ = some (.int .i64 g) ∧ w'.cell? ⟨b, off + k * 2 + 1, none⟩ = some (.int .i64 z) ∧ w'.cell? ⟨w.heap.size, 0, none⟩ = some (.int .i64 f)))
  have hSd := KS.out W1.drew (Below.refl _ _).drew
  have HB := Lib.hid B1
  have hk1 : k < n := by omega
  have hk2 : (k : Int) < (n : Int) := by omega
  have hk3 : (0 : Int) ≤ (k : Int) := by omega
  have hk5 : IntKind.i64.wrap (k : Int) = (k : Int) := iwrap (by omega)
  have hk6 : wrap64 (k : Int) = (k : Int) := wrap64_id (by omega)
  have hk4 : IntKind.i64.wrap ((k : Int) + 1 - 1) = (k : Int) := by rw [show (k : Int) + 1 - 1 = (k : Int) by omega]; exact hk5
  clear hW h1 h2 h1' h2' B1
  go_region_held3 (fun w' => w'.cell? ⟨b, off + k * 2, none⟩ = some (.int .i64 g) ∧ w'.cell? ⟨b, off + k * 2 + 1, none⟩ = some (.int .i64 z) ∧ w'.cell? ⟨w.heap.size, 0, none⟩ = some (.int .i64 f))
    (first | with_reducible exact hS0 | with_reducible exact hSd | with_reducible exact k5) ((go_at_call 78; refine HM.out.mono ?_; rintro e w5 ⟨rfl, hb5⟩; have k5 := KS.out _ hb5; have B5 := Lib.hid (HB.out.trans (hb5.mono HB.out.size)); clear hb5; dsimp only))
  have hf : ¬ (f ≤ g ∨ 1000000 < f ∨ y < 1 ∨ 10000 < y) := by omega
  cases D with
  | true =>
    go_wp2_with fail
    go_ret
    exact ⟨ret_i (by rw [HR.out]; unfold wrong1; dsimp only; rw [if_neg hf, if_pos (of_decide_eq_true HD.out)]), B5.out⟩
  | false =>
    go_wp2_with fail
    go_ret
    exact ⟨ret_i (by rw [HR.out]; unfold wrong1; dsimp only; rw [if_neg hf, if_neg (of_decide_eq_false HD.out)]), B5.out⟩
end Go.Proofs.YtkcgklaoefbglaaGreatDoor
