/- Near, On, Up, Down, upTo, Count: of tables that may be. -/
import Derived.Test.YtkcgklaoefbglaaGreatDoorGrdAt
set_option linter.unusedSimpArgs false
namespace Go.Proofs.YtkcgklaoefbglaaGreatDoor
open Go.RowKit Go.Mem1 Go.GridMath

/-- What a walk wants of a Step told. -/
theorem atI_some {l : List Stp} (ho : chk l = none) {p : Int} {s : Stp} (h : atI l p = some s) : 1 ≤ s.1 ∧ s.1 ≤ p ∧ p ≤ 1000000 ∧ 1 ≤ s.2 ∧ s.2 ≤ 10000 := by
  unfold atI at h
  split at h
  · cases h
  · obtain ⟨a, b, c, d, e⟩ := lastAt_mem (okT_chk ho).1 h
    exact ⟨a, b, by omega, d, e⟩
theorem atI_min (l : List Stp) (p : Int) : atI l (min p 1000000) = lastAt l.reverse (min p 1000000) := by
  unfold atI; rw [if_neg (by omega)]
def nearO (o : Option Stp) (m : Int) : Int := match o with
  | none => 0
  | some s => m - (m - s.1) % s.2
theorem nearO_eq (l : List Stp) (p : Int) : nearT l p = nearO (atI l (min p 1000000)) (min p 1000000) := by
  unfold nearT near nearO; rw [atI_min]; cases lastAt l.reverse (min p 1000000) <;> rfl
set_option maxRecDepth 100000 in
set_option maxHeartbeats 1000000 in
theorem near_walk (A : Option Addr) (n c : Nat) (p m : Int) (w : World) (o : Option Stp) (hm : m = p ∧ p ≤ 1000000 ∨ m = 1000000 ∧ 1000000 < p)
    (HA : Hid (Calls Tryz.prog 72 #[.slice A n c, .int .i64 m] w fun e w' => e = .returned (atV o) ∧ Below w.heap.size w w'))
    (HS : ∀ s, o = some s → 1 ≤ s.1 ∧ s.1 ≤ m ∧ m ≤ 1000000 ∧ 1 ≤ s.2 ∧ s.2 ≤ 10000) :
    Calls Tryz.prog 70 #[.slice A n c, .int .i64 p] w fun e w' => e = .returned (.int .i64 (nearO o m)) ∧ Below w.heap.size w w' := by
  cases o with
  | none =>
    dsimp only [atV, nearO] at HA ⊢
    clear HS
    rcases hm with ⟨rfl, hp⟩ | ⟨rfl, hp⟩
    all_goals
      go_enter Tryz.func70, Tryz.ntmps70
      go_wp2_with (go_at_call 72; refine HA.out.mono ?_; rintro e w1 ⟨rfl, hb⟩; replace hb := Lib.hid hb)
      go_ret
      exact ⟨rfl, hb.out.alloc hb.out.size _⟩
  | some s =>
    obtain ⟨h1, h2, h3, h4, h5⟩ := HS s rfl
    obtain ⟨f, y⟩ := s
    dsimp only [atV, nearO] at HA h1 h2 h4 h5 ⊢
    clear HS
    have e1 := Int.emod_nonneg (m - f) (show y ≠ 0 by omega)
    have e2 := Int.emod_lt_of_pos (m - f) (show 0 < y by omega)
    obtain ⟨d, hd⟩ : ∃ d, (m - f) % y = d := ⟨_, rfl⟩
    rcases hm with ⟨rfl, hp⟩ | ⟨rfl, hp⟩
    all_goals
      go_enter Tryz.func70, Tryz.ntmps70
      go_wp2_with (go_at_call 72; refine HA.out.mono ?_; rintro e w1 ⟨rfl, hb⟩; replace hb := Lib.hid hb)
      go_ret
      exact ⟨ret_i (by rw [hd]), hb.out.alloc hb.out.size _⟩
theorem near_any (A : Option Addr) (n c : Nat) (l : List Stp) (p : Int) (w : World) (h : TabAt w w.heap.size A n l) (ho : chk l = none) :
    Calls Tryz.prog 70 #[.slice A n c, .int .i64 p] w fun e w' => e = .returned (.int .i64 (nearT l p)) ∧ Below w.heap.size w w' := by
  rw [nearO_eq]
  exact near_walk A n c p (min p 1000000) w _ (by omega) (Lib.hid (at_any A n c l (min p 1000000) w h ho)) (fun s hs => atI_some ho hs)
set_option maxRecDepth 100000 in
set_option maxHeartbeats 1000000 in
theorem on_any (A : Option Addr) (n c : Nat) (l : List Stp) (p : Int) (w : World) (h : TabAt w w.heap.size A n l) (ho : chk l = none) :
    Calls Tryz.prog 63 #[.slice A n c, .int .i64 p] w fun e w' => e = .returned (.bool (onT l p)) ∧ Below w.heap.size w w' := by
  have HA := Lib.hid (near_any A n c l p w h ho)
  obtain ⟨b, hb⟩ : ∃ b, onT l p = b := ⟨_, rfl⟩
  rw [hb]
  unfold onT at hb
  clear h ho
  generalize nearT l p = q at *
  by_cases hp : p = 0
  · subst hp
    have hb' : b = false := by rw [← hb]; simp
    subst hb'
    go_enter Tryz.func63, Tryz.ntmps63
    go_wp2_with fail
    go_ret
    exact ⟨rfl, Below.refl _ _⟩
  · have hp' : (p != 0) = true := by simpa using hp
    have hb' : b = (q == p) := by rw [← hb, decide_eq_true hp]; rfl
    subst hb'
    clear hb
    go_enter Tryz.func63, Tryz.ntmps63
    go_wp2_with (go_at_call 70; refine HA.out.mono ?_; rintro e w1 ⟨rfl, hb⟩; replace hb := Lib.hid hb)
    go_ret
    exact ⟨rfl, hb.out⟩
end Go.Proofs.YtkcgklaoefbglaaGreatDoor
