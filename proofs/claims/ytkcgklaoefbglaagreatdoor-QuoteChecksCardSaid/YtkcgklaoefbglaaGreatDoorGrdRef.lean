/- The reference's step, Near, On, Up, Down: of tables that may be. -/
import Derived.Test.YtkcgklaoefbglaaGreatDoorGrdNear
import Derived.Test.YtkcgklaoefbglaaGreatDoorGrdRefMath
set_option linter.unusedSimpArgs false
namespace Go.Proofs.YtkcgklaoefbglaaGreatDoor
open Go.RowKit Go.Mem1 Go.GridMath

theorem step_field (x y : Int) (w : World) : (Instr.field 55 (.agg #[.int .i64 x, .int .i64 y]) 1).run Tryz.prog w = .ok (.int .i64 y) w := by
  kernel_rfl
theorem rstep_end {W : World} {R : Ending → World → Prop} {tmps : Array Value} {q : Nat} {x y : Int} (t4 : tmps[4]? = some (.pointer (some ⟨q, 0, none⟩))) (hq : Box W q 55 #[.int .i64 x, .int .i64 y]) (hR : R (.returned (.agg #[.int .i64 x, .int .i64 y])) W) :
    bodyPost Tryz.prog Tryz.f59 R .ret { tmps := tmps, defers := [] } W := by
  have c0 := (hq.reads 0).trans rfl
  have c1 := (hq.reads 1).trans rfl
  exact bodyPost_ret (v := .agg #[.int .i64 x, .int .i64 y]) (by simp [results, Tryz.results59, go_sem, t4, c0, c1]) rfl hR
/-- Between two rounds of step. -/
def StepSt (w wr : World) (l : List Stp) (p : Int) (k : Nat) : Prop :=
  ∃ s, lastAt (hd l k) p = some s ∧ Box wr (w.heap.size + 1) 55 #[.int .i64 s.1, .int .i64 s.2] ∧ Box wr w.heap.size 55 #[.int .i64 0, .int .i64 0] ∧ Below w.heap.size w wr
theorem StepSt.skip {w wr : World} {l : List Stp} {p : Int} {k : Nat} {s : Stp} (h : StepSt w wr l p k) (hs : l[k]? = some s) (hp : ¬ s.1 ≤ p) : StepSt w wr l p (k + 1) := by
  obtain ⟨t, h1, h2⟩ := h
  exact ⟨t, by rw [hd_succ hs, lastAt, if_neg hp]; exact h1, h2⟩
theorem StepSt.put {w wr : World} {l : List Stp} {p : Int} {k : Nat} {f y : Int} (h : StepSt w wr l p k) (hs : l[k]? = some (f, y)) (hp : f ≤ p) : StepSt w ((wr.setCell ⟨w.heap.size + 1, 0, none⟩ (.int .i64 f)).setCell ⟨w.heap.size + 1, 1, none⟩ (.int .i64 y)) l p (k + 1) := by
  obtain ⟨t, h1, h2, h3, h4⟩ := h
  have e : ∀ i (u : Value) (W : World), Box W w.heap.size 55 #[.int .i64 0, .int .i64 0] → Box (W.setCell ⟨w.heap.size + 1, i, none⟩ u) w.heap.size 55 #[.int .i64 0, .int .i64 0] := fun i u W hb =>
    (Below.heap_setCell W ⟨w.heap.size + 1, i, none⟩ u w.heap.size (by show w.heap.size ≠ w.heap.size + 1; omega)).trans hb
  exact ⟨(f, y), by rw [hd_succ hs, lastAt, if_pos hp], (h2.wrote 0 _).wrote 1 _, e _ _ _ (e _ _ _ h3), (h4.setCell (p := ⟨w.heap.size + 1, 0, none⟩) (by simp) _).setCell (p := ⟨w.heap.size + 1, 1, none⟩) (by simp) _⟩
theorem StepSt.cells {w wr : World} {l : List Stp} {p : Int} {k : Nat} (h : StepSt w wr l p k) : ∃ x y, lastAt (hd l k) p = some (x, y) ∧ wr.cell? ⟨w.heap.size + 1, 0, none⟩ = some (.int .i64 x) ∧ wr.cell? ⟨w.heap.size + 1, 1, none⟩ = some (.int .i64 y) ∧ wr.frozen? ⟨w.heap.size + 1, 0, none⟩ = false ∧ wr.frozen? ⟨w.heap.size + 1, 1, none⟩ = false ∧
    wr.cell? ⟨w.heap.size, 0, none⟩ = some (.int .i64 0) ∧ wr.cell? ⟨w.heap.size, 1, none⟩ = some (.int .i64 0) ∧ wr.frozen? ⟨w.heap.size, 0, none⟩ = false ∧ wr.frozen? ⟨w.heap.size, 1, none⟩ = false := by
  obtain ⟨⟨x, y⟩, h1, h2, h3, h4⟩ := h
  exact ⟨x, y, h1, (h2.reads 0).trans rfl, (h2.reads 1).trans rfl, h2.unmarked 0, h2.unmarked 1, (h3.reads 0).trans rfl, (h3.reads 1).trans rfl, h3.unmarked 0, h3.unmarked 1⟩
def StepPost (w : World) (l : List Stp) (p : Int) (e : Ending) (w' : World) : Prop := ∃ x y, e = .returned (.agg #[.int .i64 x, .int .i64 y]) ∧ lastAt l.reverse p = some (x, y) ∧ Below w.heap.size w w'
set_option maxRecDepth 100000 in
set_option maxHeartbeats 1000000 in
theorem rstep_any (A : Option Addr) (n c : Nat) (l : List Stp) (p : Int) (w : World) (h : TabAt w w.heap.size A n l) (ho : chk l = none) (hp : 1 ≤ p) :
    Calls Tryz.prog 59 #[.slice A n c, .int .i64 p] w (StepPost w l p) := by
  have hoc := of_chk ho
  have hl := h.len
  have hn : 0 < n := by
    rcases Nat.eq_zero_or_pos n with h0 | h0
    · exact absurd (List.eq_nil_of_length_eq_zero (by omega)) hoc.1
    · exact h0
  have hn8 : n ≤ 8 := by have := hoc.2.1; omega
  have H := Lib.hid h
  have HL := Lib.hid hl
  obtain ⟨b, off, s, rfl, hb, hs, y0, y1⟩ := h.get hn
  have h1 := first_one hoc.2.2 hs
  obtain ⟨f, y⟩ := s
  obtain rfl : f = 1 := h1
  have hst : ∀ W, W = (w.alloc (.cells #[.int .i64 0, .int .i64 0] 55)).alloc (.cells #[.int .i64 1, .int .i64 y] 55) → StepSt w W l p 1 := by
    rintro W rfl
    refine ⟨(1, y), by rw [hd_succ hs, lastAt, if_pos hp], Box.fresh _ _ _ (by simp), (Box.fresh w _ _ rfl).kept_below (bel_new _ _) (by simp), bel_alloc (bel_new _ _) _⟩
  have HST := Lib.hid hst
  simp only [Nat.zero_mul, Nat.add_zero] at y0 y1
  have i0 : (0 : Int) < (n : Int) := by omega
  clear h hl hs hst hoc ho
  go_enter Tryz.func59, Tryz.ntmps59
  go_wp2_with fail
  go_loopw [6] (fun v6 wr => ∃ k : Nat, k ≤ n ∧ v6 = .int .i64 k ∧ Hid (StepSt w wr l p k)) (fun v6 _ => n - (intOf v6).toNat)
  case atStart => exact ⟨1, by omega, rfl, HST.out _ rfl⟩
  case round =>
    obtain ⟨k, hk, rfl, hS⟩ := hrel
    obtain ⟨x, z, hxz, c0, c1, f0, f1, d0, d1, e0, e1⟩ := hS.out.cells
    by_cases hlt : k < n
    · obtain ⟨b', off', s, e', hb', hs, z0, z1⟩ := (H.out.carry hS.out.choose_spec.2.2.2).get hlt
      injection e' with e'
      injection e' with e1' e2'
      subst e1'; subst e2'
      obtain ⟨g, v⟩ := s
      dsimp only at z0 z1
      have HS := Lib.hid hs
      have a1 : (0 : Int) ≤ (k : Int) := by omega
      have a2 : (k : Int) < (n : Int) := by omega
      clear hs hxz d0 d1 e0 e1
      by_cases hgp : g ≤ p
      · have hgp' : decide (g ≤ p) = true := by simpa using hgp
        go_wp2_with fail
        go_roundw
        case rel => exact ⟨k + 1, by omega, by go_num, Lib.hid (hS.out.put HS.out hgp)⟩
        case measure => simp [intOf]; omega
      · have hgp' : decide (g ≤ p) = false := by simpa using hgp
        go_wp2_with fail
        go_roundw
        case rel => exact ⟨k + 1, by omega, by go_num, Lib.hid (hS.out.skip HS.out hgp)⟩
        case measure => simp [intOf]; omega
    · obtain rfl : k = n := by omega
      have hbx := hS.out.choose_spec.2.2.1
      have hbl := hS.out.choose_spec.2.2.2
      have HX := Lib.hid hxz
      have HBX := Lib.hid hbx
      have HBL := Lib.hid hbl
      clear hxz hbx hbl
      go_wp2_with fail
      refine rstep_end rfl ((HBX.out.wrote 0 _).wrote 1 _) ⟨x, z, rfl, ?_, (HBL.out.setCell (p := ⟨w.heap.size, 0, none⟩) (Nat.le_refl _) _).setCell (p := ⟨w.heap.size, 1, none⟩) (Nat.le_refl _) _⟩
      rw [← hd_all, HL.out]; exact HX.out
set_option maxRecDepth 100000 in
set_option maxHeartbeats 1000000 in
theorem rnear_any (A : Option Addr) (n c : Nat) (l : List Stp) (p : Int) (w : World) (h : TabAt w w.heap.size A n l) (ho : chk l = none) :
    Calls Tryz.prog 43 #[.slice A n c, .int .i64 p] w fun e w' => e = .returned (.int .i64 (nearT l p)) ∧ Below w.heap.size w w' := by
  by_cases hp : p < 1
  · rw [nearT_low (okT_chk ho) hp]
    have hp' : decide (p < 1) = true := by simpa using hp
    clear h ho
    go_enter Tryz.func43, Tryz.ntmps43
    go_wp2_with fail
    go_ret
    exact ⟨rfl, Below.refl _ _⟩
  · have hp' : decide (p < 1) = false := by simpa using hp
    obtain ⟨m, hm⟩ : ∃ m, min p 1000000 = m := ⟨_, rfl⟩
    have HA := Lib.hid (rstep_any A n c l m w h ho (by omega))
    have hmem := fun s (hs : lastAt l.reverse m = some s) => lastAt_mem (okT_chk ho).1 hs
    obtain ⟨R, hR⟩ : ∃ R, nearT l p = R := ⟨_, rfl⟩
    have hRe : ∀ s, lastAt l.reverse m = some s → R = m - (m - s.1) % s.2 := fun s hs => by
      rw [← hR]; unfold nearT near; rw [hm, hs]
    rw [hR]
    have HS := Lib.hid hmem
    have HR := Lib.hid hRe
    clear h ho hmem hRe hR
    have hcase : (p ≤ 1000000 ∧ m = p) ∨ (1000000 < p ∧ m = 1000000) := by omega
    clear hm
    rcases hcase with ⟨g, rfl⟩ | ⟨g, rfl⟩
    · have g' : decide (1000000 < m) = false := by simpa using g
      go_enter Tryz.func43, Tryz.ntmps43
      go_wp2_with (go_at_call 59; refine Calls.mono HA.out ?_; rintro e w1 ⟨x, y, rfl, hs, hb⟩; obtain ⟨m1, m2, m3, m4, m5⟩ := HS.out _ hs; have hre := HR.out _ hs; dsimp only at m1 m2 m3 m4 m5 hre; obtain ⟨d1, d2, d3⟩ := dm (m - x) m4; replace hre := Lib.hid hre; replace hb := Lib.hid hb; clear hs d1; obtain ⟨d, hd⟩ : ∃ d, (m - x) % y = d := ⟨_, rfl⟩; rw [hd] at hre)
      go_ret
      exact ⟨ret_i hre.out, hb.out.alloc hb.out.size _⟩
    · have g' : decide (1000000 < p) = true := by simpa using g
      go_enter Tryz.func43, Tryz.ntmps43
      go_wp2_with (go_at_call 59; refine Calls.mono HA.out ?_; rintro e w1 ⟨x, y, rfl, hs, hb⟩; obtain ⟨m1, m2, m3, m4, m5⟩ := HS.out _ hs; have hre := HR.out _ hs; dsimp only at m1 m2 m3 m4 m5 hre; obtain ⟨d1, d2, d3⟩ := dm (1000000 - x) m4; replace hre := Lib.hid hre; replace hb := Lib.hid hb; clear hs d1; obtain ⟨d, hd⟩ : ∃ d, (1000000 - x) % y = d := ⟨_, rfl⟩; rw [hd] at hre)
      go_ret
      exact ⟨ret_i hre.out, hb.out.alloc hb.out.size _⟩
set_option maxRecDepth 100000 in
set_option maxHeartbeats 1000000 in
theorem ron_any (A : Option Addr) (n c : Nat) (l : List Stp) (p : Int) (w : World) (h : TabAt w w.heap.size A n l) (ho : chk l = none) :
    Calls Tryz.prog 30 #[.slice A n c, .int .i64 p] w fun e w' => e = .returned (.bool (onT l p)) ∧ Below w.heap.size w w' := by
  have hcase : p < 1 ∨ (1 ≤ p ∧ 1000000 < p) ∨ (1 ≤ p ∧ p ≤ 1000000) := by omega
  rcases hcase with g | ⟨g1, g⟩ | ⟨g1, g2⟩
  · rw [onT_low (okT_chk ho) (.inl g)]
    have g' : decide (1 ≤ p) = false := by simp; omega
    clear h ho
    go_enter Tryz.func30, Tryz.ntmps30
    go_wp2_with fail
    go_ret
    exact ⟨rfl, Below.refl _ _⟩
  · rw [onT_low (okT_chk ho) (.inr g)]
    have g1' : decide (1 ≤ p) = true := by simpa using g1
    have g' : decide (p ≤ 1000000) = false := by simp; omega
    clear h ho
    go_enter Tryz.func30, Tryz.ntmps30
    go_wp2_with fail
    go_ret
    exact ⟨rfl, Below.refl _ _⟩
  · have HA := Lib.hid (rnear_any A n c l p w h ho)
    have e : onT l p = (nearT l p == p) := by
      unfold onT; rw [decide_eq_true (show p ≠ 0 by omega)]; rfl
    rw [e]
    have g1' : decide (1 ≤ p) = true := by simpa using g1
    have g2' : decide (p ≤ 1000000) = true := by simpa using g2
    clear h ho e
    generalize nearT l p = q at *
    go_enter Tryz.func30, Tryz.ntmps30
    go_wp2_with (go_at_call 43; refine HA.out.mono ?_; rintro e w1 ⟨rfl, hb⟩; replace hb := Lib.hid hb)
    go_ret
    exact ⟨rfl, hb.out⟩
end Go.Proofs.YtkcgklaoefbglaaGreatDoor
