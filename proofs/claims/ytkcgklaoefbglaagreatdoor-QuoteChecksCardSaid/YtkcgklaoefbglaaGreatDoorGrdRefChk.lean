/- The reference's Check. -/
import Derived.Test.YtkcgklaoefbglaaGreatDoorGrdCheck
set_option linter.unusedSimpArgs false
namespace Go.Proofs.YtkcgklaoefbglaaGreatDoor
open Go.RowKit Go.Mem1 Go.GridMath

/-- The reference's error of one part 'step'. -/
def Part1 (w : World) (k : Int) (A : Option Addr) (n : Nat) : Prop := n = 1 ∧ ∃ b, A = some ⟨b, 0, none⟩ ∧ b < w.heap.size ∧ w.cell? ⟨b, 0, none⟩ = some (.string stepBytes) ∧ w.cell? ⟨b, 1, none⟩ = some (.int .i64 k)
theorem Part1.carry {w w' : World} {k : Int} {A : Option Addr} {n : Nat} (h : Part1 w k A n) (hb : Below w.heap.size w w') : Part1 w' k A n := by
  obtain ⟨h1, b, h2, h3, h4, h5⟩ := h
  exact ⟨h1, b, h2, Nat.lt_of_lt_of_le h3 hb.size, (hb.cell (p := ⟨b, 0, none⟩) h3).trans h4, (hb.cell (p := ⟨b, 1, none⟩) h3).trans h5⟩
def RAt (w : World) (k x : Int) (e : Ending) (w' : World) : Prop := ∃ A n c, e = .returned (.agg #[.slice A n c, .int .i64 x]) ∧ Part1 w' k A n ∧ (∀ b, A = some ⟨b, 0, none⟩ → w.heap.size ≤ b) ∧ Below w.heap.size w w'
set_option maxHeartbeats 1000000 in
theorem rat_any (k x : Int) (w : World) : Calls Tryz.prog 8 #[.string stepBytes, .int .i64 k, .int .i64 x] w (RAt w k x) := by
  go_enter Tryz.func8, Tryz.ntmps8
  go_wp2_with fail
  refine bodyPost_ret (v := .agg #[.slice (some ⟨w.heap.size + 1, 0, none⟩) 1 1, .int .i64 x]) (by simp [results, Tryz.results8, go_sem]) rfl ⟨_, 1, 1, rfl, ⟨rfl, _, rfl, by simp, by simp, by simp⟩, fun b e => by injection e with e; injection e with e; omega, bel_alloc (bel_new w _) _⟩
/-- What the reference's Check answers. -/
def RChk (l : List Stp) (w : World) (e : Ending) (w' : World) : Prop :=
  Below w.heap.size w w' ∧ match chk l with
    | none => e = .returned (.agg #[.slice none 0 0, .int .i64 0])
    | some (k, x) => ∃ A n c, e = .returned (.agg #[.slice A n c, .int .i64 x]) ∧ Part1 w' k A n
theorem RChk.bad {l : List Stp} {w w' : World} {k : Nat} {x : Int} {A : Option Addr} {n c : Nat} (h : chk l = some (k, x)) (hb : Below w.heap.size w w') (hv : Part1 w' k A n) : RChk l w (.returned (.agg #[.slice A n c, .int .i64 x])) w' := by
  unfold RChk; rw [h]; exact ⟨hb, _, _, _, rfl, hv⟩
theorem RChk.good {l : List Stp} {w w' : World} (h : chk l = none) (hb : Below w.heap.size w w') : RChk l w (.returned (.agg #[.slice none 0 0, .int .i64 0])) w' := by
  unfold RChk; rw [h]; exact ⟨hb, rfl⟩
/-- The result's box, an answer put into it. -/
theorem rchk_fin {w w1 : World} {l : List Stp} {k : Nat} {x : Int} {A : Option Addr} {n c : Nat} (h : chk l = some (k, x)) (hb : Below w.heap.size w w1) (hv : Part1 w1 k A n) (hbx : ∀ b, A = some ⟨b, 0, none⟩ → b ≠ w.heap.size) (v0 v1 : Value) :
    RChk l w (.returned (.agg #[.slice A n c, .int .i64 x])) ((w1.setCell ⟨w.heap.size, 0, none⟩ v0).setCell ⟨w.heap.size, 1, none⟩ v1) := by
  refine RChk.bad h ((hb.setCell (p := ⟨w.heap.size, 0, none⟩) (Nat.le_refl _) _).setCell (p := ⟨w.heap.size, 1, none⟩) (Nat.le_refl _) _) ?_
  obtain ⟨h1, b, h2, h3, h4, h5⟩ := hv
  have hne := hbx b h2
  have e : ∀ i, ((w1.setCell ⟨w.heap.size, 0, none⟩ v0).setCell ⟨w.heap.size, 1, none⟩ v1).cell? ⟨b, i, none⟩ = w1.cell? ⟨b, i, none⟩ := fun i =>
    World.cell?_of_block (w := w1) ((Below.heap_setCell _ ⟨w.heap.size, 1, none⟩ _ b hne).trans (Below.heap_setCell _ ⟨w.heap.size, 0, none⟩ _ b hne))
  exact ⟨h1, b, h2, by simp [World.setCell]; exact h3, by rw [e]; exact h4, by rw [e]; exact h5⟩
theorem rchk_end {W : World} {R : Ending → World → Prop} {tmps : Array Value} {q : Nat} {u v : Value} (t2 : tmps[2]? = some (.pointer (some ⟨q, 0, none⟩))) (hq : Box W q 29 #[u, v]) (hR : R (.returned (.agg #[u, v])) W) :
    bodyPost Tryz.prog Tryz.f5 R .ret { tmps := tmps, defers := [] } W := by
  have c0 := (hq.reads 0).trans rfl
  have c1 := (hq.reads 1).trans rfl
  exact bodyPost_ret (v := .agg #[u, v]) (by simp [results, Tryz.results5, go_sem, t2, c0, c1]) rfl hR
/-- Behind a call of At: what the walk wants to know; how it ends. -/
def RB (l : List Stp) (w w1 : World) (x : Int) (A1 : Option Addr) (n1 c1 : Nat) : Prop :=
  ∀ v0 v1, v0 = .slice A1 n1 c1 → v1 = .int .i64 x → Box ((w1.setCell ⟨w.heap.size, 0, none⟩ v0).setCell ⟨w.heap.size, 1, none⟩ v1) w.heap.size 29 #[v0, v1] ∧ RChk l w (.returned (.agg #[v0, v1])) ((w1.setCell ⟨w.heap.size, 0, none⟩ v0).setCell ⟨w.heap.size, 1, none⟩ v1)
theorem rb_of {l : List Stp} {w wr w1 : World} {k : Nat} {x : Int} {A1 : Option Addr} {n1 c1 : Nat} (h : chk l = some (k, x)) (hbx : Box wr w.heap.size 29 #[.slice none 0 0, .int .i64 0]) (hb : Below w.heap.size w wr) (hlt : w.heap.size < wr.heap.size)
    (hv : Part1 w1 k A1 n1) (hA : ∀ b, A1 = some ⟨b, 0, none⟩ → wr.heap.size ≤ b) (hb1 : Below wr.heap.size wr w1) :
    (w1.cell? ⟨w.heap.size, 0, none⟩ = some (.slice none 0 0) ∧ w1.cell? ⟨w.heap.size, 1, none⟩ = some (.int .i64 0) ∧ w1.frozen? ⟨w.heap.size, 0, none⟩ = false ∧ w1.frozen? ⟨w.heap.size, 1, none⟩ = false) ∧ RB l w w1 x A1 n1 c1 := by
  have hx1 := hbx.kept_below hb1 hlt
  refine ⟨⟨(hx1.reads 0).trans rfl, (hx1.reads 1).trans rfl, hx1.unmarked 0, hx1.unmarked 1⟩, ?_⟩
  rintro v0 v1 rfl rfl
  exact ⟨(hx1.wrote 0 _).wrote 1 _, rchk_fin h (hb.trans (hb1.mono hb.size)) hv (fun b e => by have := hA b e; omega) _ _⟩
set_option maxRecDepth 100000 in
set_option maxHeartbeats 2000000 in
theorem rchk_size (A : Option Addr) (n c : Nat) (l : List Stp) (w : World) (hl : l.length = n) (hn : n = 0 ∨ 8 < n) :
    Calls Tryz.prog 5 #[.slice A n c] w (RChk l w) := by
  rcases hn with rfl | h8
  · have hc : chk l = some (0, 1) := by unfold chk; rw [if_pos hl]
    have HC := Lib.hid hc
    clear hl hc
    go_enter Tryz.func5, Tryz.ntmps5
    go_wp2_with (go_at_call 8; refine (rat_any _ _ _).mono ?_; rintro e w1 ⟨A1, n1, c1, rfl, hv, hA, hb⟩; obtain ⟨⟨z0, z1, u0, u1⟩, hrb⟩ := rb_of (c1 := c1) HC.out (Box.fresh w _ _ rfl) (bel_new _ _) (by simp) hv hA hb; have HRB := Lib.hid hrb; clear hrb hv hA hb)
    obtain ⟨hbx, hfin⟩ := HRB.out _ _ rfl rfl
    exact rchk_end rfl hbx hfin
  · have hc : chk l = some (8, 1) := by unfold chk; rw [if_neg (by omega), if_pos (by omega)]
    have HC := Lib.hid hc
    have t0 : ((n : Int) == 0) = false := by simp; omega
    have t1 : decide ((8 : Int) < (n : Int)) = true := by simp; omega
    clear hl hc
    go_enter Tryz.func5, Tryz.ntmps5
    go_wp2_with (go_at_call 8; refine (rat_any _ _ _).mono ?_; rintro e w1 ⟨A1, n1, c1, rfl, hv, hA, hb⟩; obtain ⟨⟨z0, z1, u0, u1⟩, hrb⟩ := rb_of (c1 := c1) HC.out (Box.fresh w _ _ rfl) (bel_new _ _) (by simp) hv hA hb; have HRB := Lib.hid hrb; clear hrb hv hA hb)
    obtain ⟨hbx, hfin⟩ := HRB.out _ _ rfl rfl
    exact rchk_end rfl hbx hfin
/-- Between two rounds: the result's box. -/
def RSt (w wr : World) : Prop := Box wr w.heap.size 29 #[.slice none 0 0, .int .i64 0] ∧ Below w.heap.size w wr ∧ w.heap.size < wr.heap.size
theorem RSt.drewN {w wr : World} (h : RSt w wr) (n : Nat) : RSt w (wr.drewN n) := ⟨h.1, bel_drawn h.2.1 n, h.2.2⟩
theorem drewN_size (w : World) (n : Nat) : (w.drewN n).heap.size = w.heap.size := rfl
set_option maxRecDepth 100000 in
set_option maxHeartbeats 8000000 in
theorem rchk_loop (A : Option Addr) (n c : Nat) (l : List Stp) (w : World) (h : TabAt w w.heap.size A n l) (h0 : 0 < n) (h8 : n ≤ 8) :
    Calls Tryz.prog 5 #[.slice A n c] w (RChk l w) := by
  have hl := h.len
  have H := Lib.hid h
  have HL := Lib.hid hl
  clear h hl
  have t0 : ((n : Int) == 0) = false := by simp; omega
  have t1 : decide ((8 : Int) < (n : Int)) = false := by simp; omega
  have i1 : (0 : Int) < (n : Int) := by omega
  go_enter Tryz.func5, Tryz.ntmps5
  go_wp2_with fail
  go_loopw [3] (fun v3 wr => ∃ k : Nat, k ≤ n ∧ v3 = .int .i64 k ∧ Hid ((∀ j < k, wrongAt l j = 0) ∧ RSt w wr)) (fun v3 _ => n - (intOf v3).toNat)
  case atStart => exact ⟨0, by omega, rfl, Lib.hid ⟨fun j hj => absurd hj (Nat.not_lt_zero _), Box.fresh w _ _ rfl, bel_new _ _, by simp⟩⟩
  case round =>
    obtain ⟨k, hk, rfl, hS⟩ := hrel
    by_cases hlt : k < n
    · obtain ⟨b, off, s, rfl, hbl, hx, y0, y1⟩ := (H.out.carry hS.out.2.2.1).get hlt
      cases k with
      | zero =>
        have e0 : wrongAt l 0 = wrong0 s := by rw [wrongAt, hx]; rfl
        obtain ⟨f, y⟩ := s
        simp only [Nat.zero_mul, Nat.add_zero] at y0 y1
        clear hx
        have E0 := Lib.hid e0
        clear e0
        have hcase : (wrong0 (f, y) = 1 ∧ ((f ≠ 1) ∨ (f = 1 ∧ y < 1) ∨ (f = 1 ∧ 1 ≤ y ∧ 10000 < y))) ∨ (wrong0 (f, y) = 0 ∧ f = 1 ∧ 1 ≤ y ∧ y ≤ 10000) := by
          unfold wrong0; dsimp only
          split <;> omega
        rcases hcase with ⟨hw, hcase⟩ | ⟨hw, rfl, g1, g2⟩
        · have HC := Lib.hid (chk_some (k := 0) (by rw [HL.out]; exact h8) (by rw [HL.out]; exact hlt) hS.out.1 (by rw [E0.out, hw]; omega))
          rw [E0.out, hw] at HC
          clear hw
          rcases hcase with g1 | ⟨rfl, g1⟩ | ⟨rfl, g2, g1⟩
          · have g1' : (f != 1) = true := by simpa using g1
            go_wp2_with fail
            go_quiet (fail)
            generalize hW : World.drewN wr _ = W1
            have HST : Hid (RSt w W1) := by rw [← hW]; exact hS.out.2.drewN _
            clear hW
            go_wp2_with (go_at_call 8; refine (rat_any _ _ _).mono ?_; rintro e w1 ⟨A1, n1, c1, rfl, hv, hA, hb⟩; obtain ⟨⟨z0, z1, u0, u1⟩, hrb⟩ := rb_of (c1 := c1) HC.out HST.out.1 HST.out.2.1 HST.out.2.2 hv hA hb; have HRB := Lib.hid hrb; clear hrb hv hA hb)
            obtain ⟨hbx, hfin⟩ := HRB.out _ _ rfl rfl
            exact rchk_end rfl hbx hfin
          · have g1' : decide (y < 1) = true := by simpa using g1
            go_wp2_with fail
            go_quiet (fail)
            generalize hW : World.drewN wr _ = W1
            have HST : Hid (RSt w W1) := by rw [← hW]; exact hS.out.2.drewN _
            clear hW
            go_wp2_with (go_at_call 8; refine (rat_any _ _ _).mono ?_; rintro e w1 ⟨A1, n1, c1, rfl, hv, hA, hb⟩; obtain ⟨⟨z0, z1, u0, u1⟩, hrb⟩ := rb_of (c1 := c1) HC.out HST.out.1 HST.out.2.1 HST.out.2.2 hv hA hb; have HRB := Lib.hid hrb; clear hrb hv hA hb)
            obtain ⟨hbx, hfin⟩ := HRB.out _ _ rfl rfl
            exact rchk_end rfl hbx hfin
          · have g1' : decide (10000 < y) = true := by simpa using g1
            have g2' : decide (y < 1) = false := by simpa using g2
            go_wp2_with fail
            go_quiet (fail)
            generalize hW : World.drewN wr _ = W1
            have HST : Hid (RSt w W1) := by rw [← hW]; exact hS.out.2.drewN _
            clear hW
            go_wp2_with (go_at_call 8; refine (rat_any _ _ _).mono ?_; rintro e w1 ⟨A1, n1, c1, rfl, hv, hA, hb⟩; obtain ⟨⟨z0, z1, u0, u1⟩, hrb⟩ := rb_of (c1 := c1) HC.out HST.out.1 HST.out.2.1 HST.out.2.2 hv hA hb; have HRB := Lib.hid hrb; clear hrb hv hA hb)
            obtain ⟨hbx, hfin⟩ := HRB.out _ _ rfl rfl
            exact rchk_end rfl hbx hfin
        · have hq : Hid (∀ j < 0 + 1, wrongAt l j = 0) := fun j hj => by
            obtain rfl : j = 0 := by omega
            rw [E0.out, hw]
          clear hw
          have t2 : decide ((0 : Int) < 0) = false := rfl
          have g1' : decide (y < 1) = false := by simpa using g1
          have g2' : decide (10000 < y) = false := by simpa using g2
          go_wp2_with fail
          go_quiet (fail)
          go_wp2_with fail
          go_quiet (fail)
          go_wp2_with fail
          go_roundw
          case rel => exact ⟨0 + 1, by omega, by go_num, Lib.hid ⟨hq.out, hS.out.2.drewN _⟩⟩
          case measure => simp [intOf]; omega
      | succ k =>
        obtain ⟨b', off', q, e', _, hx', z0, z1⟩ := (H.out.carry hS.out.2.2.1).get (show k < n by omega)
        injection e' with e'
        injection e' with e1 e2
        subst e1; subst e2
        have e0 : wrongAt l (k + 1) = wrong1 q s := by rw [wrongAt, hx, hx']; rfl
        have hq := fine_at k (fun i hi => hS.out.1 i (by omega))
        rw [hx'] at hq
        obtain ⟨f, y⟩ := s
        obtain ⟨g, z⟩ := q
        dsimp only [Option.getD_some] at y0 y1 z0 z1 hq
        obtain ⟨q1, q2, q3, q4⟩ := hq
        dsimp only at q1 q2 q3 q4
        clear hx hx'
        have E0 := Lib.hid e0
        clear e0
        have a0 : (((k : Int) + 1) == 0) = false := by simp; omega
        have a1 : decide ((0 : Int) < (k : Int) + 1) = true := by simp
        have a2 : (k : Int) < (n : Int) := by omega
        have a3 : (k : Int) + 1 < (n : Int) := by omega
        have a4 : (0 : Int) ≤ (k : Int) := by omega
        have a5 : IntKind.i64.wrap (k : Int) = (k : Int) := iwrap (by omega)
        have a6 : wrap64 (k : Int) = (k : Int) := wrap64_id (by omega)
        have a7 : IntKind.i64.wrap ((k : Int) + 1 - 1) = (k : Int) := by rw [show (k : Int) + 1 - 1 = (k : Int) by omega]; exact a5
        have hcase : (wrong1 (g, z) (f, y) = 1 ∧ ((f ≤ g) ∨ (g < f ∧ 1000000 < f) ∨ (g < f ∧ f ≤ 1000000 ∧ y < 1) ∨ (g < f ∧ f ≤ 1000000 ∧ 1 ≤ y ∧ 10000 < y))) ∨
            (g < f ∧ f ≤ 1000000 ∧ 1 ≤ y ∧ y ≤ 10000 ∧ (wrong1 (g, z) (f, y) = 0 ∧ ((f - g) % z != 0) = false ∨ wrong1 (g, z) (f, y) = 2 ∧ ((f - g) % z != 0) = true)) := by
          unfold wrong1; dsimp only
          by_cases hh : f ≤ g ∨ 1000000 < f ∨ y < 1 ∨ 10000 < y
          · rw [if_pos hh]; omega
          · rw [if_neg hh]
            by_cases hz : (f - g) % z = 0
            · rw [if_pos hz]; exact .inr ⟨by omega, by omega, by omega, by omega, .inl ⟨rfl, by simpa using hz⟩⟩
            · rw [if_neg hz]; exact .inr ⟨by omega, by omega, by omega, by omega, .inr ⟨rfl, by simpa using hz⟩⟩
        rcases hcase with ⟨hw, hcase⟩ | ⟨g1, g2, g3, g4, hcase⟩
        · have HC := Lib.hid (chk_some (k := k + 1) (by rw [HL.out]; exact h8) (by rw [HL.out]; exact hlt) hS.out.1 (by rw [E0.out, hw]; omega))
          rw [E0.out, hw] at HC
          clear hw
          rcases hcase with g1 | ⟨g1, g2⟩ | ⟨g1, g2, g3⟩ | ⟨g1, g2, g3, g4⟩
          · have b1 : decide (f ≤ g) = true := by simpa using g1
            go_wp2_with fail
            go_quiet (fail)
            generalize hW : World.drewN wr _ = W1
            have HST : Hid (RSt w W1) := by rw [← hW]; exact hS.out.2.drewN _
            clear hW
            go_wp2_with (go_at_call 8; refine (rat_any _ _ _).mono ?_; rintro e w1 ⟨A1, n1, c1, rfl, hv, hA, hb⟩; obtain ⟨⟨z0, z1, u0, u1⟩, hrb⟩ := rb_of (c1 := c1) HC.out HST.out.1 HST.out.2.1 HST.out.2.2 hv hA hb; have HRB := Lib.hid hrb; clear hrb hv hA hb)
            obtain ⟨hbx, hfin⟩ := HRB.out _ _ rfl rfl
            exact rchk_end rfl hbx hfin
          · have b1 : decide (f ≤ g) = false := by simpa using g1
            have b2 : decide (1000000 < f) = true := by simpa using g2
            go_wp2_with fail
            go_quiet (fail)
            generalize hW : World.drewN wr _ = W1
            have HST : Hid (RSt w W1) := by rw [← hW]; exact hS.out.2.drewN _
            clear hW
            go_wp2_with (go_at_call 8; refine (rat_any _ _ _).mono ?_; rintro e w1 ⟨A1, n1, c1, rfl, hv, hA, hb⟩; obtain ⟨⟨z0, z1, u0, u1⟩, hrb⟩ := rb_of (c1 := c1) HC.out HST.out.1 HST.out.2.1 HST.out.2.2 hv hA hb; have HRB := Lib.hid hrb; clear hrb hv hA hb)
            obtain ⟨hbx, hfin⟩ := HRB.out _ _ rfl rfl
            exact rchk_end rfl hbx hfin
          · have b1 : decide (f ≤ g) = false := by simpa using g1
            have b2 : decide (1000000 < f) = false := by simpa using g2
            have b3 : decide (y < 1) = true := by simpa using g3
            go_wp2_with fail
            go_quiet (fail)
            generalize hW : World.drewN wr _ = W1
            have HST : Hid (RSt w W1) := by rw [← hW]; exact hS.out.2.drewN _
            clear hW
            go_wp2_with (go_at_call 8; refine (rat_any _ _ _).mono ?_; rintro e w1 ⟨A1, n1, c1, rfl, hv, hA, hb⟩; obtain ⟨⟨z0, z1, u0, u1⟩, hrb⟩ := rb_of (c1 := c1) HC.out HST.out.1 HST.out.2.1 HST.out.2.2 hv hA hb; have HRB := Lib.hid hrb; clear hrb hv hA hb)
            obtain ⟨hbx, hfin⟩ := HRB.out _ _ rfl rfl
            exact rchk_end rfl hbx hfin
          · have b1 : decide (f ≤ g) = false := by simpa using g1
            have b2 : decide (1000000 < f) = false := by simpa using g2
            have b3 : decide (y < 1) = false := by simpa using g3
            have b4 : decide (10000 < y) = true := by simpa using g4
            go_wp2_with fail
            go_quiet (fail)
            generalize hW : World.drewN wr _ = W1
            have HST : Hid (RSt w W1) := by rw [← hW]; exact hS.out.2.drewN _
            clear hW
            go_wp2_with (go_at_call 8; refine (rat_any _ _ _).mono ?_; rintro e w1 ⟨A1, n1, c1, rfl, hv, hA, hb⟩; obtain ⟨⟨z0, z1, u0, u1⟩, hrb⟩ := rb_of (c1 := c1) HC.out HST.out.1 HST.out.2.1 HST.out.2.2 hv hA hb; have HRB := Lib.hid hrb; clear hrb hv hA hb)
            obtain ⟨hbx, hfin⟩ := HRB.out _ _ rfl rfl
            exact rchk_end rfl hbx hfin
        · have b1 : decide (f ≤ g) = false := by simpa using g1
          have b2 : decide (1000000 < f) = false := by simpa using g2
          have b3 : decide (y < 1) = false := by simpa using g3
          have b4 : decide (10000 < y) = false := by simpa using g4
          have d1 : IntKind.i64.wrap (f - g) = f - g := iwrap (by omega)
          have d2 : wrap64 (f - g) = f - g := wrap64_id (by omega)
          have d3 : (z == 0) = false := by simp; omega
          rcases hcase with ⟨hw, hz⟩ | ⟨hw, hz⟩
          · have hqq : Hid (∀ j < k + 1 + 1, wrongAt l j = 0) := fun j hj => by
              rcases Nat.lt_or_ge j (k + 1) with h | h
              · exact hS.out.1 j h
              · obtain rfl : j = k + 1 := by omega
                rw [E0.out, hw]
            clear hw
            go_wp2_with fail
            go_quiet (fail)
            go_wp2_with fail
            go_quiet (fail)
            go_wp2_with fail
            go_roundw
            case rel => exact ⟨k + 1 + 1, by omega, by go_num, Lib.hid ⟨hqq.out, hS.out.2.drewN _⟩⟩
            case measure => simp [intOf]; omega
          · have HC := Lib.hid (chk_some (k := k + 1) (by rw [HL.out]; exact h8) (by rw [HL.out]; exact hlt) hS.out.1 (by rw [E0.out, hw]; omega))
            rw [E0.out, hw] at HC
            clear hw
            go_wp2_with fail
            go_quiet (fail)
            go_wp2_with fail
            go_quiet (fail)
            generalize hW : World.drewN (World.drewN wr _) _ = W1
            have HST : Hid (RSt w W1) := by rw [← hW]; exact (hS.out.2.drewN _).drewN _
            clear hW
            go_wp2_with (go_at_call 8; refine (rat_any _ _ _).mono ?_; rintro e w1 ⟨A1, n1, c1, rfl, hv, hA, hb⟩; obtain ⟨⟨z0, z1, u0, u1⟩, hrb⟩ := rb_of (c1 := c1) HC.out HST.out.1 HST.out.2.1 HST.out.2.2 hv hA hb; have HRB := Lib.hid hrb; clear hrb hv hA hb)
            obtain ⟨hbx, hfin⟩ := HRB.out _ _ rfl rfl
            exact rchk_end rfl hbx hfin
    · obtain rfl : k = n := by omega
      have r0 := (hS.out.2.1.reads 0).trans rfl
      have r1 := (hS.out.2.1.reads 1).trans rfl
      have f0 := hS.out.2.1.unmarked 0
      have f1 := hS.out.2.1.unmarked 1
      go_wp2_with fail
      refine rchk_end rfl ((hS.out.2.1.wrote 0 _).wrote 1 _) (RChk.good (chk_none (by rw [HL.out]; exact h8) (by rw [HL.out]; exact h0) (by rw [HL.out]; exact hS.out.1)) ((hS.out.2.2.1.setCell (p := ⟨w.heap.size, 0, none⟩) (Nat.le_refl _) _).setCell (p := ⟨w.heap.size, 1, none⟩) (Nat.le_refl _) _))
theorem rchk_any (A : Option Addr) (n c : Nat) (l : List Stp) (w : World) (h : TabAt w w.heap.size A n l) :
    Calls Tryz.prog 5 #[.slice A n c] w (RChk l w) := by
  by_cases hn : n = 0 ∨ 8 < n
  · exact rchk_size A n c l w h.len hn
  · exact rchk_loop A n c l w h (by omega) (by omega)
end Go.Proofs.YtkcgklaoefbglaaGreatDoor
