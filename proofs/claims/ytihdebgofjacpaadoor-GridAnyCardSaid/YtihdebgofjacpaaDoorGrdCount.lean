/- upTo, Count: of tables that may be. -/
import Derived.Test.YtihdebgofjacpaaDoorGrdNear
set_option linter.unusedSimpArgs false
namespace Go.Proofs.YtihdebgofjacpaaDoor
open Go.RowKit Go.Mem1 Go.GridMath

/-- The cells of a Step told. -/
def stpO : Option Stp → Stp
  | none => (0, 0)
  | some s => s
theorem atV_eq (o : Option Stp) : atV o = .tuple #[.agg #[.int .i64 (stpO o).1, .int .i64 (stpO o).2], .bool o.isSome] := by cases o <;> rfl
def AtIs (l : List Stp) (p f y : Int) (ok : Bool) : Prop := f = (stpO (atI l p)).1 ∧ y = (stpO (atI l p)).2 ∧ ok = (atI l p).isSome
/-- Between two rounds. -/
def UpSt (l : List Stp) (w : World) (R : Int) (wr : World) (p q : Int) (b : Nat) (o : Option Stp) : Prop :=
  (o = atI l p ∧ p ≤ 1000000) ∧ q + upTo l.reverse p = R ∧ 0 ≤ q ∧ w.heap.size ≤ b ∧ Box wr b 46 #[.int .i64 (stpO o).1, .int .i64 (stpO o).2] ∧ Below w.heap.size w wr
theorem UpSt.next {l : List Stp} {w wr : World} {R p q : Int} {b : Nat} {s : Stp} (hv : VR l.reverse) (h : UpSt l w R wr p q b (some s)) : (q + ((p - s.1) / s.2 + 1)) + upTo l.reverse (s.1 - 1) = R := by
  obtain ⟨⟨h1, h0⟩, h2, h3, _⟩ := h
  have e : lastAt l.reverse p = some s := by unfold atI at h1; rw [if_neg (by omega)] at h1; exact h1.symm
  rw [upTo_step hv e] at h2
  omega
theorem UpSt.last {l : List Stp} {w wr : World} {R p q : Int} {b : Nat} (h : UpSt l w R wr p q b none) : q = R := by
  obtain ⟨⟨h1, h0⟩, h2, h3, _⟩ := h
  have e : lastAt l.reverse p = none := by unfold atI at h1; rw [if_neg (by omega)] at h1; exact h1.symm
  rw [upTo_none e] at h2
  omega
set_option maxRecDepth 100000 in
set_option maxHeartbeats 1000000 in
theorem upTo_walk (A : Option Addr) (n c : Nat) (l : List Stp) (p m : Int) (w : World) (hm : m = p ∧ p ≤ 1000000 ∨ m = 1000000 ∧ 1000000 < p) (h : TabAt w w.heap.size A n l) (ho : chk l = none) :
    Calls Tryd.prog 28 #[.slice A n c, .int .i64 p] w fun e w' => e = .returned (.int .i64 (upTo l.reverse m)) ∧ Below w.heap.size w w' := by
  have HA := Lib.hid (fun p w' (hb : Below w.heap.size w w') => (at_any A n c l p w' ((h.carry hb).wider hb.size) ho).mono (R' := fun e w2 => ∃ f y ok, e = .returned (.tuple #[.agg #[.int .i64 f, .int .i64 y], .bool ok]) ∧ Hid (AtIs l p f y ok) ∧ Hid (Below w'.heap.size w' w2)) (fun e w2 ⟨he, hb2⟩ => ⟨_, _, _, by rw [he, atV_eq], ⟨rfl, rfl, rfl⟩, hb2⟩))
  have HS := Lib.hid (fun p s (hs : atI l p = some s) => atI_some ho hs)
  have hv := (okT_chk ho).1
  have HV := Lib.hid hv
  clear h ho
  obtain ⟨R, hR⟩ : ∃ R, upTo l.reverse m = R := ⟨_, rfl⟩
  have hR2 : R ≤ 1000000 := by
    rw [← hR]
    by_cases h0 : 0 ≤ m
    · have := (upTo_bound (p := m) hv).2 h0; omega
    · rw [upTo_low hv (by omega)]; omega
  rw [hR]
  have HR := Lib.hid hR
  have HR2 := Lib.hid hR2
  clear hR hR2 hv
  rcases hm with ⟨rfl, hp⟩ | ⟨rfl, hp⟩
  all_goals
    go_enter Tryd.func28, Tryd.ntmps28
    go_wp2_with (go_at_call 25; refine (HA.out _ _ (Below.refl _ _)).mono ?_; rintro e w1 ⟨f1, y1, ok1, rfl, hat, hb⟩)
    go_loopw [1, 5, 6, 7] (fun v1 v5 v6 v7 wr => ∃ (p q : Int) (b : Nat) (o : Option Stp) (ok : Bool), v1 = .int .i64 p ∧ v5 = .int .i64 q ∧ v6 = .pointer (some ⟨b, 0, none⟩) ∧ v7 = .bool ok ∧ Hid (ok = o.isSome ∧ UpSt l w R wr p q b o)) (fun v1 _ _ _ _ => (intOf v1).toNat)
    case atStart =>
      obtain ⟨rfl, rfl, rfl⟩ := hat.out
      exact ⟨_, _, _, _, _, rfl, rfl, rfl, rfl, Lib.hid ⟨rfl, ⟨rfl, by omega⟩, by rw [Int.zero_add]; exact HR.out, Int.le_refl _, hb.out.size, Box.fresh _ _ _ rfl, hb.out.alloc hb.out.size _⟩⟩
    case round =>
      clear hat hb
      obtain ⟨p', q, b, o, ok, rfl, rfl, rfl, rfl, hS⟩ := hrel
      cases ok with
      | false =>
        cases o with
        | some s => have := hS.out.1; cases this
        | none =>
          go_wp2_with fail
          go_ret
          exact ⟨ret_i hS.out.2.last.symm, hS.out.2.2.2.2.2.2⟩
      | true =>
        cases o with
        | none => have := hS.out.1; cases this
        | some s =>
          have hbx := hS.out.2.2.2.2.2.1
          have hbl := hbx.there
          have x0 : wr.cell? ⟨b, 0, none⟩ = some (.int .i64 s.1) := (hbx.reads 0).trans rfl
          have x1 : wr.cell? ⟨b, 1, none⟩ = some (.int .i64 s.2) := (hbx.reads 1).trans rfl
          obtain ⟨h1, h2, h3, h4, h5⟩ := HS.out p' s hS.out.2.1.1.symm
          have hnx := hS.out.2.next HV.out
          have hq0 := hS.out.2.2.2.1
          have hub := (upTo_bound (p := s.1 - 1) HV.out).1
          have hd := Int.ediv_nonneg (show 0 ≤ p' - s.1 by omega) (show 0 ≤ s.2 by omega)
          have hR2 := HR2.out
          have HNX := Lib.hid hnx
          have hBw := Lib.hid hS.out.2.2.2.2.2.2
          obtain ⟨f, y⟩ := s
          dsimp only at x0 x1 h1 h2 h4 h5 hnx hub hd HNX
          obtain ⟨d, hd'⟩ : ∃ d, (p' - f) / y = d := ⟨_, rfl⟩
          rw [hd'] at hd hnx HNX
          have hq1 : q + (d + 1) ≤ 1000000 := by omega
          clear hnx hub hbx hS
          go_wp2_with (go_at_call 25; refine (HA.out _ _ (hBw.out.alloc hBw.out.size _)).mono ?_; rintro e w2 ⟨f2, y2, ok2, rfl, hat, hb2⟩; have hbx2 := (Box.fresh wr 46 #[.int .i64 f, .int .i64 y] rfl).kept_below hb2.out (by simp); have z0 := (hbx2.reads 0).trans rfl; have z1 := (hbx2.reads 1).trans rfl; have u0 := hbx2.unmarked 0; have u1 := hbx2.unmarked 1; replace hbx2 := Lib.hid hbx2)
          go_roundw
          case rel =>
            obtain ⟨rfl, rfl, rfl⟩ := hat.out
            have B2 := (hBw.out.alloc hBw.out.size (.cells #[.int .i64 f, .int .i64 y] 46)).trans (hb2.out.mono (by simp; have := hBw.out.size; omega))
            exact ⟨_, _, _, _, _, rfl, rfl, rfl, rfl, Lib.hid ⟨rfl, ⟨rfl, by omega⟩, HNX.out, by omega, hBw.out.size, (hbx2.out.wrote 0 _).wrote 1 _, (B2.setCell (p := ⟨wr.heap.size, 0, none⟩) hBw.out.size _).setCell (p := ⟨wr.heap.size, 1, none⟩) hBw.out.size _⟩⟩
          case measure => simp [intOf]; omega
theorem upTo_any (A : Option Addr) (n c : Nat) (l : List Stp) (p : Int) (w : World) (h : TabAt w w.heap.size A n l) (ho : chk l = none) :
    Calls Tryd.prog 28 #[.slice A n c, .int .i64 p] w fun e w' => e = .returned (.int .i64 (upToT l p)) ∧ Below w.heap.size w w' :=
  upTo_walk A n c l p (min p 1000000) w (by omega) h ho
theorem upToT_bound {l : List Stp} (ho : chk l = none) (p : Int) : 0 ≤ upToT l p ∧ upToT l p ≤ 1000000 := by
  unfold upToT
  obtain ⟨h1, h2⟩ := upTo_bound (p := min p 1000000) (okT_chk ho).1
  refine ⟨h1, ?_⟩
  by_cases h0 : 0 ≤ min p 1000000
  · have := h2 h0; omega
  · rw [upTo_low (okT_chk ho).1 (by omega)]; omega
set_option maxRecDepth 100000 in
set_option maxHeartbeats 1000000 in
theorem count_any (A : Option Addr) (n c : Nat) (l : List Stp) (lo hi : Int) (w : World) (h : TabAt w w.heap.size A n l) (ho : chk l = none) (hhi : hi ≤ 9223372036854775807) :
    Calls Tryd.prog 17 #[.slice A n c, .int .i64 lo, .int .i64 hi] w fun e w' => e = .returned (.int .i64 (countT l lo hi)) ∧ Below w.heap.size w w' := by
  have HA := Lib.hid (fun p w' (hb : Below w.heap.size w w') => upTo_any A n c l p w' ((h.carry hb).wider hb.size) ho)
  have b1 := upToT_bound ho hi
  have b2 := upToT_bound ho (max lo 1 - 1)
  unfold countT
  clear h ho
  obtain ⟨X, hX⟩ : ∃ X, upToT l hi = X := ⟨_, rfl⟩
  obtain ⟨Y, hY⟩ : ∃ Y, upToT l (max lo 1 - 1) = Y := ⟨_, rfl⟩
  rw [hX, hY]
  rw [hX] at b1
  rw [hY] at b2
  by_cases hlt : hi < lo
  · rw [if_pos hlt]
    clear b1 b2 hX hY
    have hlt' : decide (hi < lo) = true := by simpa using hlt
    go_enter Tryd.func17, Tryd.ntmps17
    go_wp2_with fail
    go_ret
    exact ⟨rfl, Below.refl _ _⟩
  · rw [if_neg hlt]
    have hlt' : decide (hi < lo) = false := by simpa using hlt
    have H1 := Lib.hid (fun w' (hb : Below w.heap.size w w') => (HA.out hi w' hb).mono (R' := fun e w2 => e = .returned (.int .i64 X) ∧ Hid (Below w'.heap.size w' w2)) (fun e w2 ⟨he, hb2⟩ => ⟨by rw [he, hX], hb2⟩))
    by_cases hl : 1 ≤ lo
    · rw [show max lo 1 - 1 = lo - 1 by omega] at hY
      have H2 := Lib.hid (fun w' (hb : Below w.heap.size w w') => (HA.out (lo - 1) w' hb).mono (R' := fun e w2 => e = .returned (.int .i64 Y) ∧ Hid (Below w'.heap.size w' w2)) (fun e w2 ⟨he, hb2⟩ => ⟨by rw [he, hY], hb2⟩))
      clear HA hX hY
      go_enter Tryd.func17, Tryd.ntmps17
      go_wp2_with ((first
        | (go_at_call 28; refine (H1.out _ (Below.refl _ _)).mono ?_; clear H1; rintro e w1 ⟨rfl, hb⟩)
        | (go_at_call 28; refine (H2.out _ hb.out).mono ?_; clear H2; rintro e w2 ⟨rfl, hb2⟩)))
      go_ret
      exact ⟨rfl, bel_trans hb.out hb2.out⟩
    · rw [show max lo 1 - 1 = 0 by omega] at hY
      have H2 := Lib.hid (fun w' (hb : Below w.heap.size w w') => (HA.out 0 w' hb).mono (R' := fun e w2 => e = .returned (.int .i64 Y) ∧ Hid (Below w'.heap.size w' w2)) (fun e w2 ⟨he, hb2⟩ => ⟨by rw [he, hY], hb2⟩))
      clear HA hX hY
      go_enter Tryd.func17, Tryd.ntmps17
      go_wp2_with ((first
        | (go_at_call 28; refine (H1.out _ (Below.refl _ _)).mono ?_; clear H1; rintro e w1 ⟨rfl, hb⟩)
        | (go_at_call 28; refine (H2.out _ hb.out).mono ?_; clear H2; rintro e w2 ⟨rfl, hb2⟩)))
      go_ret
      exact ⟨rfl, bel_trans hb.out hb2.out⟩
end Go.Proofs.YtihdebgofjacpaaDoor
