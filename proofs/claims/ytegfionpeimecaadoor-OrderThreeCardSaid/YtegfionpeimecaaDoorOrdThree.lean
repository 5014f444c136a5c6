/- straddlelaw11.OrderThree returns true. -/
import Derived.Test.YtegfionpeimecaaDoorOrdKnown
set_option linter.unusedSimpArgs false
namespace Go.Proofs.YtegfionpeimecaaDoor
open Go.RowKit Go.Mem1 Go.OrdMath

/-- The laws' first half: known, then two sides that are not one, or none. -/
theorem at_drew {W w' : World} (h : Below W.heap.size W w') : Below W.heap.size W w'.drew := h.drew
set_option maxRecDepth 100000 in
set_option maxHeartbeats 4000000 in
theorem three_same (i ow p q lf i' ow' p' q' lf' i2 ow2 p2 q2 lf2 s : Int) (cu cu' cu2 : Bool) (w : World) (hs : s = 1 ∨ s = 2) :
    Calls Tryd.prog 5 #[ordV ⟨i, ow, s, p, q, cu, lf⟩, ordV ⟨i', ow', s, p', q', cu', lf'⟩, ordV ⟨i2, ow2, s, p2, q2, cu2, lf2⟩] w fun e w' => e = .returned (.bool true) ∧ Below w.heap.size w w' := by
  obtain ⟨W1, hW1⟩ : ∃ W1, ((w.alloc (.cells #[.int .i64 i, .int .i64 ow, .int .i64 s, .int .i64 p, .int .i64 q, .bool cu, .int .i64 lf] 23)).alloc (.cells #[.int .i64 i', .int .i64 ow', .int .i64 s, .int .i64 p', .int .i64 q', .bool cu', .int .i64 lf'] 23)).alloc (.cells #[.int .i64 i2, .int .i64 ow2, .int .i64 s, .int .i64 p2, .int .i64 q2, .bool cu2, .int .i64 lf2] 23) = W1 := ⟨_, rfl⟩
  have B1 : Below w.heap.size w W1 := by rw [← hW1]; exact (bel_alloc (bel_alloc (bel_new _ _) _) _)
  have xK0 : Box W1 (w.heap.size) 23 #[.int .i64 i, .int .i64 ow, .int .i64 s, .int .i64 p, .int .i64 q, .bool cu, .int .i64 lf] := by rw [← hW1]; exact (((Box.fresh _ _ _ (by simp)).kept_below (bel_new _ _) (by simp <;> omega)).kept_below (bel_new _ _) (by simp <;> omega))
  have xK1 : Box W1 (w.heap.size + 1) 23 #[.int .i64 i', .int .i64 ow', .int .i64 s, .int .i64 p', .int .i64 q', .bool cu', .int .i64 lf'] := by rw [← hW1]; exact ((Box.fresh _ _ _ (by simp)).kept_below (bel_new _ _) (by simp <;> omega))
  have xK2 : Box W1 (w.heap.size + 1 + 1) 23 #[.int .i64 i2, .int .i64 ow2, .int .i64 s, .int .i64 p2, .int .i64 q2, .bool cu2, .int .i64 lf2] := by rw [← hW1]; exact (Box.fresh _ _ _ (by simp))
  have K0 := Lib.hid (fun w' (hb : Below W1.heap.size W1 w') => (⟨((xK0.kept_below hb xK0.there).reads 0).trans rfl, ((xK0.kept_below hb xK0.there).reads 1).trans rfl, ((xK0.kept_below hb xK0.there).reads 2).trans rfl, ((xK0.kept_below hb xK0.there).reads 3).trans rfl, ((xK0.kept_below hb xK0.there).reads 4).trans rfl, ((xK0.kept_below hb xK0.there).reads 5).trans rfl, ((xK0.kept_below hb xK0.there).reads 6).trans rfl⟩ :
    w'.cell? ⟨w.heap.size, 0, none⟩ = some (.int .i64 i) ∧ w'.cell? ⟨w.heap.size, 1, none⟩ = some (.int .i64 ow) ∧ w'.cell? ⟨w.heap.size, 2, none⟩ = some (.int .i64 s) ∧ w'.cell? ⟨w.heap.size, 3, none⟩ = some (.int .i64 p) ∧ w'.cell? ⟨w.heap.size, 4, none⟩ = some (.int .i64 q) ∧ w'.cell? ⟨w.heap.size, 5, none⟩ = some (.bool cu) ∧ w'.cell? ⟨w.heap.size, 6, none⟩ = some (.int .i64 lf)))
  have K1 := Lib.hid (fun w' (hb : Below W1.heap.size W1 w') => (⟨((xK1.kept_below hb xK1.there).reads 0).trans rfl, ((xK1.kept_below hb xK1.there).reads 1).trans rfl, ((xK1.kept_below hb xK1.there).reads 2).trans rfl, ((xK1.kept_below hb xK1.there).reads 3).trans rfl, ((xK1.kept_below hb xK1.there).reads 4).trans rfl, ((xK1.kept_below hb xK1.there).reads 5).trans rfl, ((xK1.kept_below hb xK1.there).reads 6).trans rfl⟩ :
    w'.cell? ⟨w.heap.size + 1, 0, none⟩ = some (.int .i64 i') ∧ w'.cell? ⟨w.heap.size + 1, 1, none⟩ = some (.int .i64 ow') ∧ w'.cell? ⟨w.heap.size + 1, 2, none⟩ = some (.int .i64 s) ∧ w'.cell? ⟨w.heap.size + 1, 3, none⟩ = some (.int .i64 p') ∧ w'.cell? ⟨w.heap.size + 1, 4, none⟩ = some (.int .i64 q') ∧ w'.cell? ⟨w.heap.size + 1, 5, none⟩ = some (.bool cu') ∧ w'.cell? ⟨w.heap.size + 1, 6, none⟩ = some (.int .i64 lf')))
  have K2 := Lib.hid (fun w' (hb : Below W1.heap.size W1 w') => (⟨((xK2.kept_below hb xK2.there).reads 0).trans rfl, ((xK2.kept_below hb xK2.there).reads 1).trans rfl, ((xK2.kept_below hb xK2.there).reads 2).trans rfl, ((xK2.kept_below hb xK2.there).reads 3).trans rfl, ((xK2.kept_below hb xK2.there).reads 4).trans rfl, ((xK2.kept_below hb xK2.there).reads 5).trans rfl, ((xK2.kept_below hb xK2.there).reads 6).trans rfl⟩ :
    w'.cell? ⟨w.heap.size + 1 + 1, 0, none⟩ = some (.int .i64 i2) ∧ w'.cell? ⟨w.heap.size + 1 + 1, 1, none⟩ = some (.int .i64 ow2) ∧ w'.cell? ⟨w.heap.size + 1 + 1, 2, none⟩ = some (.int .i64 s) ∧ w'.cell? ⟨w.heap.size + 1 + 1, 3, none⟩ = some (.int .i64 p2) ∧ w'.cell? ⟨w.heap.size + 1 + 1, 4, none⟩ = some (.int .i64 q2) ∧ w'.cell? ⟨w.heap.size + 1 + 1, 5, none⟩ = some (.bool cu2) ∧ w'.cell? ⟨w.heap.size + 1 + 1, 6, none⟩ = some (.int .i64 lf2)))
  have HK := Lib.hid (fun w' (hb : Below W1.heap.size W1 w') => (oknown_ok w').mono (R' := fun e w2 => e = .returned (.bool true) ∧ Hid (Below W1.heap.size W1 w2)) (fun e w2 h2 => ⟨h2.1, bel_trans hb h2.2⟩))
  have H1 := Lib.hid (fun w' (hb : Below W1.heap.size W1 w') => (show Calls Tryd.prog 20 #[.agg #[.int .i64 i, .int .i64 ow, .int .i64 s, .int .i64 p, .int .i64 q, .bool cu, .int .i64 lf], .agg #[.int .i64 i', .int .i64 ow', .int .i64 s, .int .i64 p', .int .i64 q', .bool cu', .int .i64 lf']] w' fun e w2 => e = .returned (.bool (aheadB ⟨i, ow, s, p, q, cu, lf⟩ ⟨i', ow', s, p', q', cu', lf'⟩)) ∧ Hid (Below W1.heap.size W1 w2) from (ahead_any ⟨i, ow, s, p, q, cu, lf⟩ ⟨i', ow', s, p', q', cu', lf'⟩ w').mono (fun e w2 h2 => ⟨h2.1, bel_trans hb h2.2⟩)))
  have H2 := Lib.hid (fun w' (hb : Below W1.heap.size W1 w') => (show Calls Tryd.prog 20 #[.agg #[.int .i64 i', .int .i64 ow', .int .i64 s, .int .i64 p', .int .i64 q', .bool cu', .int .i64 lf'], .agg #[.int .i64 i2, .int .i64 ow2, .int .i64 s, .int .i64 p2, .int .i64 q2, .bool cu2, .int .i64 lf2]] w' fun e w2 => e = .returned (.bool (aheadB ⟨i', ow', s, p', q', cu', lf'⟩ ⟨i2, ow2, s, p2, q2, cu2, lf2⟩)) ∧ Hid (Below W1.heap.size W1 w2) from (ahead_any ⟨i', ow', s, p', q', cu', lf'⟩ ⟨i2, ow2, s, p2, q2, cu2, lf2⟩ w').mono (fun e w2 h2 => ⟨h2.1, bel_trans hb h2.2⟩)))
  have H3 := Lib.hid (fun w' (hb : Below W1.heap.size W1 w') => (show Calls Tryd.prog 20 #[.agg #[.int .i64 i, .int .i64 ow, .int .i64 s, .int .i64 p, .int .i64 q, .bool cu, .int .i64 lf], .agg #[.int .i64 i2, .int .i64 ow2, .int .i64 s, .int .i64 p2, .int .i64 q2, .bool cu2, .int .i64 lf2]] w' fun e w2 => e = .returned (.bool (aheadB ⟨i, ow, s, p, q, cu, lf⟩ ⟨i2, ow2, s, p2, q2, cu2, lf2⟩)) ∧ Hid (Below W1.heap.size W1 w2) from (ahead_any ⟨i, ow, s, p, q, cu, lf⟩ ⟨i2, ow2, s, p2, q2, cu2, lf2⟩ w').mono (fun e w2 h2 => ⟨h2.1, bel_trans hb h2.2⟩)))
  have hM := ahead_three ⟨i, ow, s, p, q, cu, lf⟩ ⟨i', ow', s, p', q', cu', lf'⟩ ⟨i2, ow2, s, p2, q2, cu2, lf2⟩ rfl rfl
  generalize aheadB ⟨i, ow, s, p, q, cu, lf⟩ ⟨i', ow', s, p', q', cu', lf'⟩ = X at *
  generalize aheadB ⟨i', ow', s, p', q', cu', lf'⟩ ⟨i2, ow2, s, p2, q2, cu2, lf2⟩ = Y at *
  generalize aheadB ⟨i, ow, s, p, q, cu, lf⟩ ⟨i2, ow2, s, p2, q2, cu2, lf2⟩ = Z at *
  have t1 : (s != s) = false := by simp
  have hb : Hid (Below W1.heap.size W1 W1) := Below.refl _ _
  have HB := Lib.hid B1
  clear B1
  clear xK0 xK1 xK2
  rcases (show X = false ∨ (X = true ∧ Y = false) ∨ (X = true ∧ Y = true ∧ Z = true) by cases X <;> cases Y <;> simp_all) with rfl | ⟨rfl, rfl⟩ | ⟨rfl, rfl, rfl⟩
  all_goals
    clear hM
    rcases (show (s != 1) = false ∨ ((s != 1) = true ∧ (s != 2) = false) by rcases hs with rfl | rfl <;> simp) with t2 | ⟨t2, t3⟩
    all_goals
      clear hs
      go_enter Tryd.func5, Tryd.ntmps5
      go_wp2_with ((first
        | (go_at_call 7; refine (HK.out _ hb.out).mono ?_; clear HK; rintro e w2 ⟨rfl, hb⟩; obtain ⟨a0, a1, a2, a3, a4, a5, a6⟩ := K0.out _ hb.out; obtain ⟨b0, b1, b2, b3, b4, b5, b6⟩ := K1.out _ hb.out; obtain ⟨c0, c1, c2, c3, c4, c5, c6⟩ := K2.out _ hb.out)
        | (go_at_call 20; refine (H1.out _ hb.out).mono ?_; clear H1; rintro e w3 ⟨rfl, hb⟩; clear a0 a1 a2 a3 a4 a5 a6 b0 b1 b2 b3 b4 b5 b6 c0 c1 c2 c3 c4 c5 c6; obtain ⟨a0, a1, a2, a3, a4, a5, a6⟩ := K0.out _ hb.out; obtain ⟨b0, b1, b2, b3, b4, b5, b6⟩ := K1.out _ hb.out; obtain ⟨c0, c1, c2, c3, c4, c5, c6⟩ := K2.out _ hb.out)
        | (go_at_call 20; refine (H2.out _ hb.out).mono ?_; clear H2; rintro e w3 ⟨rfl, hb⟩; clear a0 a1 a2 a3 a4 a5 a6 b0 b1 b2 b3 b4 b5 b6 c0 c1 c2 c3 c4 c5 c6; obtain ⟨a0, a1, a2, a3, a4, a5, a6⟩ := K0.out _ hb.out; obtain ⟨b0, b1, b2, b3, b4, b5, b6⟩ := K1.out _ hb.out; obtain ⟨c0, c1, c2, c3, c4, c5, c6⟩ := K2.out _ hb.out)
        | (go_at_call 20; refine (H3.out _ hb.out).mono ?_; clear H3; rintro e w3 ⟨rfl, hb⟩; clear a0 a1 a2 a3 a4 a5 a6 b0 b1 b2 b3 b4 b5 b6 c0 c1 c2 c3 c4 c5 c6; obtain ⟨a0, a1, a2, a3, a4, a5, a6⟩ := K0.out _ hb.out; obtain ⟨b0, b1, b2, b3, b4, b5, b6⟩ := K1.out _ hb.out; obtain ⟨c0, c1, c2, c3, c4, c5, c6⟩ := K2.out _ hb.out)))
      go_ret
      exact ⟨rfl, HB.out.trans (hb.out.mono HB.out.size)⟩
set_option maxRecDepth 100000 in
set_option maxHeartbeats 2000000 in
theorem three_ok (x y z : Ord) (w : World) : Calls Tryd.prog 5 #[ordV x, ordV y, ordV z] w fun e w' => e = .returned (.bool true) ∧ Below w.heap.size w w' := by
  obtain ⟨i, ow, s, p, q, cu, lf⟩ := x
  obtain ⟨i', ow', s', p', q', cu', lf'⟩ := y
  obtain ⟨i2, ow2, s2, p2, q2, cu2, lf2⟩ := z
  by_cases h1 : s = s'
  · by_cases h2 : s' = s2
    · subst h1; subst h2
      by_cases hs : s = 1 ∨ s = 2
      · exact three_same _ _ _ _ _ _ _ _ _ _ _ _ _ _ _ s cu cu' cu2 w hs
      · have t1 : (s != s) = false := by simp
        have t2 : (s != 1) = true := by simp; omega
        have t3 : (s != 2) = true := by simp; omega
        obtain ⟨W1, hW1⟩ : ∃ W1, ((w.alloc (.cells #[.int .i64 i, .int .i64 ow, .int .i64 s, .int .i64 p, .int .i64 q, .bool cu, .int .i64 lf] 23)).alloc (.cells #[.int .i64 i', .int .i64 ow', .int .i64 s, .int .i64 p', .int .i64 q', .bool cu', .int .i64 lf'] 23)).alloc (.cells #[.int .i64 i2, .int .i64 ow2, .int .i64 s, .int .i64 p2, .int .i64 q2, .bool cu2, .int .i64 lf2] 23) = W1 := ⟨_, rfl⟩
        have B1 : Below w.heap.size w W1 := by rw [← hW1]; exact bel_alloc (bel_alloc (bel_new _ _) _) _
        have xK0 : Box W1 (w.heap.size) 23 #[.int .i64 i, .int .i64 ow, .int .i64 s, .int .i64 p, .int .i64 q, .bool cu, .int .i64 lf] := by rw [← hW1]; exact (((Box.fresh _ _ _ (by simp)).kept_below (bel_new _ _) (by simp <;> omega)).kept_below (bel_new _ _) (by simp <;> omega))
        have xK1 : Box W1 (w.heap.size + 1) 23 #[.int .i64 i', .int .i64 ow', .int .i64 s, .int .i64 p', .int .i64 q', .bool cu', .int .i64 lf'] := by rw [← hW1]; exact ((Box.fresh _ _ _ (by simp)).kept_below (bel_new _ _) (by simp <;> omega))
        have xK2 : Box W1 (w.heap.size + 1 + 1) 23 #[.int .i64 i2, .int .i64 ow2, .int .i64 s, .int .i64 p2, .int .i64 q2, .bool cu2, .int .i64 lf2] := by rw [← hW1]; exact (Box.fresh _ _ _ (by simp))
        have Q0 := Lib.hid (fun w' (hb : Below W1.heap.size W1 w') => (((xK0.kept_below hb xK0.there).reads 2).trans rfl : w'.cell? ⟨w.heap.size, 2, none⟩ = some (.int .i64 s)))
        have Q1 := Lib.hid (fun w' (hb : Below W1.heap.size W1 w') => (((xK1.kept_below hb xK1.there).reads 2).trans rfl : w'.cell? ⟨w.heap.size + 1, 2, none⟩ = some (.int .i64 s)))
        have Q2 := Lib.hid (fun w' (hb : Below W1.heap.size W1 w') => (((xK2.kept_below hb xK2.there).reads 2).trans rfl : w'.cell? ⟨w.heap.size + 1 + 1, 2, none⟩ = some (.int .i64 s)))
        have HB := Lib.hid B1
        clear B1 xK0 xK1 xK2
        go_enter Tryd.func5, Tryd.ntmps5
        go_wp2_with (go_at_call 7; refine (oknown_ok _).mono ?_; rintro e w2 ⟨rfl, hb⟩; have q0 := Q0.out _ hb; have q1 := Q1.out _ hb; have q2 := Q2.out _ hb; replace hb := Lib.hid hb)
        go_ret
        exact ⟨rfl, HB.out.trans (hb.out.mono HB.out.size)⟩
    · subst h1
      have t1 : (s != s) = false := by simp
      have t4 : (s != s2) = true := by simpa using h2
      obtain ⟨W1, hW1⟩ : ∃ W1, ((w.alloc (.cells #[.int .i64 i, .int .i64 ow, .int .i64 s, .int .i64 p, .int .i64 q, .bool cu, .int .i64 lf] 23)).alloc (.cells #[.int .i64 i', .int .i64 ow', .int .i64 s, .int .i64 p', .int .i64 q', .bool cu', .int .i64 lf'] 23)).alloc (.cells #[.int .i64 i2, .int .i64 ow2, .int .i64 s2, .int .i64 p2, .int .i64 q2, .bool cu2, .int .i64 lf2] 23) = W1 := ⟨_, rfl⟩
      have B1 : Below w.heap.size w W1 := by rw [← hW1]; exact bel_alloc (bel_alloc (bel_new _ _) _) _
      have xK0 : Box W1 (w.heap.size) 23 #[.int .i64 i, .int .i64 ow, .int .i64 s, .int .i64 p, .int .i64 q, .bool cu, .int .i64 lf] := by rw [← hW1]; exact (((Box.fresh _ _ _ (by simp)).kept_below (bel_new _ _) (by simp <;> omega)).kept_below (bel_new _ _) (by simp <;> omega))
      have xK1 : Box W1 (w.heap.size + 1) 23 #[.int .i64 i', .int .i64 ow', .int .i64 s, .int .i64 p', .int .i64 q', .bool cu', .int .i64 lf'] := by rw [← hW1]; exact ((Box.fresh _ _ _ (by simp)).kept_below (bel_new _ _) (by simp <;> omega))
      have xK2 : Box W1 (w.heap.size + 1 + 1) 23 #[.int .i64 i2, .int .i64 ow2, .int .i64 s2, .int .i64 p2, .int .i64 q2, .bool cu2, .int .i64 lf2] := by rw [← hW1]; exact (Box.fresh _ _ _ (by simp))
      have Q0 := Lib.hid (fun w' (hb : Below W1.heap.size W1 w') => (((xK0.kept_below hb xK0.there).reads 2).trans rfl : w'.cell? ⟨w.heap.size, 2, none⟩ = some (.int .i64 s)))
      have Q1 := Lib.hid (fun w' (hb : Below W1.heap.size W1 w') => (((xK1.kept_below hb xK1.there).reads 2).trans rfl : w'.cell? ⟨w.heap.size + 1, 2, none⟩ = some (.int .i64 s)))
      have Q2 := Lib.hid (fun w' (hb : Below W1.heap.size W1 w') => (((xK2.kept_below hb xK2.there).reads 2).trans rfl : w'.cell? ⟨w.heap.size + 1 + 1, 2, none⟩ = some (.int .i64 s2)))
      have HB := Lib.hid B1
      clear B1 xK0 xK1 xK2
      go_enter Tryd.func5, Tryd.ntmps5
      go_wp2_with (go_at_call 7; refine (oknown_ok _).mono ?_; rintro e w2 ⟨rfl, hb⟩; have q0 := Q0.out _ hb; have q1 := Q1.out _ hb; have q2 := Q2.out _ hb; replace hb := Lib.hid hb)
      go_ret
      exact ⟨rfl, HB.out.trans (hb.out.mono HB.out.size)⟩
  · have t1 : (s != s') = true := by simpa using h1
    obtain ⟨W1, hW1⟩ : ∃ W1, ((w.alloc (.cells #[.int .i64 i, .int .i64 ow, .int .i64 s, .int .i64 p, .int .i64 q, .bool cu, .int .i64 lf] 23)).alloc (.cells #[.int .i64 i', .int .i64 ow', .int .i64 s', .int .i64 p', .int .i64 q', .bool cu', .int .i64 lf'] 23)).alloc (.cells #[.int .i64 i2, .int .i64 ow2, .int .i64 s2, .int .i64 p2, .int .i64 q2, .bool cu2, .int .i64 lf2] 23) = W1 := ⟨_, rfl⟩
    have B1 : Below w.heap.size w W1 := by rw [← hW1]; exact bel_alloc (bel_alloc (bel_new _ _) _) _
    have xK0 : Box W1 (w.heap.size) 23 #[.int .i64 i, .int .i64 ow, .int .i64 s, .int .i64 p, .int .i64 q, .bool cu, .int .i64 lf] := by rw [← hW1]; exact (((Box.fresh _ _ _ (by simp)).kept_below (bel_new _ _) (by simp <;> omega)).kept_below (bel_new _ _) (by simp <;> omega))
    have xK1 : Box W1 (w.heap.size + 1) 23 #[.int .i64 i', .int .i64 ow', .int .i64 s', .int .i64 p', .int .i64 q', .bool cu', .int .i64 lf'] := by rw [← hW1]; exact ((Box.fresh _ _ _ (by simp)).kept_below (bel_new _ _) (by simp <;> omega))
    have xK2 : Box W1 (w.heap.size + 1 + 1) 23 #[.int .i64 i2, .int .i64 ow2, .int .i64 s2, .int .i64 p2, .int .i64 q2, .bool cu2, .int .i64 lf2] := by rw [← hW1]; exact (Box.fresh _ _ _ (by simp))
    have Q0 := Lib.hid (fun w' (hb : Below W1.heap.size W1 w') => (((xK0.kept_below hb xK0.there).reads 2).trans rfl : w'.cell? ⟨w.heap.size, 2, none⟩ = some (.int .i64 s)))
    have Q1 := Lib.hid (fun w' (hb : Below W1.heap.size W1 w') => (((xK1.kept_below hb xK1.there).reads 2).trans rfl : w'.cell? ⟨w.heap.size + 1, 2, none⟩ = some (.int .i64 s')))
    have Q2 := Lib.hid (fun w' (hb : Below W1.heap.size W1 w') => (((xK2.kept_below hb xK2.there).reads 2).trans rfl : w'.cell? ⟨w.heap.size + 1 + 1, 2, none⟩ = some (.int .i64 s2)))
    have HB := Lib.hid B1
    clear B1 xK0 xK1 xK2
    go_enter Tryd.func5, Tryd.ntmps5
    go_wp2_with (go_at_call 7; refine (oknown_ok _).mono ?_; rintro e w2 ⟨rfl, hb⟩; have q0 := Q0.out _ hb; have q1 := Q1.out _ hb; have q2 := Q2.out _ hb; replace hb := Lib.hid hb)
    go_ret
    exact ⟨rfl, HB.out.trans (hb.out.mono HB.out.size)⟩
end Go.Proofs.YtegfionpeimecaaDoor
