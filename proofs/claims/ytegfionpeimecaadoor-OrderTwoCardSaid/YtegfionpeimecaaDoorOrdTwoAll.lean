/- straddlelaw11.OrderTwo returns true. -/
import Derived.Test.YtegfionpeimecaaDoorOrdTwo
set_option linter.unusedSimpArgs false
namespace Go.Proofs.YtegfionpeimecaaDoor
open Go.RowKit Go.Mem1 Go.OrdMath

set_option maxRecDepth 100000 in
set_option maxHeartbeats 2000000 in
theorem two_ok (x y : Ord) (w : World) : Calls Tryd.prog 4 #[ordV x, ordV y] w fun e w' => e = .returned (.bool true) ∧ Below w.heap.size w w' := by
  obtain ⟨i, ow, s, p, q, cu, lf⟩ := x
  obtain ⟨i', ow', s', p', q', cu', lf'⟩ := y
  by_cases h1 : s = s'
  · subst h1
    by_cases hs : s = 1 ∨ s = 2
    · exact two_same _ _ _ _ _ _ _ _ _ _ s cu cu' w hs
    · have t1 : (s != s) = false := by simp
      have t2 : (s != 1) = true := by simp; omega
      have t3 : (s != 2) = true := by simp; omega
      obtain ⟨W1, hW1⟩ : ∃ W1, (w.alloc (.cells #[.int .i64 i, .int .i64 ow, .int .i64 s, .int .i64 p, .int .i64 q, .bool cu, .int .i64 lf] 23)).alloc (.cells #[.int .i64 i', .int .i64 ow', .int .i64 s, .int .i64 p', .int .i64 q', .bool cu', .int .i64 lf'] 23) = W1 := ⟨_, rfl⟩
      have B1 : Below w.heap.size w W1 := by rw [← hW1]; exact (bel_alloc (bel_new _ _) _)
      have xK0 : Box W1 (w.heap.size) 23 #[.int .i64 i, .int .i64 ow, .int .i64 s, .int .i64 p, .int .i64 q, .bool cu, .int .i64 lf] := by rw [← hW1]; exact ((Box.fresh _ _ _ (by simp)).kept_below (bel_new _ _) (by simp <;> omega))
      have xK1 : Box W1 (w.heap.size + 1) 23 #[.int .i64 i', .int .i64 ow', .int .i64 s, .int .i64 p', .int .i64 q', .bool cu', .int .i64 lf'] := by rw [← hW1]; exact (Box.fresh _ _ _ (by simp))
      have Q0 := Lib.hid (fun w' (hb : Below W1.heap.size W1 w') => (((xK0.kept_below hb xK0.there).reads 2).trans rfl : w'.cell? ⟨w.heap.size, 2, none⟩ = some (.int .i64 s)))
      have Q1 := Lib.hid (fun w' (hb : Below W1.heap.size W1 w') => (((xK1.kept_below hb xK1.there).reads 2).trans rfl : w'.cell? ⟨w.heap.size + 1, 2, none⟩ = some (.int .i64 s)))
      have HB := Lib.hid B1
      clear B1 xK0 xK1
      go_enter Tryd.func4, Tryd.ntmps4
      go_wp2_with (go_at_call 7; refine (oknown_ok _).mono ?_; rintro e w2 ⟨rfl, hb⟩; have q0 := Q0.out _ hb; have q1 := Q1.out _ hb; replace hb := Lib.hid hb)
      go_ret
      exact ⟨rfl, HB.out.trans (hb.out.mono HB.out.size)⟩
  · have t1 : (s != s') = true := by simpa using h1
    obtain ⟨W1, hW1⟩ : ∃ W1, (w.alloc (.cells #[.int .i64 i, .int .i64 ow, .int .i64 s, .int .i64 p, .int .i64 q, .bool cu, .int .i64 lf] 23)).alloc (.cells #[.int .i64 i', .int .i64 ow', .int .i64 s', .int .i64 p', .int .i64 q', .bool cu', .int .i64 lf'] 23) = W1 := ⟨_, rfl⟩
    have B1 : Below w.heap.size w W1 := by rw [← hW1]; exact (bel_alloc (bel_new _ _) _)
    have xK0 : Box W1 (w.heap.size) 23 #[.int .i64 i, .int .i64 ow, .int .i64 s, .int .i64 p, .int .i64 q, .bool cu, .int .i64 lf] := by rw [← hW1]; exact ((Box.fresh _ _ _ (by simp)).kept_below (bel_new _ _) (by simp <;> omega))
    have xK1 : Box W1 (w.heap.size + 1) 23 #[.int .i64 i', .int .i64 ow', .int .i64 s', .int .i64 p', .int .i64 q', .bool cu', .int .i64 lf'] := by rw [← hW1]; exact (Box.fresh _ _ _ (by simp))
    have Q0 := Lib.hid (fun w' (hb : Below W1.heap.size W1 w') => (((xK0.kept_below hb xK0.there).reads 2).trans rfl : w'.cell? ⟨w.heap.size, 2, none⟩ = some (.int .i64 s)))
    have Q1 := Lib.hid (fun w' (hb : Below W1.heap.size W1 w') => (((xK1.kept_below hb xK1.there).reads 2).trans rfl : w'.cell? ⟨w.heap.size + 1, 2, none⟩ = some (.int .i64 s')))
    have HB := Lib.hid B1
    clear B1 xK0 xK1
    go_enter Tryd.func4, Tryd.ntmps4
    go_wp2_with (go_at_call 7; refine (oknown_ok _).mono ?_; rintro e w2 ⟨rfl, hb⟩; have q0 := Q0.out _ hb; have q1 := Q1.out _ hb; replace hb := Lib.hid hb)
    go_ret
    exact ⟨rfl, HB.out.trans (hb.out.mono HB.out.size)⟩
end Go.Proofs.YtegfionpeimecaaDoor
