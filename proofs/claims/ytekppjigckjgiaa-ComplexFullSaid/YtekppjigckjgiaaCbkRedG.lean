/- The reference's Reduce, where an order is used up. -/
import Derived.Test.YtekppjigckjgiaaCbkRed
set_option linter.unusedSimpArgs false
namespace Go.Proofs.Ytekppjigckjgiaa
open Go.RowKit Go.Mem1 Go.CbkMath

section
variable {w : World} {B g : Nat} {v1 v2 : Value} {D : Dk}
set_option maxRecDepth 100000 in
set_option maxHeartbeats 4000000 in
/-- Used up, it is gone. -/
theorem rred_gone (h : RefAt w B g v1 v2 D) (hI : Inv D) {id u : Int} {k : Nat} {o : CO} (hE : get2 D id = some (k, o)) (hu : 1 ≤ u) (hu2 : u = o.un) :
    Calls Try.prog 15 #[.pointer (some ⟨g, 0, none⟩), .int .i64 id, .int .i64 u] w (RRed w B g D id u) := by
  have HG := Lib.hid (fun w' (hb : Below w.heap.size w w') => rget_any (h.carry hb) hI.most id)
  have HM := Lib.hid (fun w' (hb : Below w.heap.size w w') => rrem_ok (h.carry hb) hI hE)
  have hV : getV D id = .tuple #[coV o, .int .i64 k] := by unfold getV; rw [hE]
  rw [hV] at HG
  have hR : redO D id u = (lessC u o, 0) := by unfold redO; rw [hE]; simp only; rw [if_pos ⟨hu, by omega⟩]
  have hR2 : remD D id = redD D id u := by unfold redD remD; rw [hE]; simp only; rw [if_pos ⟨hu, by omega⟩, if_pos hu2]
  have hR3 : remO D id = (o, true) := by unfold remO; rw [hE]
  unfold RRed
  rw [hR]
  unfold RRem at HM
  rw [hR2, hR3] at HM
  have hou := (get2_some hI hE).2.2.1.2.2.2.1
  obtain ⟨oi, oo, os, on, ou⟩ := o
  dsimp only at hu2 hou HM
  subst hu2
  have hgw := h.there
  have HV1 : Hid (∀ j, v1.ownBlock = some j → ¬ j = w.heap.size) := Lib.hid (fun j hj => by have := (h.b.lt j hj).2; omega)
  have HV2 : Hid (∀ j, v2.ownBlock = some j → ¬ j = w.heap.size) := Lib.hid (fun j hj => by have := (h.s.lt j hj).2; omega)
  unfold lessC
  dsimp only
  rw [Int.sub_self]
  unfold coV at HG HM
  clear h hE hV hR hR2 hR3 hI
  have d1 : decide (u < 1) = false := by simp; omega
  have d2 : decide (u < u) = false := by simp
  go_enter Try.func15, Try.ntmps15
  go_wp2_with ((first
    | (go_at_call 20; refine (HG.out _ (bel_new _ _)).mono ?_; rintro e w1 ⟨rfl, hb1⟩; have hZ := (Zero5.carry ⟨Box.fresh w 37 zero5 rfl⟩ hb1); replace hb1 := Lib.hid (bel_trans (bel_new _ _) hb1))
    | (go_at_call 13; refine Hid.out ?_)))
  have hOW := Box.fresh w1 37 #[.int .i64 oi, .int .i64 oo, .int .i64 os, .int .i64 on, .int .i64 0] rfl
  have hZW := hZ.carry (bel_new w1 (.cells #[.int .i64 oi, .int .i64 oo, .int .i64 os, .int .i64 on, .int .i64 0] 37))
  have hXR : w.heap.size < w1.heap.size := hZ.box.there
  refine Lib.hid ?_
  refine (HM.out _ (bel_alloc hb1.out _)).mono ?_
  rintro _ w9 ⟨rfl, ⟨u1, u2, hP9, hU1, hU2⟩, hc9⟩
  have HC9 := Lib.hid ((Chg.of_below (bel_alloc hb1.out _) (fun j => j = g)).then hc9 (fun _ _ h => h))
  have hO9 : OrdAt w9 w1.heap.size 37 ⟨oi, oo, os, on, 0⟩ := Box.kept hOW hc9 (by omega)
  have hZ9 : Zero5 w9 w.heap.size 37 := ⟨hZW.box.kept hc9 (by omega)⟩
  have HU1 : Hid (∀ j, u1.ownBlock = some j → ¬ j = w.heap.size) := Lib.hid (fun j hj e => by
    rcases hU1 j hj with h' | h'
    · exact HV1.out j h' e
    · simp at h'; omega)
  have HU2 : Hid (∀ j, u2.ownBlock = some j → ¬ j = w.heap.size) := Lib.hid (fun j hj e => by
    rcases hU2 j hj with h' | h'
    · exact HV2.out j h' e
    · simp at h'; omega)
  obtain ⟨x0, x1, x2, x3, x4⟩ := hO9.cells
  obtain ⟨z0, z1, z2, z3, z4, f0, f1, f2, f3, f4⟩ := hZ9.cells
  replace hP9 := Lib.hid hP9
  clear hU1 hU2 hc9 hOW hZW hZ hO9 hZ9 HG HM HV1 HV2
  go_wp2_with fail
  refine bodyPost_ret (v := .tuple #[coV ⟨oi, oo, os, on, 0⟩, .int .i64 0]) (by simp [results, Try.results15, go_sem, coV, z0, z1, z2, z3, z4, Try.isAgg37, Try.sizeOf37]) rfl ⟨rfl, ⟨u1, u2, ?_⟩, ?_⟩
  · exact hP9.out.kept (chg_set5 _ _) (by omega) HU1.out HU2.out
  · exact chg_own5 HC9.out (Nat.le_refl _)
end
end Go.Proofs.Ytekppjigckjgiaa
