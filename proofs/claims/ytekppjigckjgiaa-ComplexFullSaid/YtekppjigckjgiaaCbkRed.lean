/- The reference's Reduce. -/
import Derived.Test.YtekppjigckjgiaaCbkRem
set_option linter.unusedSimpArgs false
namespace Go.Proofs.Ytekppjigckjgiaa
open Go.RowKit Go.Mem1 Go.CbkMath

/-- What Reduce makes. -/
def RRed (w : World) (B g : Nat) (D : Dk) (id u : Int) (e : Ending) (w' : World) : Prop := e = .returned (.tuple #[coV (redO D id u).1, .int .i64 (redO D id u).2]) ∧ (∃ u1 u2, RefAt w' B g u1 u2 (redD D id u)) ∧ Chg (fun j => j = g) w w'
section
variable {w : World} {B g : Nat} {v1 v2 : Value} {D : Dk}
set_option maxRecDepth 100000 in
set_option maxHeartbeats 2000000 in
theorem rred_name (h : RefAt w B g v1 v2 D) (hm : D.1.length + D.2.length ≤ 256) {id : Int} (u : Int) (hE : get2 D id = none) :
    Calls Try.prog 15 #[.pointer (some ⟨g, 0, none⟩), .int .i64 id, .int .i64 u] w (RRed w B g D id u) := by
  have HD : Hid (∀ w', Below w.heap.size w w' → (∃ u1 u2, RefAt w' B g u1 u2 (redD D id u)) ∧ Chg (fun j => j = g) w w') := Lib.hid fun w' hb => ⟨⟨v1, v2, by unfold redD; rw [hE]; exact h.carry hb⟩, Chg.of_below hb _⟩
  have HG := Lib.hid (fun w' (hb : Below w.heap.size w w') => rget_any (h.carry hb) hm id)
  have hV : getV D id = .tuple #[coV zeroC, .int .i64 (-1)] := by unfold getV; rw [hE]
  rw [hV] at HG
  have hR : redO D id u = (zeroC, 5) := by unfold redO; rw [hE]
  unfold RRed
  rw [hR]
  unfold coV zeroC at HG
  clear h hE hV hR hm
  go_enter Try.func15, Try.ntmps15
  go_wp2_with (go_at_call 20; refine (HG.out _ (bel_new _ _)).mono ?_; rintro e w1 ⟨rfl, hb1⟩; obtain ⟨z0, z1, z2, z3, z4, f0, f1, f2, f3, f4⟩ := (Zero5.carry ⟨Box.fresh w 37 zero5 rfl⟩ hb1).ups; replace hb1 := Lib.hid (bel_trans (bel_new _ _) hb1))
  refine bodyPost_ret (v := .tuple #[coV zeroC, .int .i64 5]) (by simp [results, Try.results15, go_sem, coV, zeroC, z0, z1, z2, z3, z4, Try.isAgg37, Try.sizeOf37]) rfl ⟨rfl, ?_⟩
  exact HD.out _ (bel_set5 (bel_alloc hb1.out _))
set_option maxRecDepth 100000 in
set_option maxHeartbeats 2000000 in
theorem rred_arg (h : RefAt w B g v1 v2 D) (hI : Inv D) {id u : Int} {k : Nat} {o : CO} (hE : get2 D id = some (k, o)) (hu : ¬ (1 ≤ u ∧ u ≤ o.un)) :
    Calls Try.prog 15 #[.pointer (some ⟨g, 0, none⟩), .int .i64 id, .int .i64 u] w (RRed w B g D id u) := by
  have HD : Hid (∀ w', Below w.heap.size w w' → (∃ u1 u2, RefAt w' B g u1 u2 (redD D id u)) ∧ Chg (fun j => j = g) w w') := Lib.hid fun w' hb => ⟨⟨v1, v2, by unfold redD; rw [hE]; simp only; rw [if_neg hu]; exact h.carry hb⟩, Chg.of_below hb _⟩
  have HG := Lib.hid (fun w' (hb : Below w.heap.size w w') => rget_any (h.carry hb) hI.most id)
  have hV : getV D id = .tuple #[coV o, .int .i64 k] := by unfold getV; rw [hE]
  rw [hV] at HG
  have hR : redO D id u = (zeroC, 1) := by unfold redO; rw [hE]; simp only; rw [if_neg hu]
  unfold RRed
  rw [hR]
  obtain ⟨oi, oo, os, on, ou⟩ := o
  dsimp only at hu
  unfold coV at HG
  clear h hE hV hR hI
  by_cases hu1 : u < 1
  · clear hu
    go_enter Try.func15, Try.ntmps15
    go_wp2_with (go_at_call 20; refine (HG.out _ (bel_new _ _)).mono ?_; rintro e w1 ⟨rfl, hb1⟩; obtain ⟨z0, z1, z2, z3, z4, f0, f1, f2, f3, f4⟩ := (Zero5.carry ⟨Box.fresh w 37 zero5 rfl⟩ hb1).ups; replace hb1 := Lib.hid (bel_trans (bel_new _ _) hb1))
    refine bodyPost_ret (v := .tuple #[coV zeroC, .int .i64 1]) (by simp [results, Try.results15, go_sem, coV, zeroC, z0, z1, z2, z3, z4, Try.isAgg37, Try.sizeOf37]) rfl ⟨rfl, ?_⟩
    exact HD.out _ (bel_set5 (bel_alloc hb1.out _))
  · have hu2 : ou < u := by omega
    have d1 : decide (u < 1) = false := by simp; omega
    have d2 : decide (ou < u) = true := by simp; omega
    clear hu hu1
    go_enter Try.func15, Try.ntmps15
    go_wp2_with (go_at_call 20; refine (HG.out _ (bel_new _ _)).mono ?_; rintro e w1 ⟨rfl, hb1⟩; obtain ⟨z0, z1, z2, z3, z4, f0, f1, f2, f3, f4⟩ := (Zero5.carry ⟨Box.fresh w 37 zero5 rfl⟩ hb1).ups; replace hb1 := Lib.hid (bel_trans (bel_new _ _) hb1))
    refine bodyPost_ret (v := .tuple #[coV zeroC, .int .i64 1]) (by simp [results, Try.results15, go_sem, coV, zeroC, z0, z1, z2, z3, z4, Try.isAgg37, Try.sizeOf37]) rfl ⟨rfl, ?_⟩
    exact HD.out _ (bel_set5 (bel_alloc hb1.out _))
end
end Go.Proofs.Ytekppjigckjgiaa
