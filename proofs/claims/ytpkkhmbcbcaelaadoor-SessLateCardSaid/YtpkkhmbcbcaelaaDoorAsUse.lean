/- errors.As at a chain of *api.Fault, as it is used. -/
import Derived.Test.YtpkkhmbcbcaelaaDoorAs
namespace Go.Proofs.YtpkkhmbcbcaelaaDoor
open Go.RowKit Go.Extern.Stop Go.Stop Go.Extern
/-- What is used of it: the variable is set to the outermost Fault; below block B all is as it was. -/
theorem errorsAs_hit (e : Addr) (tb : Nat) (old : Value) (w : World) (B : Nat) (hB : B ≤ tb) (hg : ErrType w) (ht0 : w.cell? ⟨tb, 0, none⟩ = some old) (hf0 : w.frozen? ⟨tb, 0, none⟩ = false) :
    Calls Tryd.prog 24 #[.iface 73 (.pointer (some e)), .iface 75 (.pointer (some ⟨tb, 0, none⟩))] w fun ev w' => ev = .returned (.bool true) ∧ w'.cell? ⟨tb, 0, none⟩ = some (.pointer (some e)) ∧ Below B w w' := by
  refine (errorsAsHit e ⟨tb, 0, none⟩ old w hg ht0 hf0).mono ?_
  rintro ev w' ⟨rfl, rfl⟩
  have hlt : tb < w.heap.size := World.block_lt_of_cell? w _ ht0
  refine ⟨rfl, ?_, ?_⟩
  · refine World.cell?_setCell_same _ _ _ (u := old) ?_
    · rw [World.cell?_alloc_lt _ _ _ (by simp; omega), World.cell?_alloc_lt _ _ _ (by simp; omega), World.cell?_alloc_lt _ _ _ (by simp; omega), World.cell?_alloc_lt _ _ _ hlt]; exact ht0
  · exact (((((Below.refl _ _).alloc (by omega) _).alloc (by simp; omega) _).alloc (by simp; omega) _).alloc (by simp; omega) _).setCell hB _

set_option maxHeartbeats 4000000 in
theorem errorsAs_bare (n : Int) (t : Addr) (old : Value) (w : World) (hg : ErrType w) (ht0 : w.cell? t = some old) :
    Calls Tryd.prog 24 #[.iface 25 (.int .i64 n), .iface 75 (.pointer (some t))] w fun ev w' => ev = .returned (.bool false) ∧ Below w.heap.size w w' := by
  have hlt := hg.lt
  have htl : t.block < w.heap.size := World.block_lt_of_cell? w t ht0
  unfold ErrType at hg
  have f1 := aValueOfPP
  have f3 := aType
  have f4 := aKindPP
  have f5 := aKindP
  have f6 := aElem
  have f7 := aImplements
  have f8 := callTypeOf
  have f9 := aAssignE
  have m1 := mKind
  have m2 := mElem
  have m3 := mImplements
  have m4 := mAssignableTo
  have nA := noAsErrno
  have nU := noUnwrapErrno
  have nV := noUnwrapsErrno
  have n8 := aIsNil ⟨w.heap.size, 0, none⟩ t ((w.alloc (.cells #[.pointer (some t)] 75)).alloc (.cells #[hnd 75, .pointer (some ⟨w.heap.size, 0, none⟩), .int .u64 150] 88)) (by simp)
  have hg2 : ((w.alloc (.cells #[.pointer (some t)] 75)).alloc (.cells #[hnd 75, .pointer (some ⟨w.heap.size, 0, none⟩), .int .u64 150] 88)).cell? ⟨0, 0, none⟩ = some (.iface 99 (.agg #[hnd 34])) := by
    rw [World.cell?_alloc_lt _ _ ⟨0, 0, none⟩ (by simp <;> omega), World.cell?_alloc_lt _ _ ⟨0, 0, none⟩ hlt]; exact hg
  go_enter Tryd.func24, Tryd.ntmps24
  go_wp2
  refine wp_loop_rounds 1 ?_
  rw [rounds_succ]
  go_wp2
  go_ret
  exact ⟨rfl, (((Below.refl _ _).alloc (by omega) _).alloc (by simp) _).alloc (by simp; omega) _⟩
end Go.Proofs.YtpkkhmbcbcaelaaDoor
