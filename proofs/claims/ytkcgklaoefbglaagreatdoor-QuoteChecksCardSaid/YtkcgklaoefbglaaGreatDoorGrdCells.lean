/- A table as an owned row of cells. -/
import Derived.Test.YtkcgklaoefbglaaGreatDoorGrdMem
import Derived.Laws.OwnMore
set_option linter.unusedSimpArgs false
namespace Go.Proofs.YtkcgklaoefbglaaGreatDoor
open Go.RowKit Go.Mem1 Go.GridMath

def stepCells (l : List Stp) : List Value := l.flatMap fun s => [.int .i64 s.1, .int .i64 s.2]
theorem stepCells_len (l : List Stp) : (stepCells l).length = l.length * 2 := by
  induction l with
  | nil => rfl
  | cons x r ih => unfold stepCells at *; rw [List.flatMap_cons, List.length_append, ih]; simp; omega
theorem stepCells_snoc (l : List Stp) (s : Stp) : stepCells (l ++ [s]) = stepCells l ++ [.int .i64 s.1, .int .i64 s.2] := by simp [stepCells]
theorem stepCells_at {l : List Stp} {k : Nat} {s : Stp} (h : l[k]? = some s) : (stepCells l)[k * 2]? = some (.int .i64 s.1) ∧ (stepCells l)[k * 2 + 1]? = some (.int .i64 s.2) := by
  induction l generalizing k with
  | nil => simp at h
  | cons y r ih =>
    have e : stepCells (y :: r) = .int .i64 y.1 :: .int .i64 y.2 :: stepCells r := rfl
    rw [e]
    cases k with
    | zero => simp at h; subst h; exact ⟨rfl, rfl⟩
    | succ k =>
      rw [show (k + 1) * 2 = (k * 2 + 1) + 1 by omega, List.getElem?_cons_succ, List.getElem?_cons_succ, List.getElem?_cons_succ, List.getElem?_cons_succ]
      exact ih (by simpa using h)
theorem TabAt.ofOwn {w : World} {base n c : Nat} {e : TypeId} {A : Option Addr} {l : List Stp} (h : w.ownsRow base e 2 (.slice A n c) n (stepCells l)) : TabAt w w.heap.size A n l := by
  have hl : l.length = n := by have := h.1; rw [stepCells_len] at this; omega
  refine ⟨hl, fun k s hs => ?_⟩
  have hk : k < l.length := by
    rcases Nat.lt_or_ge k l.length with h | h
    · exact h
    · rw [List.getElem?_eq_none h] at hs; cases hs
  rcases h.2 with ⟨hv, h0⟩ | ⟨g, cap, cur, hv, hb, hg, _⟩
  · omega
  · injection hv with hA _ _
    subst hA
    obtain ⟨s1, s2⟩ := stepCells_at hs
    have c1 := h.cells (g := g) rfl _ _ s1
    have c2 := h.cells (g := g) rfl _ _ s2
    refine ⟨g, 0, rfl, (Array.getElem?_eq_some_iff.1 hg).1, ?_, ?_⟩
    · rcases Nat.eq_zero_or_pos k with h0 | h0
      · subst h0; simpa [Addr.add] using c1
      · simpa [Addr.add, show k * 2 ≠ 0 by omega] using c1
    · simpa [Addr.add, Nat.add_assoc] using c2
end Go.Proofs.YtkcgklaoefbglaaGreatDoor
