/- FifoOrder in plain mathematics: what was put, and what is left while rows are emptied. -/
import Derived.Test.YtmgfeofkbblmjaaFifFull
set_option linter.unusedSimpArgs false
namespace Go.Proofs.Ytmgfeofkbblmjaa
open Go.RowKit Go.Mem1 Go.FifMath

/-- What is taken when the values 0, 1, .. were put to the rows that the bytes tell. -/
def orderM (l : List Nat) : List (Nat × Nat × Int) := l.mapIdx fun i x => (i, x % 8, (i : Int))
theorem orderM_len (l : List Nat) : (orderM l).length = l.length := by simp [orderM]
theorem orderM_at {l : List Nat} {i x : Nat} (h : l[i]? = some x) : (orderM l)[i]? = some (i, x % 8, (i : Int)) := by
  unfold orderM
  rw [List.getElem?_mapIdx, h]; rfl
theorem orderM_inv {l : List Nat} {i : Nat} {y : Nat × Nat × Int} (h : (orderM l)[i]? = some y) : y.1 = i ∧ i < l.length ∧ y.2.1 < 8 ∧ ∃ x, l[i]? = some x ∧ y.2.1 = x % 8 := by
  unfold orderM at h
  rw [List.getElem?_mapIdx] at h
  cases he : l[i]? with
  | none => rw [he] at h; cases h
  | some e =>
    rw [he] at h
    injection h with h
    subst h
    have hi : i < l.length := by
      rcases Nat.lt_or_ge i l.length with h' | h'
      · exact h'
      · rw [List.getElem?_eq_none h'] at he; cases he
    exact ⟨rfl, hi, Nat.mod_lt _ (by omega), e, rfl, rfl⟩
theorem orderM_mem {l : List Nat} {y : Nat × Nat × Int} (h : y ∈ orderM l) : (orderM l)[y.1]? = some y := by
  obtain ⟨i, hi, e⟩ := List.mem_iff_getElem.1 h
  have h1 : (orderM l)[i]? = some y := by rw [List.getElem?_eq_getElem hi, e]
  rw [(orderM_inv h1).1]
  exact h1
theorem orderM_snoc {l : List Nat} {k x : Nat} (h : l[k]? = some x) : orderM (l.take (k + 1)) = orderM (l.take k) ++ [(k, x % 8, (k : Int))] := by
  have hk : k < l.length := by
    rcases Nat.lt_or_ge k l.length with h' | h'
    · exact h'
    · rw [List.getElem?_eq_none h'] at h; cases h
  have e1 : l[k] = x := by rw [List.getElem?_eq_getElem hk] at h; injection h
  unfold orderM
  rw [List.take_succ_eq_append_getElem hk, List.mapIdx_concat, e1, List.length_take, Nat.min_eq_left (by omega)]
/-- Is one left, when the rows ahead of r are empty and of row r those ahead of place i are gone? -/
def left_ (r i : Nat) (x : Nat × Nat × Int) : Bool := decide (r < x.2.1) || (x.2.1 == r && decide (i ≤ x.1))
def restM (l : List Nat) (r i : Nat) : List (Nat × Nat × Int) := (orderM l).filter (left_ r i)
theorem rest_start (l : List Nat) : restM l 0 0 = orderM l := by
  unfold restM
  rw [List.filter_eq_self]
  intro x _
  unfold left_
  rw [Bool.or_eq_true, Bool.and_eq_true]
  by_cases h : 0 < x.2.1
  · exact .inl (by simpa using h)
  · exact .inr ⟨by simp; omega, by simp⟩
theorem rest_end (l : List Nat) : restM l 8 0 = [] := by
  unfold restM
  rw [List.filter_eq_nil_iff]
  intro x hx
  obtain ⟨_, _, h, _⟩ := orderM_inv (orderM_mem hx)
  unfold left_
  simp
  omega
theorem rest_next (l : List Nat) (r : Nat) : restM l r l.length = restM l (r + 1) 0 := by
  unfold restM
  apply List.filter_congr
  intro x hx
  obtain ⟨_, h, _⟩ := orderM_inv (orderM_mem hx)
  unfold left_
  rw [Bool.eq_iff_iff]
  simp only [Bool.or_eq_true, Bool.and_eq_true, decide_eq_true_eq, beq_iff_eq]
  omega
theorem rest_row_end (l : List Nat) (r : Nat) : rowOf (restM l r l.length) r = [] := by
  unfold rowOf restM
  rw [List.map_eq_nil_iff, List.filter_eq_nil_iff]
  intro x hx
  obtain ⟨hx, hl⟩ := List.mem_filter.1 hx
  obtain ⟨_, h, _⟩ := orderM_inv (orderM_mem hx)
  unfold left_ at hl
  simp only [Bool.or_eq_true, Bool.and_eq_true, decide_eq_true_eq, beq_iff_eq] at hl
  simp
  omega
theorem rest_skip {l : List Nat} {r i x : Nat} (h : l[i]? = some x) (hr : x % 8 ≠ r) : restM l r (i + 1) = restM l r i := by
  unfold restM
  apply List.filter_congr
  intro y hy
  obtain ⟨_, _, _, z, hz, hz2⟩ := orderM_inv (orderM_mem hy)
  unfold left_
  rw [Bool.eq_iff_iff]
  simp only [Bool.or_eq_true, Bool.and_eq_true, decide_eq_true_eq, beq_iff_eq]
  have hi : y.1 = i → y.2.1 ≠ r := by
    intro e
    rw [e, h] at hz
    injection hz with hz
    subst hz
    omega
  omega
theorem rest_take {l : List Nat} {r i x : Nat} (h : l[i]? = some x) (hr : x % 8 = r) : ∃ M1 M2, restM l r i = M1 ++ (i, r, (i : Int)) :: M2 ∧ restM l r (i + 1) = M1 ++ M2 ∧ rowOf (restM l r i) r = (i, (i : Int)) :: rowOf M2 r := by
  have ha := orderM_at h
  have hc := cut_at ha
  rw [hr] at hc ha
  have hil : i < (orderM l).length := by
    rcases Nat.lt_or_ge i (orderM l).length with h' | h'
    · exact h'
    · rw [List.getElem?_eq_none h'] at ha; cases ha
  have hA : ∀ y ∈ (orderM l).take i, y.1 < i := by
    intro y hy
    obtain ⟨j, hj, e⟩ := List.mem_iff_getElem.1 hy
    rw [List.getElem_take] at e
    rw [List.length_take] at hj
    have := (orderM_inv (show (orderM l)[j]? = some y by rw [List.getElem?_eq_getElem (by omega), e])).1
    omega
  have hB : ∀ y ∈ (orderM l).drop (i + 1), i < y.1 := by
    intro y hy
    obtain ⟨j, hj, e⟩ := List.mem_iff_getElem.1 hy
    rw [List.getElem_drop] at e
    rw [List.length_drop] at hj
    have := (orderM_inv (show (orderM l)[i + 1 + j]? = some y by rw [List.getElem?_eq_getElem (by omega), e])).1
    omega
  have f1 : ((orderM l).take i).filter (left_ r (i + 1)) = ((orderM l).take i).filter (left_ r i) := by
    apply List.filter_congr
    intro y hy
    have := hA y hy
    unfold left_
    rw [Bool.eq_iff_iff]
    simp only [Bool.or_eq_true, Bool.and_eq_true, decide_eq_true_eq, beq_iff_eq]
    omega
  have f2 : ((orderM l).drop (i + 1)).filter (left_ r (i + 1)) = ((orderM l).drop (i + 1)).filter (left_ r i) := by
    apply List.filter_congr
    intro y hy
    have := hB y hy
    unfold left_
    rw [Bool.eq_iff_iff]
    simp only [Bool.or_eq_true, Bool.and_eq_true, decide_eq_true_eq, beq_iff_eq]
    omega
  have g1 : left_ r i (i, r, (i : Int)) = true := by unfold left_; simp
  have g2 : left_ r (i + 1) (i, r, (i : Int)) = false := by unfold left_; simp
  have e1 : restM l r i = ((orderM l).take i).filter (left_ r i) ++ (i, r, (i : Int)) :: ((orderM l).drop (i + 1)).filter (left_ r i) := by
    unfold restM
    conv => lhs; rw [hc]
    rw [List.filter_append, List.filter_cons_of_pos g1]
  refine ⟨_, _, e1, ?_, ?_⟩
  · unfold restM
    conv => lhs; rw [hc]
    rw [List.filter_append, List.filter_cons_of_neg (by rw [g2]; simp), f1, f2]
  · rw [e1, rowOf_append, ← List.singleton_append, rowOf_append, rowOf_one, if_pos rfl]
    have h0 : rowOf (((orderM l).take i).filter (left_ r i)) r = [] := by
      unfold rowOf
      rw [List.map_eq_nil_iff, List.filter_eq_nil_iff]
      intro y hy
      obtain ⟨hy, hl⟩ := List.mem_filter.1 hy
      have := hA y hy
      unfold left_ at hl
      simp only [Bool.or_eq_true, Bool.and_eq_true, decide_eq_true_eq, beq_iff_eq] at hl
      simp
      omega
    rw [h0]; rfl
end Go.Proofs.Ytmgfeofkbblmjaa
