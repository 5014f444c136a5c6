/- Words on rows of structs, for any seat: cells of a row of elements of m cells (flat_len, flat_at, flat_set), a cell of an owned row, rows apart by their types, a block just made. No names of a seat but the imports. -/
import Derived.Test.YtpkkhmbcbcaelaaDoorChg
import Derived.Test.YtpkkhmbcbcaelaaDoorStepAt
import Derived.Laws.OwnMore
set_option linter.unusedSimpArgs false
namespace Go.Mem1
open Go.RowKit
section
variable {α : Type} {f : α → List Value} {m : Nat}
theorem flat_len (hf : ∀ x, (f x).length = m) : ∀ (l : List α), (l.flatMap f).length = l.length * m
  | [] => by simp
  | x :: l => by rw [List.flatMap_cons, List.length_append, flat_len hf l, hf, List.length_cons, Nat.succ_mul]; omega
theorem flat_at (hf : ∀ x, (f x).length = m) : ∀ {l : List α} {k : Nat} {x : α}, l[k]? = some x → ∀ {i : Nat} {u : Value}, (f x)[i]? = some u → (l.flatMap f)[k * m + i]? = some u
  | [], k, x, h, i, u, hu => by simp at h
  | y :: l, 0, x, h, i, u, hu => by
    simp at h
    subst h
    have hi : i < (f y).length := by
      rcases Nat.lt_or_ge i (f y).length with h | h
      · exact h
      · rw [List.getElem?_eq_none h] at hu; cases hu
    rw [List.flatMap_cons, Nat.zero_mul, Nat.zero_add, List.getElem?_append_left hi]
    exact hu
  | y :: l, k + 1, x, h, i, u, hu => by
    rw [List.flatMap_cons, List.getElem?_append_right (by rw [hf, Nat.succ_mul]; omega), hf, Nat.succ_mul, show k * m + m + i - m = k * m + i by omega]
    exact flat_at hf (by simpa using h) hu
theorem flat_set (hf : ∀ x, (f x).length = m) : ∀ {l : List α} {k : Nat} {x y : α} {i : Nat} {u : Value}, l[k]? = some x → i < m → f y = (f x).set i u → (l.flatMap f).set (k * m + i) u = (l.set k y).flatMap f
  | [], k, x, y, i, u, h, hi, he => by simp at h
  | z :: l, 0, x, y, i, u, h, hi, he => by
    simp at h
    subst h
    rw [List.flatMap_cons, Nat.zero_mul, Nat.zero_add, List.set_append_left _ _ (by rw [hf]; exact hi), List.set_cons_zero, List.flatMap_cons, he]
  | z :: l, k + 1, x, y, i, u, h, hi, he => by
    rw [List.flatMap_cons, List.set_append_right _ _ (by rw [hf, Nat.succ_mul]; omega), hf, Nat.succ_mul, show k * m + m + i - m = k * m + i by omega, flat_set hf (l := l) (k := k) (x := x) (by simpa using h) hi he, List.set_cons_succ, List.flatMap_cons]
end
/-- A row's cell, at its place. -/
theorem own_cell {w : World} {base : Nat} {e : TypeId} {size n c g : Nat} {xs : List Value} (h : w.ownsRow base e size (.slice (some ⟨g, 0, none⟩) n c) n xs) {j : Nat} {u : Value} (hu : xs[j]? = some u) : w.cell? ⟨g, j, none⟩ = some u := by
  have hj : j < xs.length := by
    rcases Nat.lt_or_ge j xs.length with h | h
    · exact h
    · rw [List.getElem?_eq_none h] at hu; cases hu
  rw [h.cellAt j (by rw [← h.1]; exact hj)]
  exact hu
theorem own_keep {w w' : World} {base : Nat} {e : TypeId} {size n : Nat} {v : Value} {xs : List Value} (h : w.ownsRow base e size v n xs) (hb : Below w.heap.size w w') : w'.ownsRow base e size v n xs :=
  own_chg h (Chg.of_below hb (fun _ => False)) (fun _ _ h => h)
theorem own_form {w : World} {base : Nat} {e : TypeId} {size n : Nat} {v : Value} {xs : List Value} (h : w.ownsRow base e size v n xs) : (v = .slice none 0 0 ∧ n = 0) ∨ ∃ g c, v = .slice (some ⟨g, 0, none⟩) n c ∧ base ≤ g ∧ g < w.heap.size ∧ n ≤ c := by
  rcases h.2 with h0 | ⟨g, cap, cur, rfl, hb, hg, hn, _⟩
  · exact .inl h0
  · exact .inr ⟨g, cap, rfl, hb, (Array.getElem?_eq_some_iff.1 hg).1, hn⟩
/-- Two owned rows of unlike types lie apart. -/
theorem own_apart {w : World} {base base2 : Nat} {e e2 : TypeId} {size size2 n n2 : Nat} {v v2 : Value} {xs xs2 : List Value} (h : w.ownsRow base e size v n xs) (h2 : w.ownsRow base2 e2 size2 v2 n2 xs2) (he : e ≠ e2) {k : Nat} (hk : v.ownBlock = some k) : v2.ownBlock ≠ some k := by
  rcases h.2 with ⟨rfl, _⟩ | ⟨g, _, cur, rfl, _, hg, _⟩
  · cases hk
  · injection hk with hk
    subst hk
    intro h3
    rcases h2.2 with ⟨rfl, _⟩ | ⟨g2, _, cur2, rfl, _, hg2, _⟩
    · cases h3
    · injection h3 with h3
      have h4 : g2 = g := h3
      subst h4
      rw [hg] at hg2
      injection hg2 with hg2
      injection hg2 with _ h5 _
      exact he h5
theorem own_of_box {w : World} {g B : Nat} {t e : TypeId} {cs : Array Value} (hb : Box w g t cs) {size n : Nat} {v : Value} {xs : List Value} (h : w.ownsRow B e size v n xs) (he : e ≠ t) : ∀ k, v.ownBlock = some k → k ≠ g := fun k hk e => hb.off_row h he (by rw [hk, e])
/-- A block just made, its cells. -/
theorem cells_new (w : World) (l : List Value) (t : TypeId) {g : Nat} (hg : g = w.heap.size) : ∀ j u, l[j]? = some u → (w.alloc (.cells l.toArray t)).cell? ((⟨g, 0, none⟩ : Addr).add j) = some u := by
  subst hg
  intro j u hu
  rcases Nat.eq_zero_or_pos j with h0 | h0
  · subst h0; simp [Addr.add, hu]
  · simp [Addr.add, show j ≠ 0 by omega, hu]
end Go.Mem1
