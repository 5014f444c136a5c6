/- The reference's book of complex orders in memory; the contracts of its Ahead, Takes, Right1, Side, put. -/
import Derived.Test.YtekppjigckjgiaaRows
import Derived.WalkKit
import Derived.WalkSpells
import Derived.WalkLawsBesides
import Derived.Handy
import Derived.Lib.Hide
import Derived.Test.YtekppjigckjgiaaKit
import Derived.Test.YtekppjigckjgiaaCbkMath
set_option linter.unusedSimpArgs false
namespace Go.Proofs.Ytekppjigckjgiaa
open Go.RowKit Go.Mem1 Go.CbkMath

theorem rb {a b : Bool} (h : a = b) : Ending.returned (.bool a) = .returned (.bool b) := by rw [h]
theorem ri {k : IntKind} {a b : Int} (h : a = b) : Ending.returned (.int k a) = .returned (.int k b) := by rw [h]
theorem at_lt {α : Type} {l : List α} {k : Nat} {x : α} (h : l[k]? = some x) : k < l.length := (List.getElem?_eq_some_iff.1 h).1
/-- An order's cells, an order as a value. -/
def co1 (o : CO) : List Value := [.int .i64 o.id, .int .i64 o.ow, .int .i64 o.si, .int .i64 o.ne, .int .i64 o.un]
def coV (o : CO) : Value := .agg #[.int .i64 o.id, .int .i64 o.ow, .int .i64 o.si, .int .i64 o.ne, .int .i64 o.un]
theorem co1_len (o : CO) : (co1 o).length = 5 := rfl
theorem co1_one (o : CO) : ∀ u ∈ co1 o, u.oneCell' = true := by
  intro u hu
  simp [co1] at hu
  rcases hu with rfl | rfl | rfl | rfl | rfl <;> rfl
theorem cos_one (L : List CO) : ∀ u ∈ L.flatMap co1, u.oneCell' = true := by
  intro u hu
  obtain ⟨x, _, hx⟩ := List.mem_flatMap.1 hu
  exact co1_one x u hx
/-- An order's cells in a row. -/
theorem co_cells {w : World} {B : Nat} {t : TypeId} {v : Value} {L : List CO} (h : w.ownsRow B t 5 v L.length (L.flatMap co1)) {k : Nat} {o : CO} (hk : L[k]? = some o) : ∃ b c, v = .slice (some ⟨b, 0, none⟩) L.length c ∧ k < L.length ∧ b < w.heap.size ∧ B ≤ b ∧ L.length ≤ c ∧
    w.cell? ⟨b, k * 5, none⟩ = some (.int .i64 o.id) ∧ w.cell? ⟨b, k * 5 + 1, none⟩ = some (.int .i64 o.ow) ∧ w.cell? ⟨b, k * 5 + 2, none⟩ = some (.int .i64 o.si) ∧ w.cell? ⟨b, k * 5 + 3, none⟩ = some (.int .i64 o.ne) ∧ w.cell? ⟨b, k * 5 + 4, none⟩ = some (.int .i64 o.un) ∧ ∀ i, w.frozen? ⟨b, i, none⟩ = false := by
  have hl := at_lt hk
  rcases own_form h with ⟨_, h0⟩ | ⟨b, c, hv, hb, hlt, hc⟩
  · omega
  · have hr := h
    subst hv
    exact ⟨b, c, rfl, hl, hlt, hb, hc, own_cell hr (flat_at co1_len hk (i := 0) rfl), own_cell hr (flat_at co1_len hk (i := 1) rfl), own_cell hr (flat_at co1_len hk (i := 2) rfl), own_cell hr (flat_at co1_len hk (i := 3) rfl), own_cell hr (flat_at co1_len hk (i := 4) rfl), fun i => hr.frozenAt i⟩
/-- The reference's book: its block, its rows. -/
structure RefAt (w : World) (B g : Nat) (v1 v2 : Value) (D : Dk) : Prop where
  box : Box w g 29 #[v1, v2]
  low : B ≤ g
  b : w.ownsRow B 37 5 v1 D.1.length (D.1.flatMap co1)
  s : w.ownsRow B 37 5 v2 D.2.length (D.2.flatMap co1)
section
variable {w w' : World} {B g : Nat} {v1 v2 : Value} {D : Dk}
theorem RefAt.carry (h : RefAt w B g v1 v2 D) (hb : Below w.heap.size w w') : RefAt w' B g v1 v2 D := ⟨h.box.kept_below hb h.box.there, h.low, own_keep h.b hb, own_keep h.s hb⟩
theorem RefAt.base (h : RefAt w B g v1 v2 D) : B < w.heap.size := Nat.lt_of_le_of_lt h.low h.box.there
theorem RefAt.there (h : RefAt w B g v1 v2 D) : g < w.heap.size := h.box.there
theorem RefAt.c0 (h : RefAt w B g v1 v2 D) : w.cell? ⟨g, 0, none⟩ = some v1 := h.box.reads 0
theorem RefAt.c1 (h : RefAt w B g v1 v2 D) : w.cell? ⟨g, 1, none⟩ = some v2 := h.box.reads 1
end
theorem rahead_any (a b : CO) (w : World) : Calls Try.prog 22 #[coV a, coV b] w fun e w' => e = .returned (.bool (aheadC a b)) ∧ Below w.heap.size w w' := by
  obtain ⟨R, hR⟩ : ∃ R, aheadC a b = R := ⟨_, rfl⟩
  rw [hR]
  obtain ⟨i1, o1, s1, n1, u1⟩ := a
  obtain ⟨i2, o2, s2, n2, u2⟩ := b
  unfold aheadC at hR
  dsimp only at hR
  by_cases h : n1 = n2
  · rw [if_pos h] at hR
    subst h
    have HR := Lib.hid hR
    clear hR
    unfold coV
    go_enter Try.func22, Try.ntmps22
    go_wp2_with fail
    go_ret
    exact ⟨rb HR.out, (bel_alloc (bel_new _ _) _)⟩
  · rw [if_neg h] at hR
    have HR := Lib.hid hR
    clear hR
    unfold coV
    go_enter Try.func22, Try.ntmps22
    go_wp2_with fail
    go_ret
    exact ⟨rb HR.out, (bel_alloc (bel_new _ _) _)⟩
theorem rtakes_any (o : CO) (net : Int) (w : World) : Calls Try.prog 24 #[coV o, .int .i64 net] w fun e w' => e = .returned (.bool (takesC o net)) ∧ Below w.heap.size w w' := by
  obtain ⟨R, hR⟩ : ∃ R, takesC o net = R := ⟨_, rfl⟩
  rw [hR]
  obtain ⟨i1, o1, s1, n1, u1⟩ := o
  unfold takesC at hR
  dsimp only at hR
  by_cases h : s1 = 1
  · rw [if_pos h] at hR
    have HR := Lib.hid hR
    clear hR
    unfold coV
    go_enter Try.func24, Try.ntmps24
    go_wp2_with fail
    go_ret
    exact ⟨rb HR.out, bel_new _ _⟩
  · rw [if_neg h] at hR
    have HR := Lib.hid hR
    clear hR
    unfold coV
    go_enter Try.func24, Try.ntmps24
    go_wp2_with fail
    go_ret
    exact ⟨rb HR.out, bel_new _ _⟩
theorem rright_any (o : CO) (w : World) : Calls Try.prog 33 #[coV o] w fun e w' => e = .returned (.bool (decide (okC o))) ∧ Below w.heap.size w w' := by
  obtain ⟨R, hR⟩ : ∃ R, decide (okC o) = R := ⟨_, rfl⟩
  rw [hR]
  obtain ⟨i1, o1, s1, n1, u1⟩ := o
  have HR := Lib.hid hR
  clear hR
  unfold coV
  go_enter Try.func33, Try.ntmps33
  go_wp2_with fail
  all_goals
    go_ret
    refine ⟨rb ?_, bel_new _ _⟩
    rw [← HR.out]
    rw [Bool.eq_iff_iff, decide_eq_true_iff (p := okC _)]
    unfold okC
    dsimp only
    simp only [decide_eq_true_eq, Bool.false_eq_true, iff_false, false_iff]
    omega
section
variable {w : World} {B g : Nat} {v1 v2 : Value} {D : Dk}
/-- A side's row, as a value. -/
def sideV (v1 v2 : Value) (s : Int) : Value := if s = 1 then v1 else if s = 2 then v2 else .slice none 0 0
theorem rside_any (h : RefAt w B g v1 v2 D) (s : Int) : Calls Try.prog 18 #[.pointer (some ⟨g, 0, none⟩), .int .i64 s] w fun e w' => e = .returned (sideV v1 v2 s) ∧ w = w' := by
  have c0 := h.c0
  have c1 := h.c1
  obtain ⟨R, hR⟩ : ∃ R, sideV v1 v2 s = R := ⟨_, rfl⟩
  rw [hR]
  unfold sideV at hR
  clear h
  by_cases h1 : s = 1
  · rw [if_pos h1] at hR
    subst hR
    subst h1
    go_enter Try.func18, Try.ntmps18
    go_wp2_with fail
    go_ret
    exact ⟨rfl, rfl⟩
  · rw [if_neg h1] at hR
    by_cases h2 : s = 2
    · rw [if_pos h2] at hR
      subst hR
      subst h2
      go_enter Try.func18, Try.ntmps18
      go_wp2_with fail
      go_ret
      exact ⟨rfl, rfl⟩
    · rw [if_neg h2] at hR
      subst hR
      go_enter Try.func18, Try.ntmps18
      go_wp2_with fail
      go_ret
      exact ⟨rfl, rfl⟩
set_option maxHeartbeats 1000000 in
/-- put: a side's row anew. -/
theorem rput_any2 (h : RefAt w B g v1 v2 D) {s : Int} (hs : s = 1 ∨ s = 2) {v : Value} {l : List CO} (hv : w.ownsRow B 37 5 v l.length (l.flatMap co1)) :
    Calls Try.prog 34 #[.pointer (some ⟨g, 0, none⟩), .int .i64 s, v] w fun e w' => e = .returned (.tuple #[]) ∧ (∃ u1 u2, RefAt w' B g u1 u2 (setD s l D) ∧ (u1 = v1 ∨ u1 = v) ∧ (u2 = v2 ∨ u2 = v)) ∧ Chg (fun j => j = g) w w' := by
  have c0 := h.c0
  have c1 := h.c1
  have f0 := h.box.unmarked 0
  have f1 := h.box.unmarked 1
  have hgb : ∀ {u : Value} {n : Nat} {xs : List Value}, w.ownsRow B 37 5 u n xs → u.ownBlock ≠ some g := fun ho => h.box.off_row ho (by decide)
  rcases hs with rfl | rfl
  · have HE : Hid (∃ u1 u2, RefAt (w.setCell ⟨g, 0, none⟩ v) B g u1 u2 (setD 1 l D) ∧ (u1 = v1 ∨ u1 = v) ∧ (u2 = v2 ∨ u2 = v)) := Lib.hid ⟨v, v2, ⟨h.box.wrote 0 v, h.low, own_set hv _ _ (hgb hv), own_set h.s _ _ (hgb h.s)⟩, .inr rfl, .inl rfl⟩
    have HC : Hid (Chg (fun j => j = g) w (w.setCell ⟨g, 0, none⟩ v)) := Lib.hid (Chg.setCell (S := fun j => j = g) (Chg.refl _ _) (p := ⟨g, 0, none⟩) (fun _ => rfl) v)
    obtain ⟨A, c, e⟩ := own_slice hv
    clear h hv hgb
    subst e
    go_enter Try.func34, Try.ntmps34
    go_wp2_with fail
    all_goals (refine bodyPost_ret (v := .tuple #[]) (by simp [results, Try.results34, go_sem]) rfl ⟨rfl, HE.out, HC.out⟩)
  · have HE : Hid (∃ u1 u2, RefAt (w.setCell ⟨g, 1, none⟩ v) B g u1 u2 (setD 2 l D) ∧ (u1 = v1 ∨ u1 = v) ∧ (u2 = v2 ∨ u2 = v)) := Lib.hid ⟨v1, v, ⟨h.box.wrote 1 v, h.low, own_set h.b _ _ (hgb h.b), own_set hv _ _ (hgb hv)⟩, .inl rfl, .inr rfl⟩
    have HC : Hid (Chg (fun j => j = g) w (w.setCell ⟨g, 1, none⟩ v)) := Lib.hid (Chg.setCell (S := fun j => j = g) (Chg.refl _ _) (p := ⟨g, 1, none⟩) (fun _ => rfl) v)
    obtain ⟨A, c, e⟩ := own_slice hv
    clear h hv hgb
    subst e
    go_enter Try.func34, Try.ntmps34
    go_wp2_with fail
    all_goals (refine bodyPost_end (v := .tuple #[]) (by simp [results, Try.results34, go_sem]) rfl ⟨rfl, HE.out, HC.out⟩)
theorem rput_any (h : RefAt w B g v1 v2 D) {s : Int} (hs : s = 1 ∨ s = 2) {v : Value} {l : List CO} (hv : w.ownsRow B 37 5 v l.length (l.flatMap co1)) :
    Calls Try.prog 34 #[.pointer (some ⟨g, 0, none⟩), .int .i64 s, v] w fun e w' => e = .returned (.tuple #[]) ∧ (∃ u1 u2, RefAt w' B g u1 u2 (setD s l D)) ∧ Chg (fun j => j = g) w w' :=
  (rput_any2 h hs hv).mono fun _ _ ⟨h1, ⟨u1, u2, h2, _⟩, h3⟩ => ⟨h1, ⟨u1, u2, h2⟩, h3⟩
end
end Go.Proofs.Ytekppjigckjgiaa
