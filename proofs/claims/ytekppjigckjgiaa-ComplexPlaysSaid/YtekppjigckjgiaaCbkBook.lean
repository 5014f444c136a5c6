/- What the laws of stage 21 ask of the landed book (cbook): its contracts, in the laws' words. -/
import Derived.Test.YtekppjigckjgiaaCbkInk
set_option linter.unusedSimpArgs false
namespace Go.Proofs.Ytekppjigckjgiaa
open Go.RowKit Go.Mem1 Go.CbkMath

/-- A book in memory: from block B on, at g, with the orders D, in the blocks O. -/
def CbAt (w : World) (B g : Nat) (D : Dk) (O : Nat → Prop) : Prop := ∃ v1 v2, BkAt w B g v1 v2 D ∧ ∀ j, O j ↔ BkO g v1 v2 j
section
variable {w w' : World} {B g : Nat} {D : Dk} {O : Nat → Prop}
theorem CbAt.inv (h : CbAt w B g D O) : Inv D := by
  obtain ⟨v1, v2, h, _⟩ := h
  exact h.inv
theorem CbAt.own (h : CbAt w B g D O) : ∀ j, O j → B ≤ j ∧ j < w.heap.size := by
  obtain ⟨v1, v2, h, hO⟩ := h
  exact fun j hj => h.own_lt ((hO j).1 hj)
theorem CbAt.off (h : CbAt w B g D O) : ∀ j t cs, O j → Box w j t cs → t ≠ 37 ∧ t ≠ 29 ∧ t ≠ 33 := by
  obtain ⟨v1, v2, h, hO⟩ := h
  intro j t cs hj hx
  rcases h.off ((hO j).1 hj) hx with rfl | rfl
  · decide
  · decide
theorem CbAt.base (h : CbAt w B g D O) : B < w.heap.size := by
  obtain ⟨v1, v2, h, _⟩ := h
  exact h.base
theorem CbAt.kept (h : CbAt w B g D O) {S : Nat → Prop} (hc : Chg S w w') (hS : ∀ j, O j → ¬ S j) : CbAt w' B g D O := by
  obtain ⟨v1, v2, h, hO⟩ := h
  exact ⟨v1, v2, h.kept hc (fun j hj => hS j ((hO j).2 hj)), hO⟩
theorem CbAt.carry (h : CbAt w B g D O) (hb : Below w.heap.size w w') : CbAt w' B g D O := h.kept (Chg.of_below hb (fun _ => False)) (fun _ _ e => e)
/-- What a writing call answers and leaves. -/
def CbDid (w : World) (B g : Nat) (O : Nat → Prop) (D' : Dk) (r : Value) (e : Ending) (w' : World) : Prop :=
  e = .returned r ∧ ∃ O', CbAt w' B g D' O' ∧ Chg O w w' ∧ ∀ j, O' j → O j ∨ w.heap.size ≤ j
theorem did_of {v1 v2 : Value} {D' : Dk} {r : Value} {e : Ending} (hO : ∀ j, O j ↔ BkO g v1 v2 j) (h : BkDid w B g v1 v2 D' r e w') : CbDid w B g O D' r e w' := by
  obtain ⟨h1, u1, u2, h2, h3, h4⟩ := h
  refine ⟨h1, BkO g u1 u2, ⟨u1, u2, h2, fun _ => Iff.rfl⟩, h3.mono (fun j _ e => (hO j).2 e), fun j hj => ?_⟩
  rcases h4 j hj with h5 | h5
  · exact .inl ((hO j).2 h5)
  · exact .inr h5
theorem cb_new (w : World) : Calls Try.prog 8 #[] w fun e w' => ∃ g O, e = .returned (.pointer (some ⟨g, 0, Option.none⟩)) ∧ CbAt w' w.heap.size g ([], []) O ∧ Below w.heap.size w w' :=
  (bnew_any w).mono fun _ _ ⟨h1, h2, h3⟩ => ⟨_, _, h1, ⟨_, _, h2, fun _ => Iff.rfl⟩, h3⟩
theorem cb_ins (h : CbAt w B g D O) (o : CO) : Calls Try.prog 9 #[.pointer (some ⟨g, 0, Option.none⟩), coV o] w (CbDid w B g O (insD D o) (.int .i64 (insE D o))) := by
  obtain ⟨v1, v2, h, hO⟩ := h
  exact (bins_any h o).mono fun _ _ => did_of hO
theorem cb_rem (h : CbAt w B g D O) (id : Int) : Calls Try.prog 12 #[.pointer (some ⟨g, 0, Option.none⟩), .int .i64 id] w (CbDid w B g O (remD D id) (.tuple #[coV (remO D id).1, .bool (remO D id).2])) := by
  obtain ⟨v1, v2, h, hO⟩ := h
  rw [rem_opt]
  exact (brem_any h id).mono fun _ _ => did_of hO
theorem cb_red (h : CbAt w B g D O) (id u : Int) : Calls Try.prog 14 #[.pointer (some ⟨g, 0, Option.none⟩), .int .i64 id, .int .i64 u] w (CbDid w B g O (redD D id u) (.tuple #[coV (redO D id u).1, .int .i64 (redO D id u).2])) := by
  obtain ⟨v1, v2, h, hO⟩ := h
  exact (bred_any h id u).mono fun _ _ => did_of hO
theorem cb_get (h : CbAt w B g D O) (id : Int) : Calls Try.prog 19 #[.pointer (some ⟨g, 0, Option.none⟩), .int .i64 id] w fun e w' => e = .returned (.tuple #[coV (remO D id).1, .bool (remO D id).2]) ∧ Below w.heap.size w w' := by
  obtain ⟨v1, v2, h, hO⟩ := h
  rw [rem_opt]
  exact bget_any h id
/-- What Row tells: a side's orders, in a row of their own. -/
def CbRow (w : World) (L : List CO) (e : Ending) (w' : World) : Prop := ∃ v, e = .returned v ∧ w'.ownsRow w.heap.size 31 5 v L.length (L.flatMap co1) ∧ Below w.heap.size w w'
theorem cb_row (h : CbAt w B g D O) (s : Int) : Calls Try.prog 26 #[.pointer (some ⟨g, 0, Option.none⟩), .int .i64 s] w (CbRow w (rowD s D)) := by
  obtain ⟨v1, v2, h, hO⟩ := h
  exact brow_any h s
theorem cb_front (h : CbAt w B g D O) (s : Int) : Calls Try.prog 17 #[.pointer (some ⟨g, 0, Option.none⟩), .int .i64 s] w fun e w' => e = .returned (.tuple #[coV ((rowD s D).headD zeroC), .bool (!(rowD s D).isEmpty)]) ∧ Below w.heap.size w w' := by
  obtain ⟨v1, v2, h, hO⟩ := h
  exact bfront_any h s
theorem cb_len (h : CbAt w B g D O) : Calls Try.prog 25 #[.pointer (some ⟨g, 0, Option.none⟩)] w fun e w' => e = .returned (.int .i64 ((D.1.length + D.2.length : Nat) : Int)) ∧ Below w.heap.size w w' := by
  obtain ⟨v1, v2, h, hO⟩ := h
  exact blen_any h
theorem cb_takes {o : CO} (hs : o.si = 1 ∨ o.si = 2) (net : Int) (w : World) : Calls Try.prog 23 #[coV o, .int .i64 net] w fun e w' => e = .returned (.bool (takesC o net)) ∧ Below w.heap.size w w' := btakes_any hs net w
theorem cb_ahead {a b : CO} (hs : a.si = 1 ∨ a.si = 2) (_hb : a.si = b.si) (w : World) : Calls Try.prog 21 #[coV a, coV b] w fun e w' => e = .returned (.bool (aheadC a b)) ∧ Below w.heap.size w w' := bahead_any hs w
end
end Go.Proofs.Ytekppjigckjgiaa
