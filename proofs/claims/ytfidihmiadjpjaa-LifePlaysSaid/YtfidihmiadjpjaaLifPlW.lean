/- LifePlays: what is asked at the end. -/
import Derived.Test.YtfidihmiadjpjaaLifPlM
import Derived.Test.YtfidihmiadjpjaaLifRead
set_option linter.unusedSimpArgs false
namespace Go.Proofs.Ytfidihmiadjpjaa
open Go.RowKit Go.Mem1 Go.LifMath

/-- The ledger, and two rows of the same numbers. -/
structure UJ (w0 : World) (g : Nat) (L : List Ent) (b3 b5 : Nat) (v3 v5 : Value) (R : List Int) (q : Nat) (w : World) : Prop where
  led : ∃ vE, Led w g g vE L
  bel : Below g w0 w
  row3 : w.ownsRow b3 2 1 v3 q (nums R)
  row5 : w.ownsRow b5 2 1 v5 q (nums R)
  len : R.length = q
section
variable {w0 w w' : World} {g : Nat} {L : List Ent} {b3 b5 : Nat} {v3 v5 : Value} {R : List Int} {q : Nat}
theorem UJ.carry (h : UJ w0 g L b3 b5 v3 v5 R q w) (hb : Below w.heap.size w w') : UJ w0 g L b3 b5 v3 v5 R q w' := by
  obtain ⟨⟨vE, h1⟩, h2, h3, h4, h5⟩ := h
  exact ⟨⟨vE, h1.carry hb⟩, h2.trans (hb.mono (Nat.le_of_lt h1.at_.base)), own_keep h3 hb, own_keep h4 hb, h5⟩
theorem UJ.sum (h : UJ w0 g L b3 b5 v3 v5 R q w) (se si : Int) : Calls Try.prog 13 #[.pointer (some ⟨g, 0, none⟩), .int .i64 se, .int .i64 si] w fun e w' => e = .returned (.int .i64 (sumE se si L L.length)) ∧ UJ w0 g L b3 b5 v3 v5 R q w' := by
  obtain ⟨vE, h1⟩ := h.led
  exact (sum_any h1 se si).mono fun _ _ ⟨he, hb⟩ => ⟨he, h.carry hb⟩
theorem UJ.fair (h : UJ w0 g L b3 b5 v3 v5 R q w) : Calls Try.prog 15 #[.pointer (some ⟨g, 0, none⟩)] w fun e w' => e = .returned (.bool true) ∧ UJ w0 g L b3 b5 v3 v5 R q w' := by
  obtain ⟨vE, h1⟩ := h.led
  exact (fair_any h1).mono fun _ _ ⟨he, hb⟩ => ⟨he, h.carry hb⟩
theorem UJ.size (h : UJ w0 g L b3 b5 v3 v5 R q w) : Calls Try.prog 14 #[.pointer (some ⟨g, 0, none⟩)] w fun e w' => e = .returned (.int .i64 L.length) ∧ w = w' := by
  obtain ⟨vE, h1⟩ := h.led
  exact len_any h1.at_
theorem UJ.past (h : UJ w0 g L b3 b5 v3 v5 R q w) {n : Nat} (hn : L.length = n) : Calls Try.prog 11 #[.pointer (some ⟨g, 0, none⟩), .int .i64 ((n : Int) + 1)] w (Got w ⟨0, 0, 0, 0, 0, 0, 0⟩ false) := by
  obtain ⟨vE, h1⟩ := h.led
  exact get_bad h1.at_ (by unfold hasB; rw [hn]; simp; omega)
theorem UJ.get (h : UJ w0 g L b3 b5 v3 v5 R q w) {A3 A5 : Option Addr} {c3 c5 : Nat} (e3 : v3 = .slice A3 q c3) (e5 : v5 = .slice A5 q c5) {j : Nat} (hj : j < q) : ∃ x p3 p5, A3 = some ⟨p3, 0, none⟩ ∧ A5 = some ⟨p5, 0, none⟩ ∧ w.cell? ⟨p3, j, none⟩ = some (.int .i64 x) ∧ w.cell? ⟨p5, j, none⟩ = some (.int .i64 x) := by
  subst e3; subst e5
  obtain ⟨x, hx⟩ : ∃ x, R[j]? = some x := ⟨_, List.getElem?_eq_getElem (by rw [h.len]; exact hj)⟩
  have hn : (nums R)[j]? = some (.int .i64 x) := by unfold nums; rw [List.getElem?_map, hx]; rfl
  rcases own_form h.row3 with ⟨_, e⟩ | ⟨p3, d3, e3, _⟩
  · omega
  rcases own_form h.row5 with ⟨_, e⟩ | ⟨p5, d5, e5, _⟩
  · omega
  injection e3 with e3 _ _
  injection e5 with e5 _ _
  subst e3; subst e5
  exact ⟨x, p3, p5, rfl, rfl, own_cell h.row3 hn, own_cell h.row5 hn⟩
theorem PlE.asked {B : Nat} {vM : Value} {wA : World} (h : PlE w0 g g vM L L wA) {ow : Int} {k q : Nat} {v5 : Value} (hk : L.length = k) (hq : (opens ow L k).length = q) (hO : wA.ownsRow B 2 1 v5 q (nums (opens ow L k))) :
    Calls Try.prog 12 #[.pointer (some ⟨g, 0, none⟩), .int .i64 ow] wA fun e w' => ∃ A c, e = .returned (.slice A q c) ∧ UJ w0 g L wA.heap.size B (.slice A q c) v5 (opens ow L k) q w' := by
  obtain ⟨vE, h1, _⟩ := h.led
  refine (open_any h1 ow).mono ?_
  rintro _ w3 ⟨⟨A, c, rfl, hrow⟩, hb⟩
  rw [hk, hq] at hrow ⊢
  exact ⟨A, c, rfl, ⟨vE, h1.carry hb⟩, h.bel.trans (hb.mono (Nat.le_of_lt h1.at_.base)), hrow, own_keep hO hb, hq⟩
end
end Go.Proofs.Ytfidihmiadjpjaa
