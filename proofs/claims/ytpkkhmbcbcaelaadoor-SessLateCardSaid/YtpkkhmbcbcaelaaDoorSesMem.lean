/- A desk of sessions in memory (the landed one's own layout): its block. -/
import Derived.Test.YtpkkhmbcbcaelaaDoorRows
import Derived.WalkKit
import Derived.WalkSpells
import Derived.WalkLawsBesides
import Derived.Handy
import Derived.Lib.Hide
import Derived.Test.YtpkkhmbcbcaelaaDoorKit
import Derived.Test.YtpkkhmbcbcaelaaDoorSesMath
import Derived.Test.YtpkkhmbcbcaelaaDoorIsErr
set_option linter.unusedSimpArgs false
namespace Go.Proofs.YtpkkhmbcbcaelaaDoor
open Go.RowKit Go.Mem1 Go.SesMath

/-- A session as it lies. -/
def seC (x : Se) : List Value := [.bool x.on, .int .i64 x.last, .int .i64 (x.nx - 1), .int .i64 x.out]
/-- A desk as it lies. -/
def deskC (T : Int) (D : Sk) : Array Value := (Value.int .i64 T :: (ids.map D).flatMap seC).toArray
/-- One session turned. -/
def updS (D : Sk) (s : Int) (y : Se) : Sk := fun j => if j = s then y else D j
theorem seC_len (x : Se) : (seC x).length = 4 := rfl
theorem ids_len : ids.length = 64 := by unfold ids; rw [List.length_map, List.length_range]
theorem ids_at {k : Nat} (hk : k < 64) : ids[k]? = some ((k : Int) + 1) := by
  unfold ids
  rw [List.getElem?_map, List.getElem?_range hk]
  rfl
theorem ids_upd (D : Sk) {k : Nat} (hk : k < 64) (y : Se) : (ids.map D).set k y = ids.map (updS D ((k : Int) + 1) y) := by
  apply List.ext_getElem?
  intro j
  rw [List.getElem?_set, List.getElem?_map, List.getElem?_map, List.length_map, ids_len]
  by_cases h : k = j
  · subst h
    rw [if_pos rfl, if_pos hk, ids_at hk]
    simp [updS]
  · rw [if_neg h]
    rcases Nat.lt_or_ge j 64 with hj | hj
    · rw [ids_at hj]
      have : (j : Int) + 1 ≠ (k : Int) + 1 := by omega
      simp [updS, this]
    · rw [List.getElem?_eq_none (by rw [ids_len]; exact hj)]
      rfl
/-- A session's cell. -/
theorem desk_cell (T : Int) (D : Sk) {k : Nat} (hk : k < 64) {i : Nat} {u : Value} (hu : (seC (D ((k : Int) + 1)))[i]? = some u) : (deskC T D)[1 + k * 4 + i]? = some u := by
  have := flat_at (m := 4) (f := seC) (fun _ => rfl) (l := ids.map D) (k := k) (by rw [List.getElem?_map, ids_at hk]; rfl) hu
  unfold deskC
  rw [List.getElem?_toArray, show 1 + k * 4 + i = (k * 4 + i) + 1 by omega, List.getElem?_cons_succ]
  exact this
theorem desk_set (T : Int) (D : Sk) {k : Nat} (hk : k < 64) {i : Nat} (hi : i < 4) {u : Value} {y : Se} (hy : seC y = (seC (D ((k : Int) + 1))).set i u) : (deskC T D).setIfInBounds (1 + k * 4 + i) u = deskC T (updS D ((k : Int) + 1) y) := by
  unfold deskC
  rw [List.setIfInBounds_toArray, show 1 + k * 4 + i = (k * 4 + i) + 1 by omega, List.set_cons_succ, flat_set (m := 4) (f := seC) (fun _ => rfl) (l := ids.map D) (k := k) (x := D ((k : Int) + 1)) (y := y) (by rw [List.getElem?_map, ids_at hk]; rfl) hi hy, ids_upd D hk]
/-- A desk in memory: from block B on, at g, in the blocks O. -/
def SdAt (w : World) (B g : Nat) (T : Int) (D : Sk) (O : Nat → Prop) : Prop :=
  Box w g 62 (deskC T D) ∧ B ≤ g ∧ (∀ j, O j ↔ j = g) ∧ 1 ≤ T ∧ T ≤ 1000000
section
variable {w w' : World} {B g : Nat} {T : Int} {D : Sk} {O : Nat → Prop}
theorem SdAt.own (h : SdAt w B g T D O) : ∀ j, O j → B ≤ j ∧ j < w.heap.size := by
  obtain ⟨h1, h2, h3, _⟩ := h
  intro j hj
  rw [(h3 j).1 hj]
  exact ⟨h2, h1.there⟩
theorem SdAt.base (h : SdAt w B g T D O) : B < w.heap.size := by
  obtain ⟨h1, h2, h3, _⟩ := h
  exact Nat.lt_of_le_of_lt h2 h1.there
theorem SdAt.kept (h : SdAt w B g T D O) {S : Nat → Prop} (hc : Chg S w w') (hS : ∀ j, O j → ¬ S j) : SdAt w' B g T D O := by
  obtain ⟨h1, h2, h3, h4⟩ := h
  exact ⟨h1.kept hc (hS g ((h3 g).2 rfl)), h2, h3, h4⟩
theorem SdAt.cell (h : SdAt w B g T D O) {k : Nat} (hk : k < 64) {i : Nat} {u : Value} (hu : (seC (D ((k : Int) + 1)))[i]? = some u) : w.cell? ⟨g, 1 + k * 4 + i, none⟩ = some u :=
  (h.1.reads _).trans (desk_cell T D hk hu)
theorem SdAt.cell0 (h : SdAt w B g T D O) {k : Nat} (hk : k < 64) : w.cell? ⟨g, 1 + k * 4, none⟩ = some (.bool (D ((k : Int) + 1)).on) := h.cell hk (i := 0) rfl
theorem SdAt.top (h : SdAt w B g T D O) : w.cell? ⟨g, 0, none⟩ = some (.int .i64 T) := h.1.reads 0
theorem SdAt.unmarked (h : SdAt w B g T D O) (i : Nat) : w.frozen? ⟨g, i, none⟩ = false := h.1.unmarked i
/-- One cell turned. -/
theorem SdAt.wrote (h : SdAt w B g T D O) {k : Nat} (hk : k < 64) (i : Nat) (hi : i < 4) (u : Value) {y : Se} (hy : seC y = (seC (D ((k : Int) + 1))).set i u) : SdAt (w.setCell ⟨g, 1 + k * 4 + i, none⟩ u) B g T (updS D ((k : Int) + 1) y) O := by
  obtain ⟨h1, h2, h3, h4⟩ := h
  have := h1.wrote (1 + k * 4 + i) u
  rw [desk_set T D hk hi hy] at this
  exact ⟨this, h2, h3, h4⟩
theorem SdAt.turned (h : SdAt w B g T D O) (p : Nat) (u : Value) : Chg O w (w.setCell ⟨g, p, none⟩ u) :=
  Chg.setCell (S := O) (Chg.refl _ _) (p := ⟨g, p, none⟩) (fun _ => (h.2.2.1 g).2 rfl) _
theorem SdAt.carry (h : SdAt w B g T D O) (hb : Below w.heap.size w w') : SdAt w' B g T D O := h.kept (Chg.of_below hb (fun _ => False)) (fun _ _ e => e)
end
end Go.Proofs.YtpkkhmbcbcaelaaDoor
