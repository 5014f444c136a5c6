/- LifeOwners: the mathematics of its rounds, and what each call does. -/
import Derived.Test.YtfidihmiadjpjaaLifKnown
import Derived.Test.YtfidihmiadjpjaaOpenBls
set_option linter.unusedSimpArgs false
namespace Go.Proofs.Ytfidihmiadjpjaa
open Go.RowKit Go.Mem1 Go.LifMath

/-- An owner's order of three, filled or not. -/
def oneE (x : Nat) (d : Bool) : Ent := if d then ⟨3, 3, 0, 0, ((x % 4 : Nat) : Int), 1, 1⟩ else ⟨3, 0, 0, 3, ((x % 4 : Nat) : Int), 1, 1⟩
/-- Those of the first k. -/
def ents (l : List Nat) (f : Nat → Bool) : Nat → List Ent
  | 0 => []
  | k + 1 => ents l f k ++ [oneE (l[k]!) (f k)]
theorem ents_len (l : List Nat) (f : Nat → Bool) : ∀ k, (ents l f k).length = k
  | 0 => rfl
  | k + 1 => by simp [ents, ents_len l f k]
theorem ents_at {l : List Nat} {f : Nat → Bool} {i x : Nat} (hx : l[i]? = some x) : ∀ {k : Nat}, i < k → (ents l f k)[i]? = some (oneE x (f i))
  | 0, h => absurd h (Nat.not_lt_zero _)
  | k + 1, h => by
    unfold ents
    rcases Nat.lt_or_ge i k with h1 | h1
    · rw [List.getElem?_append_left (by rw [ents_len]; exact h1)]
      exact ents_at hx h1
    · obtain rfl : i = k := by omega
      rw [List.getElem?_append_right (by rw [ents_len]; exact Nat.le_refl _), ents_len, Nat.sub_self]
      simp [List.getElem!_eq_getElem?_getD, hx]
theorem open_one (o : Nat) (x : Nat) (d : Bool) : openE (o : Int) (oneE x d) = (decide (x % 4 = o) && !d) := by
  unfold openE oneE
  cases d
  · simp only [Bool.false_eq_true, if_false, Bool.not_false, Bool.and_true]
    by_cases h : x % 4 = o
    · subst h; simp
    · rw [decide_eq_false h]; simp; omega
  · simp
/-- What is ahead of a number that is told. -/
theorem opens_more (ow : Int) (l : List Ent) {i n : Nat} (h : i ≤ n) : ∃ t, opens ow l n = opens ow l i ++ t := by
  induction h with
  | refl => exact ⟨[], by simp⟩
  | step _ ih => obtain ⟨t, ht⟩ := ih; exact ⟨t ++ _, by rw [opens, ht, List.append_assoc]⟩
theorem opens_at {ow : Int} {l : List Ent} {i n : Nat} {e : Ent} (h : l[i]? = some e) (ho : openE ow e = true) (hi : i < n) : (opens ow l n)[(opens ow l i).length]? = some ((i : Int) + 1) := by
  obtain ⟨t, ht⟩ := opens_more ow l (show i + 1 ≤ n from hi)
  rw [ht, opens_take h ho, List.append_assoc, List.getElem?_append_right (Nat.le_refl _), Nat.sub_self]
  rfl
def OJ (w0 : World) (B g : Nat) (l : List Nat) (f : Nat → Bool) (k : Nat) (w : World) : Prop := Lv w0 B g (ents l f k) w
def OJ1 (w0 : World) (B g : Nat) (l : List Nat) (f : Nat → Bool) (k x : Nat) (w : World) : Prop := Lv w0 B g (ents l f k ++ [oneE x false]) w
section
variable {w0 w : World} {B g k x : Nat} {l : List Nat} {f : Nat → Bool}
theorem OJ.enter (h : OJ w0 B g l f k w) (hk : k < 200) : Calls Try.prog 8 #[.pointer (some ⟨g, 0, none⟩), .int .i64 ((x : Int) % 4), .int .i64 1, .int .i64 1, .int .i64 3] w fun e w' => e = .returned (.tuple #[.int .i64 ((k : Int) + 1), .int .i64 0]) ∧ OJ1 w0 B g l f k x w' := by
  have := Lv.enter (show Lv w0 B g (ents l f k) w from h) (ow := (x : Int) % 4) (se := 1) (si := 1) (q := 3) (by omega) (by rw [ents_len]; exact hk)
  rw [ents_len] at this
  refine this.mono fun e w' ⟨a, b⟩ => ⟨a, ?_⟩
  have e1 : newE ((x : Int) % 4) 1 1 3 = oneE x false := by simp [newE, oneE]
  rw [e1] at b
  exact b
theorem OJ1.skip (h : OJ1 w0 B g l f k x w) (hx : l[k]? = some x) (hf : f k = false) : OJ w0 B g l f (k + 1) w := by
  unfold OJ ents
  rw [hf, show l[k]! = x by simp [List.getElem!_eq_getElem?_getD, hx]]
  exact h
theorem OJ1.fill (h : OJ1 w0 B g l f k x w) (hx : l[k]? = some x) (hf : f k = true) : Calls Try.prog 9 #[.pointer (some ⟨g, 0, none⟩), .int .i64 ((k : Int) + 1), .int .i64 3] w fun e w' => e = .returned (.int .i64 0) ∧ OJ w0 B g l f (k + 1) w' := by
  have := Lv.fill (show Lv w0 B g (ents l f k ++ [oneE x false]) w from h) (k := k) (e := oneE x false) (q := 3) (by rw [List.getElem?_append_right (by rw [ents_len]; exact Nat.le_refl _), ents_len, Nat.sub_self]; rfl) (by omega) (by simp [oneE])
  refine this.mono fun e w' ⟨a, b⟩ => ⟨a, ?_⟩
  unfold OJ ents
  rw [hf, show l[k]! = x by simp [List.getElem!_eq_getElem?_getD, hx]]
  have e1 : (ents l f k ++ [oneE x false]).set k (fillE 3 (oneE x false)) = ents l f k ++ [oneE x true] := by
    rw [List.set_append_right _ _ (by rw [ents_len]; exact Nat.le_refl _), ents_len, Nat.sub_self]
    simp [fillE, oneE]
  rw [e1] at b
  exact b
end
/-- A row of numbers in hand. -/
structure RowV (w0 : World) (B g : Nat) (L : List Ent) (v : Value) (R : List Int) (w : World) : Prop where
  lv : Lv w0 B g L w
  row : ∃ base, w.ownsRow base 2 1 v R.length (nums R)
theorem RowV.at_ {w0 w : World} {B g : Nat} {L : List Ent} {v : Value} {R : List Int} (h : RowV w0 B g L v R w) {k : Nat} {x : Int} (hx : R[k]? = some x) : ∃ b c, v = .slice (some ⟨b, 0, none⟩) R.length c ∧ k < R.length ∧ w.cell? ⟨b, k, none⟩ = some (.int .i64 x) := by
  obtain ⟨base, ho⟩ := h.row
  have hl := at_lt hx
  rcases own_form ho with ⟨_, h0⟩ | ⟨b, c, hv, _, hlt, _⟩
  · omega
  · subst hv
    exact ⟨b, c, rfl, hl, own_cell ho (by simp [nums, hx])⟩
end Go.Proofs.Ytfidihmiadjpjaa
