/- Orders, in plain mathematics: what may not be about one, what it takes, who is ahead, its text. -/
import Derived.ProofKit
namespace Go.OrdMath
structure Ord where
  id : Int
  own : Int
  sd : Int
  pr : Int
  q : Int
  cu : Bool
  lf : Int
def oppI (s : Int) : Int := if s = 1 then 2 else if s = 2 then 1 else 0
def takesB (o : Ord) (p : Int) : Bool := if o.sd = 1 then decide (p ≤ o.pr) else if o.sd = 2 then decide (o.pr ≤ p) else false
def aheadB (a b : Ord) : Bool := if a.pr = b.pr then (if a.cu = b.cu then decide (a.id < b.id) else a.cu) else (decide (b.pr < a.pr) == decide (a.sd = 1))
/-- What may not be: its place in the order, and the Errno; 'on': does the price lie on the grid? -/
def chkO (o : Ord) (on : Bool) : Option (Nat × Nat) :=
  if o.id < 1 then some (0, 1) else
  if ¬ (0 ≤ o.own ∧ o.own ≤ 64) then some (1, 1) else
  if o.sd ≠ 1 ∧ o.sd ≠ 2 then some (2, 1) else
  if ¬ (1 ≤ o.pr ∧ o.pr ≤ 1000000) then some (3, 1) else
  if on = false then some (3, 10) else
  if ¬ (1 ≤ o.q ∧ o.q ≤ 1000000) then some (4, 1) else
  if ¬ (1 ≤ o.lf ∧ o.lf ≤ 4) then some (6, 1) else none
theorem chkO_bd {o : Ord} {on : Bool} {k x : Nat} (h : chkO o on = some (k, x)) : k ≤ 6 ∧ (x = 1 ∨ x = 10) := by
  unfold chkO at h
  repeat' split at h
  all_goals first | (cases h; omega) | cases h
def sideS (s : Int) : ByteArray := if s = 1 then ⟨#[66]⟩ else if s = 2 then ⟨#[83]⟩ else ⟨#[45]⟩
def lifeS (l : Int) : ByteArray := if l = 1 then ⟨#[100, 97, 121]⟩ else if l = 2 then ⟨#[105, 111, 99]⟩ else if l = 3 then ⟨#[102, 111, 107]⟩ else if l = 4 then ⟨#[112, 111, 115, 116]⟩ else ⟨#[45]⟩
theorem sideS_size (s : Int) : (sideS s).size = 1 := by unfold sideS; (repeat' split) <;> rfl
theorem lifeS_size (l : Int) : (lifeS l).size ≤ 4 := by unfold lifeS; (repeat' split) <;> decide
/-- The text of an order. -/
def bl : ByteArray := ⟨#[32]⟩
def textO (tx : Int → ByteArray) (o : Ord) : ByteArray :=
  tx o.id ++ bl ++ tx o.own ++ bl ++ sideS o.sd ++ bl ++ tx o.q ++ ⟨#[64]⟩ ++ tx o.pr ++ bl ++ lifeS o.lf ++ (if o.cu then ⟨#[32, 99]⟩ else ⟨#[]⟩)
/-- One order of a side at most stands ahead, just one if their numbers are unlike; three stand in one order. -/
theorem ahead_two (a b : Ord) (h : a.sd = b.sd) : ¬ (aheadB a b = true ∧ aheadB b a = true) ∧ (aheadB a b = true ∨ aheadB b a = true ∨ a.id = b.id) := by
  obtain ⟨i, w, s, p, q, c, l⟩ := a
  obtain ⟨i', w', s', p', q', c', l'⟩ := b
  simp only at h
  subst h
  unfold aheadB
  dsimp only
  rcases Int.lt_trichotomy p p' with e | e | e
  · rw [if_neg (by omega), if_neg (by omega), decide_eq_false (by omega : ¬ p' < p), decide_eq_true e]
    by_cases hs : s = 1
    · simp [hs]
    · simp [hs]
  · subst e
    rw [if_pos rfl, if_pos rfl]
    cases c <;> cases c' <;> simp <;> omega
  · rw [if_neg (by omega), if_neg (by omega), decide_eq_true e, decide_eq_false (by omega : ¬ p < p')]
    by_cases hs : s = 1
    · simp [hs]
    · simp [hs]
theorem ahead_three (a b c : Ord) (h1 : a.sd = b.sd) (h2 : b.sd = c.sd) (x : aheadB a b = true) (y : aheadB b c = true) : aheadB a c = true := by
  obtain ⟨i, w, s, p, q, u, l⟩ := a
  obtain ⟨i', w', s', p', q', u', l'⟩ := b
  obtain ⟨i2, w2, s2, p2, q2, u2, l2⟩ := c
  simp only at h1 h2
  subst h1; subst h2
  unfold aheadB at *
  dsimp only at *
  by_cases hs : s = 1
  · subst hs
    by_cases e1 : p = p'
    · subst e1
      rw [if_pos rfl] at x
      by_cases e2 : p = p2
      · subst e2
        rw [if_pos rfl] at y ⊢
        cases u <;> cases u' <;> cases u2 <;> simp_all <;> omega
      · rw [if_neg e2] at y ⊢; exact y
    · rw [if_neg e1] at x
      by_cases e2 : p' = p2
      · subst e2; rw [if_neg e1]; exact x
      · rw [if_neg e2] at y
        simp at x y
        rw [if_neg (by omega)]
        simp; omega
  · by_cases e1 : p = p'
    · subst e1
      rw [if_pos rfl] at x
      by_cases e2 : p = p2
      · subst e2
        rw [if_pos rfl] at y ⊢
        cases u <;> cases u' <;> cases u2 <;> simp_all <;> omega
      · rw [if_neg e2] at y ⊢; exact y
    · rw [if_neg e1] at x
      by_cases e2 : p' = p2
      · subst e2; rw [if_neg e1]; exact x
      · rw [if_neg e2] at y
        simp [hs] at x y
        rw [if_neg (by omega)]
        simp [hs]; omega
theorem takes_two (a b : Ord) (ha : a.sd = 1) (hb : b.sd = 2) : takesB a b.pr = decide (b.pr ≤ a.pr) ∧ takesB b a.pr = takesB a b.pr := by
  unfold takesB
  rw [ha, hb]
  simp
end Go.OrdMath
