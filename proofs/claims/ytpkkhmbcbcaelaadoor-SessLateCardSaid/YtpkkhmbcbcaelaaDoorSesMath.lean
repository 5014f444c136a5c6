/- Sessions in plain words: who is on, whose turn it is, who is late. No names of a seat but the import. -/
import Derived.Test.YtpkkhmbcbcaelaaDoorKit
set_option linter.unusedSimpArgs false
namespace Go.SesMath

/-- A session: whether it is on, the turn that is next in, the last one out, when it lived last. -/
structure Se where
  on : Bool
  nx : Int
  out : Int
  last : Int
abbrev Sk := Int → Se
def newS : Sk := fun _ => ⟨false, 1, 0, 0⟩
/-- Is there such a session? -/
def isS (s : Int) : Bool := decide (1 ≤ s) && decide (s ≤ 64)
/-- In: what is wrong. -/
def inE (D : Sk) (s k q : Int) : Nat := if isS s = false then 1 else if (D s).on = decide (k = 1) then 7 else if q ≠ (D s).nx then 13 else 0
/-- In: what is so then. -/
def inD (D : Sk) (s k now : Int) : Sk := fun j => if j = s then ⟨decide (k ≠ 3), (D s).nx + 1, (D s).out, if k = 3 then (D s).last else now⟩ else D j
def outD (D : Sk) (s : Int) : Sk := fun j => if j = s then ⟨(D s).on, (D s).nx, (D s).out + 1, (D s).last⟩ else D j
def ids : List Int := (List.range 64).map fun (j : Nat) => (j : Int) + 1
def tooLate (T now : Int) (x : Se) : Bool := x.on && decide (x.last ≤ now - T)
def lateL (D : Sk) (T now : Int) : List Int := ids.filter fun s => tooLate T now (D s)
def lateD (D : Sk) (T now : Int) : Sk := fun j => if tooLate T now (D j) then ⟨false, (D j).nx, (D j).out, (D j).last⟩ else D j
def liveL (D : Sk) : List Int := ids.filter fun s => (D s).on
def nextD (D : Sk) (s : Int) : Int := if isS s then (D s).nx else 0
def onD (D : Sk) (s : Int) : Bool := isS s && (D s).on
/-- Numbers that wrap nowhere. -/
structure Mild (n : Int) (D : Sk) : Prop where
  nx : ∀ s, 1 ≤ (D s).nx ∧ (D s).nx ≤ n + 1
  out : ∀ s, 0 ≤ (D s).out ∧ (D s).out ≤ n
  last : ∀ s, 0 ≤ (D s).last ∧ (D s).last ≤ 1099511627776
theorem mild_new : Mild 0 newS := by
  refine ⟨fun s => ?_, fun s => ?_, fun s => ?_⟩ <;> unfold newS <;> dsimp only <;> omega
theorem Mild.more {n m : Int} {D : Sk} (h : Mild n D) (hm : n ≤ m) : Mild m D :=
  ⟨fun s => ⟨(h.nx s).1, by have := (h.nx s).2; omega⟩, fun s => ⟨(h.out s).1, by have := (h.out s).2; omega⟩, h.last⟩
theorem Mild.in_ {n : Int} {D : Sk} (h : Mild n D) (s k : Int) {now : Int} (h0 : 0 ≤ now) (h1 : now ≤ 1099511627776) : Mild (n + 1) (inD D s k now) := by
  refine ⟨fun j => ?_, fun j => ?_, fun j => ?_⟩ <;> unfold inD <;> split
  · have := h.nx s; dsimp only; omega
  · have := h.nx j; omega
  · have := h.out s; dsimp only; omega
  · have := h.out j; omega
  · dsimp only; split
    · exact h.last s
    · omega
  · exact h.last j
theorem Mild.out_ {n : Int} {D : Sk} (h : Mild n D) (s : Int) : Mild (n + 1) (outD D s) := by
  refine ⟨fun j => ?_, fun j => ?_, fun j => ?_⟩ <;> unfold outD <;> split
  · have := h.nx s; dsimp only; omega
  · have := h.nx j; omega
  · have := h.out s; dsimp only; omega
  · have := h.out j; omega
  · exact h.last s
  · exact h.last j
theorem Mild.late {n : Int} {D : Sk} (h : Mild n D) (T now : Int) : Mild n (lateD D T now) := by
  refine ⟨fun j => ?_, fun j => ?_, fun j => ?_⟩ <;> unfold lateD <;> split
  · exact h.nx j
  · exact h.nx j
  · exact h.out j
  · exact h.out j
  · exact h.last j
  · exact h.last j
theorem ids_map {β : Type} (f : Int → β) : ids.map f = (List.range 64).map fun (j : Nat) => f ((j : Int) + 1) := by
  unfold ids
  rw [List.map_map]
  rfl
/-- Of ids those that are one number. -/
theorem ids_one {s : Int} (h : isS s = true) : ids.filter (fun j => decide (j = s)) = [s] := by
  unfold isS at h
  have h' : 1 ≤ s ∧ s ≤ 64 := by simpa using h
  obtain ⟨k, hk⟩ : ∃ k : Nat, s = ((k : Int) + 1) := ⟨(s - 1).toNat, by omega⟩
  subst hk
  have : ∀ k : Nat, k < 64 → ids.filter (fun j => decide (j = ((k : Int) + 1))) = [((k : Int) + 1)] := by decide +kernel
  exact this k (by omega)
theorem ids_none : ids.filter (fun _ => false) = [] := by
  rw [List.filter_eq_nil_iff]
  intro a _ h
  cases h

-- a session's own turns (SessTurns)
/-- Session 7 alone, on, with the turn i next. -/
def turnD (i : Int) : Sk := fun j => if j = 7 then ⟨true, i, 0, 0⟩ else ⟨false, 1, 0, 0⟩
theorem turn_first : inD newS 7 1 0 = turnD 2 := by
  funext j
  unfold inD turnD newS
  split <;> rfl
theorem turn_next (i : Int) : inD (turnD i) 7 2 0 = turnD (i + 1) := by
  funext j
  unfold inD turnD
  split <;> simp
theorem turn_bad {i o : Int} (h : o ≠ i) : inE (turnD i) 7 2 o = 13 := by
  unfold inE turnD isS
  simp [h]
theorem turn_ok (i : Int) : inE (turnD i) 7 2 i = 0 := by
  unfold inE turnD isS
  simp
theorem turn_mild {i : Int} (h0 : 1 ≤ i) (h1 : i ≤ 100) : Mild 100 (turnD i) := by
  refine ⟨fun s => ?_, fun s => ?_, fun s => ?_⟩ <;> unfold turnD <;> split <;> (dsimp only; omega)
theorem turn_nx (i : Int) : nextD (turnD i) 7 = i := by
  unfold nextD turnD isS
  simp
theorem turn_on (i : Int) : onD (turnD i) 7 = true := by
  unfold onD turnD isS
  simp

-- who is late (SessLate)
/-- Two sessions that are on: the one lived last at 50, the other, after its beat, at a. -/
def two (a : Int) : Sk := fun j => if j = 1 then ⟨true, 2, 0, 50⟩ else if j = 2 then ⟨true, 3, 0, a⟩ else ⟨false, 1, 0, 0⟩
def twoB : Sk := fun j => if j = 1 then ⟨true, 2, 0, 50⟩ else if j = 2 then ⟨true, 2, 0, 50⟩ else ⟨false, 1, 0, 0⟩
def oneA : Sk := fun j => if j = 1 then ⟨true, 2, 0, 50⟩ else ⟨false, 1, 0, 0⟩
theorem late1 : inD newS 1 1 50 = oneA := by
  funext j
  unfold inD oneA newS
  split <;> rfl
theorem late2 : inD oneA 2 1 50 = twoB := by
  funext j
  unfold inD oneA twoB
  by_cases h : j = 2
  · subst h; simp
  · rw [if_neg h]
    by_cases h1 : j = 1
    · simp [h1]
    · simp [h, h1]
theorem late3 (a : Int) : inD twoB 2 2 a = two a := by
  funext j
  unfold inD twoB two
  by_cases h : j = 2
  · subst h; simp
  · rw [if_neg h]
    by_cases h1 : j = 1
    · simp [h1]
    · simp [h, h1]
theorem two_late {t x : Int} (ht : 1 ≤ t) (hx : t ≤ x) : (fun s => tooLate t (50 + x) (two (50 + x) s)) = fun s => decide (s = 1) := by
  funext s
  unfold tooLate two
  by_cases h1 : s = 1
  · subst h1; simp; omega
  · rw [if_neg h1]
    by_cases h2 : s = 2
    · subst h2; simp; omega
    · simp [h1, h2]
theorem two_not {t x : Int} (ht : 1 ≤ t) (hx : x < t) : (fun s => tooLate t (50 + x) (two (50 + x) s)) = fun _ => false := by
  funext s
  unfold tooLate two
  by_cases h1 : s = 1
  · subst h1; simp; omega
  · rw [if_neg h1]
    by_cases h2 : s = 2
    · subst h2; simp; omega
    · simp [h2]
theorem two_lateL {t x : Int} (ht : 1 ≤ t) (hx : t ≤ x) : lateL (two (50 + x)) t (50 + x) = [1] := by
  unfold lateL
  rw [two_late ht hx]
  exact ids_one (by decide)
theorem two_notL {t x : Int} (ht : 1 ≤ t) (hx : x < t) : lateL (two (50 + x)) t (50 + x) = [] := by
  unfold lateL
  rw [two_not ht hx]
  exact ids_none
theorem two_on1 {t x : Int} (ht : 1 ≤ t) : onD (lateD (two (50 + x)) t (50 + x)) 1 = !decide (t ≤ x) := by
  unfold onD lateD isS
  by_cases hx : t ≤ x
  · have := congrFun (two_late ht hx) 1
    rw [this]
    simp [hx]
  · have := congrFun (two_not ht (by omega : x < t)) 1
    rw [this]
    simp [hx, two]
theorem two_on2 {t x : Int} (ht : 1 ≤ t) : onD (lateD (two (50 + x)) t (50 + x)) 2 = true := by
  unfold onD lateD isS
  have : tooLate t (50 + x) (two (50 + x) 2) = false := by
    by_cases hx : t ≤ x
    · exact congrFun (two_late ht hx) 2
    · exact congrFun (two_not ht (by omega : x < t)) 2
  rw [this]
  simp [two]

-- each session's own turns (SessApart)
def seOf (c : Nat) : Se := ⟨decide (0 < c), (c : Int) + 1, (c : Int), 0⟩
def dOf (C : List Nat) : Sk := fun j => seOf (C.getD j.toNat 0)
theorem dOf_new : dOf (List.replicate 65 0) = newS := by
  funext j
  unfold dOf newS
  rw [List.getD_eq_getElem?_getD, List.getElem?_replicate]
  split <;> rfl
theorem dOf_step {C : List Nat} (hl : C.length = 65) {s : Nat} (h1 : 1 ≤ s) (h2 : s ≤ 64) {k : Int} (hk : k ≠ 3) : outD (inD (dOf C) (s : Int) k 0) (s : Int) = dOf (C.set s (C.getD s 0 + 1)) := by
  funext j
  unfold outD
  by_cases hj : j = (s : Int)
  · subst hj
    rw [if_pos rfl]
    unfold inD dOf
    simp only [if_pos, Int.toNat_natCast]
    rw [List.getD_eq_getElem?_getD (l := C.set s _), List.getElem?_set_self (by omega)]
    simp only [Option.getD_some]
    unfold seOf
    simp [hk]
  · rw [if_neg hj]
    unfold inD
    rw [if_neg hj]
    unfold dOf
    have : s ≠ j.toNat := by omega
    rw [List.getD_eq_getElem?_getD, List.getD_eq_getElem?_getD, List.getElem?_set_ne this]
theorem dOf_in {C : List Nat} {s : Nat} (h1 : 1 ≤ s) (h2 : s ≤ 64) {c : Nat} (hc : C.getD s 0 = c) : inE (dOf C) (s : Int) (if c = 0 then 1 else 2) ((c : Int) + 1) = 0 := by
  unfold inE dOf isS
  have a : decide ((1 : Int) ≤ (s : Int)) = true := by simp; omega
  have b : decide ((s : Int) ≤ 64) = true := by simp; omega
  rw [a, b]
  simp only [Int.toNat_natCast, hc]
  unfold seOf
  by_cases h0 : c = 0
  · subst h0; simp
  · rw [if_neg h0]; simp; omega
theorem dOf_mild {C : List Nat} {n : Nat} (h : ∀ s, C.getD s 0 ≤ n) : Mild (n : Int) (dOf C) := by
  refine ⟨fun s => ?_, fun s => ?_, fun s => ?_⟩ <;> unfold dOf seOf <;> dsimp only <;> have := h s.toNat <;> omega
theorem dOf_next {C : List Nat} {s : Nat} (h1 : 1 ≤ s) (h2 : s ≤ 64) : nextD (dOf C) (s : Int) = (C.getD s 0 : Int) + 1 := by
  unfold nextD isS
  rw [if_pos (by simp; omega)]
  unfold dOf seOf
  simp
theorem dOf_on {C : List Nat} {s : Nat} (h1 : 1 ≤ s) (h2 : s ≤ 64) : onD (dOf C) (s : Int) = decide (0 < C.getD s 0) := by
  unfold onD isS dOf seOf
  have a : decide ((1 : Int) ≤ (s : Int)) = true := by simp; omega
  have b : decide ((s : Int) ≤ 64) = true := by simp; omega
  rw [a, b]
  simp
theorem dOf_out {C : List Nat} {s : Nat} {k now : Int} : ((inD (dOf C) (s : Int) k now) (s : Int)).out = (C.getD s 0 : Int) := by
  unfold inD dOf seOf
  simp
end Go.SesMath
