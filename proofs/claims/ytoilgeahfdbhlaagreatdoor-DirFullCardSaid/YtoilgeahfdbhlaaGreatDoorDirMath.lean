/- A directory in plain mathematics: series, their order, what may be put in, days. -/
import Derived.Test.YtoilgeahfdbhlaaGreatDoorGrdMath
import Derived.Sort.Statements
import Derived.Sort.Walk0
set_option linter.unusedSimpArgs false
namespace Go.DirMath
open Go.GridMath Go.Sort

/-- A series. -/
structure Ser where
  cls : ByteArray
  ex : Int
  st : Int
  rt : Int
instance : Inhabited Ser := ⟨⟨⟨#[]⟩, 0, 0, 0⟩⟩

def isDig (c : UInt8) : Bool := decide (48 ≤ (c.toNat : Int)) && decide ((c.toNat : Int) ≤ 57)
def isLet (c : UInt8) : Bool := decide (65 ≤ (c.toNat : Int)) && decide ((c.toNat : Int) ≤ 90)
def okCh (c : UInt8) : Bool := isDig c || isLet c
/-- May it be a class's name? -/
def goodB (s : ByteArray) : Bool := decide (0 < s.size) && decide (s.size ≤ 8) && !isDig (s.data.toList.headD 0) && s.data.toList.all okCh
def serCode (s : Ser) : Int := if goodB s.cls = false then 5 else if s.ex < 1 ∨ 100000 < s.ex then 1 else if s.rt ≠ 1 ∧ s.rt ≠ 2 then 1 else if s.st < 1 ∨ 1000000 < s.st then 1 else 0

/-! ### The order -/
structure Ord3 {α : Type} (c : α → α → Int) : Prop where
  swap : ∀ x y, c x y ≤ 0 ↔ 0 ≤ c y x
  trans : ∀ x y z, c x y ≤ 0 → c y z ≤ 0 → c x z ≤ 0
def thenC {α : Type} (c1 c2 : α → α → Int) (x y : α) : Int := if c1 x y = 0 then c2 x y else c1 x y
theorem Ord3.thenC {α : Type} {c1 c2 : α → α → Int} (h1 : Ord3 c1) (h2 : Ord3 c2) : Ord3 (thenC c1 c2) where
  swap x y := by
    unfold DirMath.thenC
    have a := h1.swap x y; have b := h1.swap y x; have c := h2.swap x y
    split <;> split <;> omega
  trans x y z := by
    unfold DirMath.thenC
    have a := h1.swap x y; have b := h1.swap y x; have c := h1.swap y z; have d := h1.swap z y; have e := h1.swap x z; have f := h1.swap z x
    have t1 := h1.trans x y z; have t2 := h1.trans z x y; have t3 := h1.trans y z x; have t4 := h2.trans x y z
    split <;> split <;> split <;> omega
theorem Ord3.on {α β : Type} {c : α → α → Int} (h : Ord3 c) (f : β → α) : Ord3 (fun x y => c (f x) (f y)) := ⟨fun _ _ => h.swap _ _, fun _ _ _ => h.trans _ _ _⟩
theorem Ord3.swo {α : Type} [Inhabited α] {c : α → α → Int} (h : Ord3 c) : SWO (fun x y => decide (c x y < 0)) where
  irrefl x := by have := h.swap x x; simp; omega
  trans x y z := by
    have a := h.swap x y; have b := h.swap y x; have t1 := h.trans x y z; have t2 := h.trans z x y; have e := h.swap x z; have f := h.swap z x
    have c := h.swap y z; have d := h.swap z y; have t3 := h.trans y z x
    simp; omega
  ntrans x y z := by
    have a := h.swap x y; have b := h.swap y x; have t1 := h.trans z y x; have e := h.swap x z; have f := h.swap z x
    have c := h.swap y z; have d := h.swap z y
    simp; omega
def cmpI (a b : Int) : Int := if a < b then -1 else if b < a then 1 else 0
theorem ordI : Ord3 cmpI where
  swap x y := by unfold cmpI; repeat' split
                 all_goals omega
  trans x y z := by unfold cmpI; repeat' split
                    all_goals omega
def cmpB (a b : ByteArray) : Int := if Op.bytesLess a.toList b.toList = true then -1 else if Op.bytesLess b.toList a.toList = true then 1 else 0
theorem ordB : Ord3 cmpB where
  swap x y := by
    unfold cmpB
    simp only [Go.Proofs.bytesLess_eq, decide_eq_true_iff]
    have := List.lt_asymm (l₁ := x.toList) (l₂ := y.toList)
    repeat' split
    all_goals simp_all
  trans x y z := by
    unfold cmpB
    simp only [Go.Proofs.bytesLess_eq, decide_eq_true_iff]
    by_cases h1 : y.toList < x.toList
    · have := List.lt_asymm h1
      simp [h1, this]
    · by_cases h2 : z.toList < y.toList
      · have := List.lt_asymm h2
        simp [h2, this]
      · have h3 : ¬ z.toList < x.toList := by
          have e1 : x.toList ≤ y.toList := List.not_lt.1 h1
          have e2 : y.toList ≤ z.toList := List.not_lt.1 h2
          exact List.not_lt.2 (List.le_trans e1 e2)
        intro _ _
        split
        · omega
        · simp [h3]
/-- series.Compare. -/
def cmpS : Ser → Ser → Int := thenC (fun a b => cmpB a.cls b.cls) (thenC (fun a b => cmpI a.ex b.ex) (thenC (fun a b => cmpI a.st b.st) (fun a b => cmpI a.rt b.rt)))
theorem ordS : Ord3 cmpS := (ordB.on Ser.cls).thenC ((ordI.on Ser.ex).thenC ((ordI.on Ser.st).thenC (ordI.on Ser.rt)))

/-! ### What is listed -/
/-- Are they the same? -/
def eqS (a b : Ser) : Bool := (a.cls.toList == b.cls.toList) && (a.ex == b.ex) && (a.st == b.st) && (a.rt == b.rt)
abbrev Lst := Ser × Int
/-- The place of the first one that is s. -/
def findAt (l : List Lst) (s : Ser) : Option Nat := l.findIdx? (fun x => eqS x.1 s)
abbrev Cls := ByteArray × List Stp
def tabOf : List Cls → ByteArray → Option (List Stp)
  | [], _ => none
  | c :: l, name => if c.1.toList == name.toList then some c.2 else tabOf l name
theorem tabOf_skip : ∀ (l r : List Cls) (name : ByteArray), (∀ c ∈ l, (c.1.toList == name.toList) = false) → tabOf (l ++ r) name = tabOf r name
  | [], _, _, _ => rfl
  | c :: l, r, name, h => by
    show (if c.1.toList == name.toList then some c.2 else tabOf (l ++ r) name) = _
    rw [h c (List.mem_cons_self ..)]
    exact tabOf_skip l r name (fun x hx => h x (List.mem_cons_of_mem _ hx))
theorem tabOf_mem : ∀ {l : List Cls} {name : ByteArray} {t : List Stp}, tabOf l name = some t → ∃ c ∈ l, c.2 = t
  | [], _, _, h => by cases h
  | c :: l, name, t, h => by
    unfold tabOf at h
    split at h
    · injection h with h; exact ⟨c, List.mem_cons_self .., h⟩
    · obtain ⟨x, hx, e⟩ := tabOf_mem h
      exact ⟨x, List.mem_cons_of_mem _ hx, e⟩

/-- The state of a directory. -/
structure DS where
  C : List Cls
  L : List Lst
  day : Int
/-- What may not be about a series that is to be listed. -/
def listCode (d : DS) (s : Ser) : Int :=
  if serCode s ≠ 0 then serCode s else match tabOf d.C s.cls with
    | none => 5
    | some t => if onT t s.st = false then 10 else if (findAt d.L s).isSome then 6 else if s.ex ≤ d.day then 7 else if 64 ≤ d.L.length then 8 else 0
/-- A day: who expires. -/
def goes (day : Int) (x : Lst) : Bool := decide (x.1.ex ≤ day) && (x.2 != 4)
def gone (day : Int) (l : List Lst) : List Lst := l.map fun x => if goes day x then (x.1, 4) else x
def goneIds (day : Int) (l : List Lst) : List Int := (l.zipIdx.filter fun x => goes day x.1).map fun x => (x.2 : Int) + 1
theorem goneIds_snoc (day : Int) (l : List Lst) (x : Lst) : goneIds day (l ++ [x]) = goneIds day l ++ if goes day x then [(l.length : Int) + 1] else [] := by
  unfold goneIds
  rw [List.zipIdx_append, List.filter_append, List.map_append]
  by_cases h : goes day x <;> simp [h]
theorem gone_snoc (day : Int) (l : List Lst) (x : Lst) : gone day (l ++ [x]) = gone day l ++ [if goes day x then (x.1, 4) else x] := by simp [gone]
theorem gone_len (day : Int) (l : List Lst) : (gone day l).length = l.length := by simp [gone]
end Go.DirMath
