/- Plain mathematics of what becomes of orders: entries, what is open of an owner, what was filled. -/
import Derived.WalkKit
set_option linter.unusedSimpArgs false
namespace Go.LifMath
/-- What became of one order: entered, filled, cancelled, open; its owner, series, side. -/
structure Ent where
  en : Int
  fi : Int
  ca : Int
  op : Int
  ow : Int
  se : Int
  si : Int
instance : Inhabited Ent := ⟨⟨0, 0, 0, 0, 0, 0, 0⟩⟩
/-- One that is just entered. -/
def newE (ow se si q : Int) : Ent := ⟨q, 0, 0, q, ow, se, si⟩
def fillE (q : Int) (e : Ent) : Ent := ⟨e.en, e.fi + q, e.ca, e.op - q, e.ow, e.se, e.si⟩
def cancE (q : Int) (e : Ent) : Ent := ⟨e.en, e.fi, e.ca + q, e.op - q, e.ow, e.se, e.si⟩
def lessE (q : Int) (e : Ent) : Ent := ⟨e.en, e.fi, e.ca, e.op - q, e.ow, e.se, e.si⟩
structure FairE (e : Ent) : Prop where
  sum : e.en = e.fi + e.ca + e.op
  fi : 0 ≤ e.fi
  ca : 0 ≤ e.ca
  op : 0 ≤ e.op
  most : e.en ≤ 1000000
theorem fair_new {ow se si q : Int} (h : 1 ≤ q ∧ q ≤ 1000000) : FairE (newE ow se si q) := ⟨by simp [newE], by simp [newE], by simp [newE], by simp [newE]; omega, by simp [newE]; omega⟩
theorem fair_fill {e : Ent} {q : Int} (h : FairE e) (hq : 1 ≤ q ∧ q ≤ e.op) : FairE (fillE q e) := by
  obtain ⟨h1, h2, h3, h4, h5⟩ := h
  exact ⟨by simp only [fillE]; omega, by simp only [fillE]; omega, h3, by simp only [fillE]; omega, h5⟩
theorem fair_canc {e : Ent} {q : Int} (h : FairE e) (hq : 1 ≤ q ∧ q ≤ e.op) : FairE (cancE q e) := by
  obtain ⟨h1, h2, h3, h4, h5⟩ := h
  exact ⟨by simp only [cancE]; omega, h2, by simp only [cancE]; omega, by simp only [cancE]; omega, h5⟩
/-- Is it an owner's, with something open? -/
def openE (ow : Int) (e : Ent) : Bool := e.ow == ow && decide (0 < e.op)
/-- Of the first k, those that are an owner's with something open, by number. -/
def opens (ow : Int) (l : List Ent) : Nat → List Int
  | 0 => []
  | k + 1 => opens ow l k ++ (if openE ow (l[k]!) then [(k : Int) + 1] else [])
theorem opens_skip {ow : Int} {l : List Ent} {k : Nat} {e : Ent} (h : l[k]? = some e) (ho : openE ow e = false) : opens ow l (k + 1) = opens ow l k := by
  simp [opens, List.getElem!_eq_getElem?_getD, h, ho]
theorem opens_take {ow : Int} {l : List Ent} {k : Nat} {e : Ent} (h : l[k]? = some e) (ho : openE ow e = true) : opens ow l (k + 1) = opens ow l k ++ [(k : Int) + 1] := by
  simp [opens, List.getElem!_eq_getElem?_getD, h, ho]
theorem opens_len (ow : Int) (l : List Ent) : ∀ k, (opens ow l k).length ≤ k
  | 0 => Nat.le_refl _
  | k + 1 => by
    have := opens_len ow l k
    unfold opens
    split <;> simp <;> omega
/-- Is it of a series and a side? -/
def ofE (se si : Int) (e : Ent) : Bool := e.se == se && e.si == si
/-- Of the first k, what was filled of a series and a side. -/
def sumE (se si : Int) (l : List Ent) : Nat → Int
  | 0 => 0
  | k + 1 => sumE se si l k + (if ofE se si (l[k]!) then (l[k]!).fi else 0)
theorem sum_skip {se si : Int} {l : List Ent} {k : Nat} {e : Ent} (h : l[k]? = some e) (ho : ofE se si e = false) : sumE se si l (k + 1) = sumE se si l k := by
  simp [sumE, List.getElem!_eq_getElem?_getD, h, ho]
theorem sum_take {se si : Int} {l : List Ent} {k : Nat} {e : Ent} (h : l[k]? = some e) (ho : ofE se si e = true) : sumE se si l (k + 1) = sumE se si l k + e.fi := by
  simp [sumE, List.getElem!_eq_getElem?_getD, h, ho]
theorem sum_bound {se si : Int} {l : List Ent} (hf : ∀ e ∈ l, FairE e) : ∀ k, k ≤ l.length → 0 ≤ sumE se si l k ∧ sumE se si l k ≤ 1000000 * (k : Int)
  | 0, _ => by simp [sumE]
  | k + 1, hk => by
    have ih := sum_bound (se := se) (si := si) hf k (by omega)
    obtain ⟨e, he⟩ : ∃ e, l[k]? = some e := ⟨_, List.getElem?_eq_getElem (by omega)⟩
    have hF := hf e (List.mem_of_getElem? he)
    obtain ⟨h1, h2, h3, h4, h5⟩ := hF
    cases ho : ofE se si e with
    | true => rw [sum_take he ho]; push_cast; omega
    | false => rw [sum_skip he ho]; push_cast; omega
theorem at_lt {α : Type} {l : List α} {k : Nat} {x : α} (h : l[k]? = some x) : k < l.length := by
  rcases Nat.lt_or_ge k l.length with h' | h'
  · exact h'
  · rw [List.getElem?_eq_none h'] at h; cases h
theorem fair_set {l : List Ent} {k : Nat} {e : Ent} (hf : ∀ e ∈ l, FairE e) (he : FairE e) : ∀ x ∈ l.set k e, FairE x := by
  intro x hx
  rcases List.mem_or_eq_of_mem_set hx with h | rfl
  · exact hf x h
  · exact he
theorem fair_snoc {l : List Ent} {e : Ent} (hf : ∀ e ∈ l, FairE e) (he : FairE e) : ∀ x ∈ l ++ [e], FairE x := by
  intro x hx
  rcases List.mem_append.1 hx with h | h
  · exact hf x h
  · rw [List.mem_singleton.1 h]; exact he
end Go.LifMath
