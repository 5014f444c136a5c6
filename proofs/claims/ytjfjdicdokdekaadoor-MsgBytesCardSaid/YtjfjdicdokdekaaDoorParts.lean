/- A row of rows of bytes. -/
import Derived.Test.YtjfjdicdokdekaaDoorBy
namespace Go.Proofs.YtjfjdicdokdekaaDoor
open Go.RowKit Go.Mem1

/-- A slice value that reads as rows of bytes, all below block B. -/
structure Parts (w : World) (B : Nat) (A : Option Addr) (n : Nat) (ls : List (List Nat)) : Prop where
  ex : ∃ vs : List Value, Rd w B A n vs ∧ vs.length = ls.length ∧ ∀ (i : Nat) (v : Value) (l : List Nat), vs[i]? = some v → ls[i]? = some l → ∃ (A1 : Option Addr) (n1 c1 : Nat), v = Value.slice A1 n1 c1 ∧ (A1 = none → c1 = 0) ∧ Byt w B A1 n1 l
theorem Parts.len {w : World} {B : Nat} {A : Option Addr} {n : Nat} {ls : List (List Nat)} (h : Parts w B A n ls) : ls.length = n := by
  obtain ⟨vs, hrd, hlen, _⟩ := h.ex
  have := hrd.len; omega
theorem Parts.carry {w w' : World} {B : Nat} {A : Option Addr} {n : Nat} {ls : List (List Nat)} (h : Parts w B A n ls) (hb : Below B w w') : Parts w' B A n ls := by
  obtain ⟨vs, hrd, hlen, hat⟩ := h.ex
  refine ⟨vs, hrd.carry hb, hlen, fun i v l hv hl => ?_⟩
  obtain ⟨A1, n1, c1, e, h1, h2⟩ := hat i v l hv hl
  exact ⟨A1, n1, c1, e, h1, h2.carry hb⟩
theorem Parts.at_ {w : World} {B : Nat} {A : Option Addr} {n : Nat} {ls : List (List Nat)} (h : Parts w B A n ls) {k : Nat} (hk : k < n) :
    ∃ b off A1 n1 c1 l, A = some ⟨b, off, none⟩ ∧ b < B ∧ ls[k]? = some l ∧ w.cell? ⟨b, off + k, none⟩ = some (.slice A1 n1 c1) ∧ (A1 = none → c1 = 0) ∧ Byt w B A1 n1 l := by
  obtain ⟨vs, hrd, hlen, hat⟩ := h.ex
  obtain ⟨b, off, u, rfl, hb, hu, hc⟩ := hrd.get hk
  have hl : k < ls.length := by have := hrd.len; omega
  obtain ⟨A1, n1, c1, rfl, h1, h2⟩ := hat k u ls[k] hu (List.getElem?_eq_getElem hl)
  exact ⟨b, off, A1, n1, c1, ls[k], rfl, hb, List.getElem?_eq_getElem hl, hc, h1, h2⟩
end Go.Proofs.YtjfjdicdokdekaaDoor
