/- What package crc's four faces do, as the laws use it. -/
import Derived.Test.YtldgacnoliekdaaDoorRefSeal
import Derived.Test.YtldgacnoliekdaaDoorCrcAdd
import Derived.Test.YtldgacnoliekdaaDoorAsUse
namespace Go.Proofs.YtldgacnoliekdaaDoor
open Go.RowKit Go.Mem1

/-- A row of rows of bytes. -/
structure Parts (w : World) (B : Nat) (A : Option Addr) (n : Nat) (ls : List (List Nat)) : Prop where
  ex : ∃ vs : List Value, Rd w B A n vs ∧ vs.length = ls.length ∧ ∀ (i : Nat) (v : Value) (l : List Nat), vs[i]? = some v → ls[i]? = some l → ∃ (A1 : Option Addr) (n1 c1 : Nat), v = Value.slice A1 n1 c1 ∧ n1 ≤ 140737488355328 ∧ Byt w B A1 n1 l

def SumC : Prop := ∀ (A : Option Addr) (n c : Nat) (ls : List (List Nat)) (w : World), Halves w → n ≤ 140737488355328 → Parts w w.heap.size A n ls →
  Calls Tryd.prog 6 #[.slice A n c] w fun e w' => e = .returned (.int .u32 ((sumOf ls.flatten : Nat) : Int)) ∧ Below w.heap.size w w'
def AddC : Prop := ∀ (s : Nat) (A : Option Addr) (n c : Nat) (l : List Nat) (w : World), Halves w → s < 4294967296 → n ≤ 140737488355328 → Byt w w.heap.size A n l →
  Calls Tryd.prog 7 #[.int .u32 (s : Int), .slice A n c] w fun e w' => e = .returned (.int .u32 ((addOf s l : Nat) : Int)) ∧ Below w.heap.size w w'
def SealC : Prop := ∀ (A : Option Addr) (n c : Nat) (l : List Nat) (w : World), Halves w → n ≤ 1000000 → (A = none → c = 0) → Byt w w.heap.size A n l →
  Calls Tryd.prog 9 #[.slice A n c] w fun e w' => ∃ A1 c1, e = .returned (.slice A1 (n + 4) c1) ∧ n + 4 ≤ c1 ∧ Byt w' w'.heap.size A1 (n + 4) (l ++ le4 (sumOf l)) ∧ Below w.heap.size w w'
/-- Is it sealed? -/
def sealed (l : List Nat) : Prop := 4 ≤ l.length ∧ l.drop (l.length - 4) = le4 (sumOf (l.take (l.length - 4)))
def sumBytes : ByteArray := ⟨#[115, 117, 109]⟩
def OpenC : Prop := ∀ (A : Option Addr) (n c : Nat) (l : List Nat) (w : World), Halves w → n ≤ 1000000 → n ≤ c → (A = none → c = 0) → Byt w w.heap.size A n l →
  Calls Tryd.prog 8 #[.slice A n c] w fun e w' => Below w.heap.size w w' ∧
    ((sealed l ∧ ∃ A1 c1, e = .returned (.tuple #[.slice A1 (n - 4) c1, .nilIface]) ∧ Byt w' w'.heap.size A1 (n - 4) (l.take (n - 4))) ∨
     (¬ sealed l ∧ ∃ A1 c1 v, e = .returned (.tuple #[.slice A1 0 c1, v]) ∧ IsErr w' w'.heap.size [(sumBytes, (n : Int))] (if n < 4 then 3 else 14) v))

theorem OpenC.bad (h : OpenC) (A : Option Addr) (n c : Nat) (l : List Nat) (w : World) (hT : Halves w) (hn : n ≤ 1000000) (hnc : n ≤ c) (hc : A = none → c = 0) (hb : Byt w w.heap.size A n l) (hs : ¬ sealed l) :
    Calls Tryd.prog 8 #[.slice A n c] w fun e w' => ∃ A1 c1 v, e = .returned (.tuple #[.slice A1 0 c1, v]) ∧ Below w.heap.size w w' ∧ IsErr w' w'.heap.size [(sumBytes, (n : Int))] (if n < 4 then 3 else 14) v :=
  (h A n c l w hT hn hnc hc hb).mono fun _ _ ⟨hbel, hx⟩ => by
    rcases hx with ⟨h1, _⟩ | ⟨_, A1, c1, v, he, hi⟩
    · exact absurd h1 hs
    · exact ⟨A1, c1, v, he, hbel, hi⟩
end Go.Proofs.YtldgacnoliekdaaDoor
