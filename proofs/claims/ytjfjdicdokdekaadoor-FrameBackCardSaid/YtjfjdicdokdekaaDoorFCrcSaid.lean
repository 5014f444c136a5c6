/- What package crc's four faces do, as the laws use it. -/
import Derived.Test.YtjfjdicdokdekaaDoorFRefSeal
import Derived.Test.YtjfjdicdokdekaaDoorFCrcAdd
import Derived.Test.YtjfjdicdokdekaaDoorAsUse
namespace Go.Proofs.YtjfjdicdokdekaaDoor
open Go.RowKit Go.Mem1

/-- A row of rows of bytes. -/
structure CParts (w : World) (B : Nat) (A : Option Addr) (n : Nat) (ls : List (List Nat)) : Prop where
  ex : ∃ vs : List Value, Rd w B A n vs ∧ vs.length = ls.length ∧ ∀ (i : Nat) (v : Value) (l : List Nat), vs[i]? = some v → ls[i]? = some l → ∃ (A1 : Option Addr) (n1 c1 : Nat), v = Value.slice A1 n1 c1 ∧ n1 ≤ 140737488355328 ∧ Byt w B A1 n1 l

def SumC : Prop := ∀ (A : Option Addr) (n c : Nat) (ls : List (List Nat)) (w : World), Halves w → n ≤ 140737488355328 → CParts w w.heap.size A n ls →
  Calls Tryd.prog 84 #[.slice A n c] w fun e w' => e = .returned (.int .u32 ((sumOf ls.flatten : Nat) : Int)) ∧ Below w.heap.size w w'
def AddC : Prop := ∀ (s : Nat) (A : Option Addr) (n c : Nat) (l : List Nat) (w : World), Halves w → s < 4294967296 → n ≤ 140737488355328 → Byt w w.heap.size A n l →
  Calls Tryd.prog 90 #[.int .u32 (s : Int), .slice A n c] w fun e w' => e = .returned (.int .u32 ((addOf s l : Nat) : Int)) ∧ Below w.heap.size w w'
def SealC : Prop := ∀ (A : Option Addr) (n c : Nat) (l : List Nat) (w : World), Halves w → n ≤ 1000000 → (A = none → c = 0) → Byt w w.heap.size A n l →
  Calls Tryd.prog 37 #[.slice A n c] w fun e w' => ∃ A1 c1, e = .returned (.slice A1 (n + 4) c1) ∧ n + 4 ≤ c1 ∧ Byt w' w'.heap.size A1 (n + 4) (l ++ le4 (sumOf l)) ∧ Below w.heap.size w w'
/-- Is it sealed? -/
def sealed (l : List Nat) : Prop := 4 ≤ l.length ∧ l.drop (l.length - 4) = le4 (sumOf (l.take (l.length - 4)))
def sumBytes : ByteArray := ⟨#[115, 117, 109]⟩
end Go.Proofs.YtjfjdicdokdekaaDoor
