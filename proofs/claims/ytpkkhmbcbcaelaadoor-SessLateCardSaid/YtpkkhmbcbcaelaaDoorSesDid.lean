/- What calls of a desk answer and leave, over what a desk in memory is. -/
import Derived.Test.YtpkkhmbcbcaelaaDoorSesMem
set_option linter.unusedSimpArgs false
namespace Go.Proofs.YtpkkhmbcbcaelaaDoor
open Go.RowKit Go.Mem1 Go.SesMath

def idN (n : Int) : Value := .int .i64 n
def sessB : ByteArray := ⟨#[115, 101, 115, 115]⟩
/-- A message of a kind and a turn alone. -/
def bareV (k q : Int) : Value := .agg #[.int .i64 k, .int .i64 q, .int .i64 0, .int .i64 0, .int .i64 0, .int .i64 0, .int .i64 0, .int .i64 0, .slice none 0 0]
/-- What a writing call answers and leaves. -/
def SdDid (w : World) (B g : Nat) (T : Int) (O : Nat → Prop) (D' : Sk) (r : Value) (e : Ending) (w' : World) : Prop :=
  e = .returned r ∧ ∃ O', SdAt w' B g T D' O' ∧ Chg O w w' ∧ ∀ j, O' j → O j ∨ w.heap.size ≤ j
/-- A refusal in memory: a Fault of sess at s, of x. -/
def SdErr (w : World) (s : Int) (x : Nat) (b : Nat) : Prop := Box w b 77 #[.string sessB, .int .i64 s, .iface 25 (.int .i64 (x : Int))]
def errV (b : Nat) : Value := .iface 73 (.pointer (some ⟨b, 0, none⟩))
/-- What a refusal answers. -/
def SdBad (w : World) (s : Int) (x : Nat) (e : Ending) (w' : World) : Prop :=
  ∃ b, e = .returned (errV b) ∧ w.heap.size ≤ b ∧ SdErr w' s x b ∧ Below w.heap.size w w'
theorem SdErr.is {w : World} {s : Int} {x b : Nat} (h : SdErr w s x b) : IsErr w w.heap.size [(sessB, s)] (x : Int) (.iface 73 (.pointer (some ⟨b, 0, none⟩))) :=
  ⟨b, _, rfl, h.there, h.reads 0, h.reads 1, h.reads 2, rfl⟩
/-- What a list of sessions is. -/
def SdRow (w : World) (L : List Int) (v : Value) (w' : World) : Prop := w'.ownsRow w.heap.size 3 1 v L.length (L.map idN)
def SdLate (w : World) (B g : Nat) (T : Int) (O : Nat → Prop) (D' : Sk) (L : List Int) (e : Ending) (w' : World) : Prop :=
  ∃ v, e = .returned v ∧ SdRow w L v w' ∧ ∃ O', SdAt w' B g T D' O' ∧ Chg O w w' ∧ ∀ j, O' j → O j ∨ w.heap.size ≤ j
def SdLive (w : World) (L : List Int) (e : Ending) (w' : World) : Prop := ∃ v, e = .returned v ∧ SdRow w L v w' ∧ Below w.heap.size w w'
end Go.Proofs.YtpkkhmbcbcaelaaDoor
