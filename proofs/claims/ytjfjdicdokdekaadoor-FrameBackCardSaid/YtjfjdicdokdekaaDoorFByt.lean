/- Words for CRC sums in the walks (over XBy's rows of bytes). -/
import Derived.Test.YtjfjdicdokdekaaDoorBy
import Derived.Test.YtjfjdicdokdekaaDoorCrcMath
set_option linter.unusedSimpArgs false
namespace Go.Proofs.YtjfjdicdokdekaaDoor
open Go.RowKit Go.Mem1

def sumOf (l : List Nat) : Nat := CrcMath.fold 4294967295 l ^^^ 4294967295
theorem fold_take_step (c : Nat) (l : List Nat) (k X : Nat) (h : l[k]? = some X) : CrcMath.fold c (l.take (k + 1)) = CrcMath.iter 8 (CrcMath.fold c (l.take k) ^^^ X) := by
  obtain ⟨hk, rfl⟩ := List.getElem?_eq_some_iff.1 h
  exact CrcMath.fold_take_succ c l k hk
theorem fold_take_lt (l : List Nat) (hb : ∀ x ∈ l, x < 256) (k : Nat) : CrcMath.fold 4294967295 (l.take k) < 4294967296 :=
  CrcMath.fold_lt (by decide) (fun x hx => hb x (List.mem_of_mem_take hx))

theorem iter_succ' (j c : Nat) : CrcMath.iter (j + 1) c = CrcMath.step (CrcMath.iter j c) := by
  rw [CrcMath.iter_add]; rfl

theorem and_one {I : Nat} (h : I < 4294967296) : bits .and .u32 (I : Int) 1 = ((I % 2 : Nat) : Int) := by
  have := u32_and_nat I 1 h (by omega)
  rw [Nat.and_one_is_mod] at this
  exact this
theorem odd_true {I : Nat} (h : I < 4294967296) (h1 : I % 2 = 1) : (bits .and .u32 (I : Int) 1 == 1) = true := by rw [and_one h, h1]; rfl
theorem odd_false {I : Nat} (h : I < 4294967296) (h1 : ¬ I % 2 = 1) : (bits .and .u32 (I : Int) 1 == 1) = false := by
  rw [and_one h, show I % 2 = 0 by omega]; rfl
theorem step_odd {I : Nat} (h : I % 2 = 1) : CrcMath.step I = I / 2 ^^^ CrcMath.P := if_pos h
theorem step_even {I : Nat} (h : ¬ I % 2 = 1) : CrcMath.step I = I / 2 := if_neg h
theorem xor_P {I : Nat} (h : I < 4294967296) : bits .xor .u32 ((I : Int) / 2) 3988292384 = ((I / 2 ^^^ CrcMath.P : Nat) : Int) := by
  have := u32_xor_nat (I / 2) CrcMath.P (by omega) (by decide)
  rw [← this]; rfl
theorem not_u32 {I : Nat} (h : I < 4294967296) : bits .xor .u32 IntKind.u32.max (I : Int) = ((I ^^^ 4294967295 : Nat) : Int) := by
  have := u32_xor_nat 4294967295 I (by omega) h
  rw [Nat.xor_comm, ← this]; rfl

end Go.Proofs.YtjfjdicdokdekaaDoor
