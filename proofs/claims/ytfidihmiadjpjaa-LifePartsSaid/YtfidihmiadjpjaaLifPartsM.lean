/- LifeParts: the mathematics of its rounds, and what each call does. -/
import Derived.Test.YtfidihmiadjpjaaLifKnown
import Derived.Test.YtfidihmiadjpjaaBy
set_option linter.unusedSimpArgs false
namespace Go.Proofs.Ytfidihmiadjpjaa
open Go.RowKit Go.Mem1 Go.LifMath

/-- Of the first k parts, all together; and those that are filled. -/
def tot (l : List Nat) : Nat → Nat
  | 0 => 0
  | k + 1 => tot l k + 1 + l[k]!
def fil (l : List Nat) : Nat → Nat
  | 0 => 0
  | k + 1 => fil l k + (if k % 3 = 2 then 0 else 1 + l[k]!)
theorem tot_succ {l : List Nat} {k x : Nat} (h : l[k]? = some x) : tot l (k + 1) = tot l k + 1 + x := by simp [tot, List.getElem!_eq_getElem?_getD, h]
theorem fil_canc {l : List Nat} {k : Nat} (h3 : k % 3 = 2) : fil l (k + 1) = fil l k := by simp [fil, h3]
theorem fil_fill {l : List Nat} {k x : Nat} (h : l[k]? = some x) (h3 : k % 3 ≠ 2) : fil l (k + 1) = fil l k + 1 + x := by simp [fil, List.getElem!_eq_getElem?_getD, h, h3]; omega
theorem tot_mono (l : List Nat) {k n : Nat} (h : k ≤ n) : tot l k ≤ tot l n := by
  induction h with
  | refl => exact Nat.le_refl _
  | step _ ih => exact Nat.le_trans ih (by simp only [tot]; omega)
theorem fil_le (l : List Nat) : ∀ k, fil l k ≤ tot l k
  | 0 => Nat.le_refl _
  | k + 1 => by
    have := fil_le l k
    unfold fil tot
    split <;> omega
theorem tot_bound {l : List Nat} (hl : ∀ x ∈ l, x < 256) : ∀ k, k ≤ l.length → k ≤ tot l k ∧ tot l k ≤ 256 * k
  | 0, _ => by simp [tot]
  | k + 1, hk => by
    have ih := tot_bound hl k (by omega)
    obtain ⟨x, hx⟩ : ∃ x, l[k]? = some x := ⟨_, List.getElem?_eq_getElem (by omega)⟩
    have := hl x (List.mem_of_getElem? hx)
    rw [tot_succ hx]
    omega
/-- What became of the order when k parts are done. -/
def partE (l : List Nat) (n k : Nat) : Ent := ⟨(tot l n : Int), (fil l k : Int), (tot l k : Int) - (fil l k : Int), (tot l n : Int) - (tot l k : Int), 1, 1, 1⟩
def PJ (w0 : World) (B g : Nat) (l : List Nat) (n k : Nat) (w : World) : Prop := Lv w0 B g [partE l n k] w
section
variable {w0 w : World} {B g n : Nat} {l : List Nat}
theorem PJ.start (h : Lv w0 B g [] w) (h1 : 1 ≤ tot l n) (h2 : tot l n ≤ 1000000) : Calls Try.prog 8 #[.pointer (some ⟨g, 0, none⟩), .int .i64 1, .int .i64 1, .int .i64 1, .int .i64 (tot l n : Int)] w fun e w' => e = .returned (.tuple #[.int .i64 1, .int .i64 0]) ∧ PJ w0 B g l n 0 w' := by
  have := h.enter (ow := 1) (se := 1) (si := 1) (q := (tot l n : Int)) ⟨by omega, by omega⟩ (by simp)
  refine this.mono fun e w' ⟨a, b⟩ => ⟨a, ?_⟩
  have e1 : [] ++ [newE 1 1 1 (tot l n : Int)] = [partE l n 0] := by simp [newE, partE, tot, fil]
  rw [e1] at b
  exact b
theorem PJ.fill {k x : Nat} (h : PJ w0 B g l n k w) (hx : l[k]? = some x) (hk : k < n) (h3 : k % 3 ≠ 2) : Calls Try.prog 9 #[.pointer (some ⟨g, 0, none⟩), .int .i64 1, .int .i64 (1 + (x : Int))] w fun e w' => e = .returned (.int .i64 0) ∧ PJ w0 B g l n (k + 1) w' := by
  have hm := tot_mono l (show k + 1 ≤ n from hk)
  rw [tot_succ hx] at hm
  have := Lv.fill (show Lv w0 B g [partE l n k] w from h) (k := 0) rfl (q := 1 + (x : Int)) (by omega) (by simp only [partE]; omega)
  refine this.mono fun e w' ⟨a, b⟩ => ⟨a, ?_⟩
  have e1 : [partE l n k].set 0 (fillE (1 + (x : Int)) (partE l n k)) = [partE l n (k + 1)] := by
    simp only [List.set_cons_zero, List.cons.injEq, and_true, fillE, partE, tot_succ hx, fil_fill hx h3, Ent.mk.injEq]
    push_cast
    and_intros <;> first | trivial | omega
  rw [e1] at b
  exact b
theorem PJ.canc {k x : Nat} (h : PJ w0 B g l n k w) (hx : l[k]? = some x) (hk : k < n) (h3 : k % 3 = 2) : Calls Try.prog 10 #[.pointer (some ⟨g, 0, none⟩), .int .i64 1, .int .i64 (1 + (x : Int))] w fun e w' => e = .returned (.int .i64 0) ∧ PJ w0 B g l n (k + 1) w' := by
  have hm := tot_mono l (show k + 1 ≤ n from hk)
  rw [tot_succ hx] at hm
  have := Lv.canc (show Lv w0 B g [partE l n k] w from h) (k := 0) rfl (q := 1 + (x : Int)) (by omega) (by simp only [partE]; omega)
  refine this.mono fun e w' ⟨a, b⟩ => ⟨a, ?_⟩
  have e1 : [partE l n k].set 0 (cancE (1 + (x : Int)) (partE l n k)) = [partE l n (k + 1)] := by
    simp only [List.set_cons_zero, List.cons.injEq, and_true, cancE, partE, tot_succ hx, fil_canc h3, Ent.mk.injEq]
    push_cast
    and_intros <;> first | trivial | omega
  rw [e1] at b
  exact b
/-- All parts done. -/
def doneE (S F : Int) : Ent := ⟨S, F, S - F, 0, 1, 1, 1⟩
theorem PJ.done (h : PJ w0 B g l n n w) : Lv w0 B g [doneE (tot l n) (fil l n)] w := by
  have e : partE l n n = doneE (tot l n) (fil l n) := by simp [partE, doneE]
  rw [← e]; exact h
end
section
variable {w0 w : World} {B g : Nat} {S F : Int}
theorem done_get (h : Lv w0 B g [doneE S F] w) : Calls Try.prog 11 #[.pointer (some ⟨g, 0, none⟩), .int .i64 1] w fun r w' => r = .returned (.tuple #[entV (doneE S F), .bool true]) ∧ Lv w0 B g [doneE S F] w' := h.get (k := 0) rfl
theorem done_fill (h : Lv w0 B g [doneE S F] w) : Calls Try.prog 9 #[.pointer (some ⟨g, 0, none⟩), .int .i64 1, .int .i64 1] w fun r w' => r = .returned (.int .i64 1) ∧ w = w' := h.fill_bad (k := 0) rfl (by simp [doneE])
theorem done_canc (h : Lv w0 B g [doneE S F] w) : Calls Try.prog 10 #[.pointer (some ⟨g, 0, none⟩), .int .i64 1, .int .i64 1] w fun r w' => r = .returned (.int .i64 1) ∧ w = w' := h.canc_bad (k := 0) rfl (by simp [doneE])
theorem done_sum (h : Lv w0 B g [doneE S F] w) : Calls Try.prog 13 #[.pointer (some ⟨g, 0, none⟩), .int .i64 1, .int .i64 1] w fun r w' => r = .returned (.int .i64 F) ∧ Lv w0 B g [doneE S F] w' := by
  have := h.sum 1 1
  have e : sumE 1 1 [doneE S F] 1 = F := by simp [sumE, ofE, doneE]
  rw [show [doneE S F].length = 1 from rfl, e] at this
  exact this
end
end Go.Proofs.Ytfidihmiadjpjaa
