/- Plain mathematics of numbers as rows of bytes: seven bits a byte, the lowest first. -/
namespace Go.CodMath

/-- A number as its bytes. -/
def vint (u : Nat) : List Nat := if u < 128 then [u] else (u % 128 + 128) :: vint (u / 128)
termination_by u
decreasing_by omega
theorem vint_small {u : Nat} (h : u < 128) : vint u = [u] := by rw [vint, if_pos h]
theorem vint_big {u : Nat} (h : 128 ≤ u) : vint u = (u % 128 + 128) :: vint (u / 128) := by rw [vint, if_neg (by omega)]
theorem vint_pos (u : Nat) : 0 < (vint u).length := by
  rcases Nat.lt_or_ge u 128 with h | h
  · rw [vint_small h]; simp
  · rw [vint_big h]; simp
theorem vint_len {u : Nat} : ∀ {k : Nat}, u < 128 ^ (k + 1) → (vint u).length ≤ k + 1 := by
  intro k
  induction k generalizing u with
  | zero => intro h; rw [vint_small (by simpa using h)]; simp
  | succ k ih =>
    intro h
    rcases Nat.lt_or_ge u 128 with h1 | h1
    · rw [vint_small h1]; simp
    · rw [vint_big h1]
      have : u / 128 < 128 ^ (k + 1) := by rw [Nat.div_lt_iff_lt_mul (by omega)]; rw [Nat.pow_succ] at h; exact h
      have := ih this
      simp; omega
theorem vint_len10 {u : Nat} (h : u < 18446744073709551616) : (vint u).length ≤ 10 := vint_len (k := 9) (Nat.lt_of_lt_of_le h (by decide))
theorem vint_bnd (u : Nat) : ∀ x ∈ vint u, x < 256 := by
  induction u using Nat.strongRecOn with
  | _ u ih =>
    intro x hx
    rcases Nat.lt_or_ge u 128 with h | h
    · rw [vint_small h] at hx; simp at hx; omega
    · rw [vint_big h] at hx
      rcases List.mem_cons.1 hx with rfl | hx
      · omega
      · exact ih (u / 128) (by omega) x hx

/-- A number with its sign as a number without. -/
def zz (n : Int) : Nat := if n < 0 then (-2 * n - 1).toNat else (2 * n).toNat
def unz (u : Nat) : Int := if u % 2 = 1 then -((u / 2 : Nat) : Int) - 1 else ((u / 2 : Nat) : Int)
theorem unz_zz (n : Int) : unz (zz n) = n := by
  unfold zz unz
  split <;> split <;> omega
theorem zz_lt {n : Int} (h : -9223372036854775808 ≤ n) (h' : n ≤ 9223372036854775807) : zz n < 18446744073709551616 := by
  unfold zz; split <;> omega
theorem unz_bd {u : Nat} (h : u < 18446744073709551616) : -9223372036854775808 ≤ unz u ∧ unz u ≤ 9223372036854775807 := by
  unfold unz; split <;> omega
theorem zz_nat (n : Nat) : zz (n : Int) = 2 * n := by unfold zz; rw [if_neg (by omega)]; omega

/-- The bytes of a number with its sign; of a row of bytes behind its length. -/
def ien (n : Int) : List Nat := vint (zz n)
def ren (l : List Nat) : List Nat := ien (l.length : Int) ++ l

/-- The number that a row begins with (from its i-th byte on, a what is had): the number, its bytes, what is wrong. -/
def numAt : Nat → Nat → List Nat → Nat × Nat × Nat
  | _, _, [] => (0, 0, 3)
  | i, a, c :: r => if (0 < i ∧ c = 0) ∨ (i = 9 ∧ 1 < c) then (0, 0, 2) else if c < 128 then (a + c * 128 ^ i, i + 1, 0) else numAt (i + 1) (a + (c - 128) * 128 ^ i) r
def num (l : List Nat) : Nat × Nat × Nat := numAt 0 0 l

theorem pow9 : (128 : Nat) ^ 9 = 9223372036854775808 := by decide
theorem at9 {u : Nat} (h : u * 128 ^ 9 < 18446744073709551616) : u ≤ 1 := by rw [pow9] at h; omega
theorem numAt_vint (u : Nat) : ∀ (i a : Nat) (r : List Nat), i ≤ 9 → (i = 0 ∨ u ≠ 0) → u * 128 ^ i < 18446744073709551616 → numAt i a (vint u ++ r) = (a + u * 128 ^ i, i + (vint u).length, 0) := by
  induction u using Nat.strongRecOn with
  | _ u ih =>
    intro i a r hi h0 hb
    rcases Nat.lt_or_ge u 128 with h | h
    · rw [vint_small h, List.singleton_append, numAt, if_neg, if_pos h]
      · rfl
      · rintro (⟨h1, h2⟩ | ⟨rfl, h2⟩)
        · omega
        · have := at9 hb; omega
    · have hi9 : i ≠ 9 := by rintro rfl; have := at9 hb; omega
      rw [vint_big h, List.cons_append, numAt, if_neg (by omega), if_neg (by omega), ih (u / 128) (by omega) (i + 1) _ r (by omega) (by omega)]
      · have e : u = u % 128 + 128 * (u / 128) := by omega
        have : a + (u % 128 + 128 - 128) * 128 ^ i + u / 128 * 128 ^ (i + 1) = a + u * 128 ^ i := by
          conv => rhs; rw [e]
          rw [Nat.add_sub_cancel, Nat.pow_succ, Nat.add_mul, Nat.add_assoc, Nat.mul_comm (128 ^ i) 128, ← Nat.mul_assoc, Nat.mul_comm (u / 128) 128]
        rw [this, List.length_cons]
        congr 2
        omega
      · rw [Nat.pow_succ, Nat.mul_comm (128 ^ i) 128, ← Nat.mul_assoc]
        exact Nat.lt_of_le_of_lt (Nat.mul_le_mul_right _ (Nat.div_mul_le_self u 128)) hb
theorem num_vint {u : Nat} (h : u < 18446744073709551616) (r : List Nat) : num (vint u ++ r) = (u, (vint u).length, 0) := by
  have := numAt_vint u 0 0 r (by omega) (.inl rfl) (by simpa using h)
  simpa [num] using this
theorem numAt_cut (u : Nat) : ∀ (i a j : Nat), i ≤ 9 → u * 128 ^ i < 18446744073709551616 → j < (vint u).length → numAt i a ((vint u).take j) = (0, 0, 3) := by
  induction u using Nat.strongRecOn with
  | _ u ih =>
    intro i a j hi hb hj
    cases j with
    | zero => rfl
    | succ j =>
      rcases Nat.lt_or_ge u 128 with h | h
      · rw [vint_small h] at hj; simp at hj
      · have hi9 : i ≠ 9 := by rintro rfl; have := at9 hb; omega
        rw [vint_big h] at hj ⊢
        rw [List.take_succ_cons, numAt, if_neg (by omega), if_neg (by omega)]
        refine ih (u / 128) (by omega) (i + 1) _ j (by omega) ?_ (by simpa using hj)
        rw [Nat.pow_succ, Nat.mul_comm (128 ^ i) 128, ← Nat.mul_assoc]
        exact Nat.lt_of_le_of_lt (Nat.mul_le_mul_right _ (Nat.div_mul_le_self u 128)) hb
theorem num_cut {u j : Nat} (h : u < 18446744073709551616) (hj : j < (vint u).length) : num ((vint u).take j) = (0, 0, 3) :=
  numAt_cut u 0 0 j (by omega) (by simpa using h) hj
/-- What is told is a number of 64 bits, with as many bytes as there are. -/
theorem numAt_bd : ∀ (l : List Nat) (i a : Nat), i ≤ 9 → a < 128 ^ i → (∀ x ∈ l, x < 256) → (numAt i a l).1 < 18446744073709551616 ∧ (numAt i a l).2.1 ≤ i + l.length ∧ (numAt i a l).2.1 ≤ 10 ∧ ((numAt i a l).2.2 = 0 ∨ numAt i a l = (0, 0, 2) ∨ numAt i a l = (0, 0, 3)) ∧ ((numAt i a l).2.2 = 0 → i < (numAt i a l).2.1) := by
  intro l
  induction l with
  | nil => intro i a _ _ _; simp [numAt]
  | cons c r ih =>
    intro i a hi ha hb
    rw [numAt]
    split
    · simp
    · rename_i hn
      have hc : c < 256 := hb c (List.mem_cons_self ..)
      have hp : (128 : Nat) ^ i ≤ 128 ^ 9 := Nat.pow_le_pow_right (by omega) hi
      have h9 : (128 : Nat) ^ 9 = 9223372036854775808 := pow9
      split
      · rename_i hlt
        refine ⟨?_, by simp; try omega, by simp; try omega, .inl rfl, fun _ => by simp⟩
        show a + c * 128 ^ i < _
        rcases Nat.lt_or_ge i 9 with h | h
        · have : (128 : Nat) ^ (i + 1) ≤ 128 ^ 9 := Nat.pow_le_pow_right (by omega) (by omega)
          rw [Nat.pow_succ] at this
          have : c * 128 ^ i ≤ 127 * 128 ^ i := Nat.mul_le_mul_right _ (by omega)
          omega
        · obtain rfl : i = 9 := by omega
          have hc1 : c ≤ 1 := by omega
          have : c * 128 ^ 9 ≤ 1 * 128 ^ 9 := Nat.mul_le_mul_right _ hc1
          omega
      · rename_i hge
        have hi9 : i ≠ 9 := by omega
        have := ih (i + 1) (a + (c - 128) * 128 ^ i) (by omega) (by
          rw [Nat.pow_succ]
          have : (c - 128) * 128 ^ i ≤ 127 * 128 ^ i := Nat.mul_le_mul_right _ (by omega)
          omega) (fun x hx => hb x (List.mem_cons_of_mem _ hx))
        obtain ⟨h1, h2, h3, h4, h5⟩ := this
        refine ⟨h1, by simp; omega, h3, h4, fun h => by have := h5 h; omega⟩
theorem num_bd {l : List Nat} (h : ∀ x ∈ l, x < 256) : (num l).1 < 18446744073709551616 ∧ (num l).2.1 ≤ l.length ∧ (num l).2.1 ≤ 10 ∧ ((num l).2.2 = 0 ∨ num l = (0, 0, 2) ∨ num l = (0, 0, 3)) := by
  have := numAt_bd l 0 0 (by omega) (by simp) h
  exact ⟨this.1, by simpa [num] using this.2.1, this.2.2.1, this.2.2.2.1⟩
end Go.CodMath
