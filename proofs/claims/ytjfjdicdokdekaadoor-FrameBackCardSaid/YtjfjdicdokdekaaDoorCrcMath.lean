/- Plain mathematics of CRC-32 over Nat: the step is linear over xor and takes nothing but 0 to 0; a byte list whose bits are turned at one place; a burst of at most 32 bits turns the sum. No program in it. -/
namespace CrcMath

def P : Nat := 3988292384
def step (c : Nat) : Nat := if c % 2 = 1 then (c / 2) ^^^ P else c / 2
def iter : Nat → Nat → Nat
  | 0, c => c
  | n + 1, c => iter n (step c)
def byteStep (c x : Nat) : Nat := iter 8 (c ^^^ x)
def fold (c : Nat) (l : List Nat) : Nat := l.foldl byteStep c

theorem div_xor (x y : Nat) : (x ^^^ y) / 2 = (x / 2) ^^^ (y / 2) := by
  apply Nat.eq_of_testBit_eq; intro i
  simp [Nat.testBit_div_two, Nat.testBit_xor]
theorem mod_xor (x y : Nat) : (x ^^^ y) % 2 = (x % 2 + y % 2) % 2 := by
  have h := Nat.testBit_xor x y 0
  simp only [Nat.testBit_zero] at h
  have hx := Nat.mod_two_eq_zero_or_one x
  have hy := Nat.mod_two_eq_zero_or_one y
  have hz := Nat.mod_two_eq_zero_or_one (x ^^^ y)
  rcases hx with hx | hx <;> rcases hy with hy | hy <;> rcases hz with hz | hz <;> simp [hx, hy, hz] at h ⊢
theorem step_xor (x y : Nat) : step (x ^^^ y) = step x ^^^ step y := by
  unfold step
  rw [mod_xor, div_xor]
  have hx := Nat.mod_two_eq_zero_or_one x
  have hy := Nat.mod_two_eq_zero_or_one y
  rcases hx with hx | hx <;> rcases hy with hy | hy <;> simp [hx, hy]
  · rw [Nat.xor_assoc]
  · rw [Nat.xor_assoc, Nat.xor_assoc, Nat.xor_comm P]
  · rw [Nat.xor_assoc, Nat.xor_comm P, Nat.xor_assoc, Nat.xor_self, Nat.xor_zero]
theorem step_zero : step 0 = 0 := by decide
theorem step_lt {c : Nat} (h : c < 4294967296) : step c < 4294967296 := by
  unfold step
  split
  · have : c / 2 < 2 ^ 32 := by omega
    exact Nat.xor_lt_two_pow (n := 32) this (by decide)
  · omega
theorem step_pos {c : Nat} (h : c < 4294967296) (hz : step c = 0) : c = 0 := by
  unfold step at hz
  split at hz
  · exfalso
    have hb := congrArg (fun n => n.testBit 31) hz
    simp only [Nat.testBit_xor, Nat.zero_testBit] at hb
    have h1 : (c / 2).testBit 31 = false := Nat.testBit_lt_two_pow (by omega)
    rw [h1] at hb
    revert hb; decide
  · omega
theorem iter_xor (n x y : Nat) : iter n (x ^^^ y) = iter n x ^^^ iter n y := by
  induction n generalizing x y with
  | zero => rfl
  | succ n ih => simp only [iter]; rw [step_xor, ih]
theorem iter_zero (n : Nat) : iter n 0 = 0 := by
  induction n with
  | zero => rfl
  | succ n ih => simp only [iter, step_zero, ih]
theorem iter_lt {n c : Nat} (h : c < 4294967296) : iter n c < 4294967296 := by
  induction n generalizing c with
  | zero => exact h
  | succ n ih => exact ih (step_lt h)
theorem iter_pos {n c : Nat} (h : c < 4294967296) (hz : iter n c = 0) : c = 0 := by
  induction n generalizing c with
  | zero => exact hz
  | succ n ih => exact step_pos h (ih (step_lt h) hz)
theorem iter_add (m n c : Nat) : iter (m + n) c = iter n (iter m c) := by
  induction m generalizing c with
  | zero => simp [iter]
  | succ m ih => rw [Nat.succ_add]; simp only [iter]; rw [ih]
theorem iter_pow (i : Nat) : iter i (2 ^ i) = 1 := by
  induction i with
  | zero => rfl
  | succ i ih =>
    simp only [iter]
    have : step (2 ^ (i + 1)) = 2 ^ i := by
      unfold step; rw [Nat.pow_succ]; rw [if_neg (by omega)]; omega
    rw [this, ih]
theorem byteStep_xor (c d x : Nat) : byteStep (c ^^^ d) x = byteStep c x ^^^ iter 8 d := by
  unfold byteStep
  rw [Nat.xor_assoc, Nat.xor_comm d, ← Nat.xor_assoc, iter_xor]
theorem fold_xor (c d : Nat) (l : List Nat) : fold (c ^^^ d) l = fold c l ^^^ iter (8 * l.length) d := by
  induction l generalizing c d with
  | nil => rfl
  | cons x l ih =>
    simp only [fold, List.foldl_cons] at *
    rw [byteStep_xor, ih, List.length_cons, ← iter_add]
    congr 2; omega
theorem fold_append (c : Nat) (l m : List Nat) : fold c (l ++ m) = fold (fold c l) m := by
  simp [fold, List.foldl_append]
theorem fold_cons (c x : Nat) (l : List Nat) : fold c (x :: l) = fold (byteStep c x) l := rfl
theorem fold_snoc (c x : Nat) (l : List Nat) : fold c (l ++ [x]) = byteStep (fold c l) x := by rw [fold_append]; rfl
theorem fold_take_succ (c : Nat) (l : List Nat) (k : Nat) (h : k < l.length) : fold c (l.take (k + 1)) = byteStep (fold c (l.take k)) l[k] := by
  rw [List.take_succ_eq_append_getElem h, fold_snoc]
theorem byteStep_lt {c x : Nat} (h : c < 4294967296) (hx : x < 256) : byteStep c x < 4294967296 :=
  iter_lt (Nat.xor_lt_two_pow (n := 32) h (by omega))
theorem fold_lt {c : Nat} {l : List Nat} (h : c < 4294967296) (hl : ∀ x ∈ l, x < 256) : fold c l < 4294967296 := by
  induction l generalizing c with
  | nil => exact h
  | cons x l ih =>
    rw [fold_cons]
    exact ih (byteStep_lt h (hl x (by simp))) (fun y hy => hl y (by simp [hy]))

/-- One bit turned: place m, bit j of it. -/
theorem fold_flip (c : Nat) (l : List Nat) (m j : Nat) (hm : m < l.length) (hj : j < 8) :
    fold c (l.set m (l[m] ^^^ 2 ^ j)) = fold c l ^^^ iter (8 * (l.length - m) - j) 1 := by
  have e : l = l.take m ++ l[m] :: l.drop (m + 1) := by simp
  have es : l.set m (l[m] ^^^ 2 ^ j) = l.take m ++ (l[m] ^^^ 2 ^ j) :: l.drop (m + 1) := by
    rw [List.set_eq_take_append_cons_drop, if_pos hm]
  have el : fold c l = fold (byteStep (fold c (l.take m)) l[m]) (l.drop (m + 1)) := by
    conv => lhs; rw [e]
    rw [fold_append, fold_cons]
  rw [es, fold_append, fold_cons, el]
  have hb : byteStep (fold c (l.take m)) (l[m] ^^^ 2 ^ j) = byteStep (fold c (l.take m)) l[m] ^^^ iter 8 (2 ^ j) := by
    unfold byteStep
    rw [← Nat.xor_assoc, iter_xor]
  have hj8 : iter 8 (2 ^ j) = iter (8 - j) 1 := by
    rw [show 8 = j + (8 - j) by omega, iter_add, iter_pow]; congr 1; omega
  rw [hb, fold_xor, hj8, ← iter_add, List.length_drop]
  congr 2; omega

/-- What turning the first i bits of a pattern from bit k on does to the sum. -/
def Turned (b c : List Nat) (k p i : Nat) (s : Nat) : Prop :=
  c.length = b.length ∧ fold s c = fold s b ^^^ iter (8 * b.length - k) (p % 2 ^ i)
theorem Turned.start (b : List Nat) (k p s : Nat) : Turned b b k p 0 s := by
  refine ⟨rfl, ?_⟩
  rw [Nat.pow_zero, Nat.mod_one, iter_zero, Nat.xor_zero]
theorem mod_pow_succ_one {p i : Nat} (h : p / 2 ^ i % 2 = 1) : p % 2 ^ (i + 1) = (p % 2 ^ i) ^^^ 2 ^ i := by
  apply Nat.eq_of_testBit_eq; intro j
  have hb : p.testBit i = true := by rw [Nat.testBit_eq_decide_div_mod_eq]; simp [h]
  rw [Nat.testBit_xor, Nat.testBit_mod_two_pow, Nat.testBit_mod_two_pow, Nat.testBit_two_pow]
  by_cases h1 : j = i
  · subst h1; simp [hb]
  · have : decide (i = j) = false := by simp; omega
    rw [this, Bool.xor_false]
    congr 1
    apply Bool.eq_iff_iff.mpr
    simp; omega
theorem mod_pow_succ_zero {p i : Nat} (h : p / 2 ^ i % 2 = 0) : p % 2 ^ (i + 1) = p % 2 ^ i := by
  rw [Nat.pow_succ, Nat.mod_mul, h]; simp
theorem Turned.skip {b c : List Nat} {k p i s : Nat} (h : Turned b c k p i s) (hp : p / 2 ^ i % 2 = 0) : Turned b c k p (i + 1) s := by
  refine ⟨h.1, ?_⟩
  rw [h.2, mod_pow_succ_zero hp]
theorem Turned.turn {b c : List Nat} {k p i s : Nat} (h : Turned b c k p i s) (hp : p / 2 ^ i % 2 = 1) (hk : k + 32 ≤ 8 * b.length) (hi : i < 32)
    (hm : (k + i) / 8 < c.length) : Turned b (c.set ((k + i) / 8) (c[(k + i) / 8] ^^^ 2 ^ ((k + i) % 8))) k p (i + 1) s := by
  refine ⟨by rw [List.length_set]; exact h.1, ?_⟩
  rw [fold_flip s c _ _ hm (by omega), h.2, mod_pow_succ_one hp, iter_xor, Nat.xor_assoc, h.1]
  congr 2
  rw [show 8 * b.length - k = i + (8 * b.length - k - i) by omega, iter_add i, iter_pow]
  congr 1
  omega
theorem Turned.differ {b c : List Nat} {k p s : Nat} (h : Turned b c k p 32 s) (hp : 0 < p) (hp2 : p < 4294967296) : fold s c ≠ fold s b := by
  intro he
  have h2 := h.2
  rw [he, Nat.mod_eq_of_lt (by simpa using hp2)] at h2
  have hz : iter (8 * b.length - k) p = 0 := by
    have := congrArg (fun x => fold s b ^^^ x) h2
    simp only [Nat.xor_self, ← Nat.xor_assoc, Nat.zero_xor] at this
    exact this.symm
  have := iter_pos hp2 hz
  omega
end CrcMath
