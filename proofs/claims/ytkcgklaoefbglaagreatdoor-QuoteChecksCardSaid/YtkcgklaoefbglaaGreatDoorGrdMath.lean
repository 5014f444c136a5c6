/- Grids, plain mathematics: Steps from the last one to the first; the last that begins not above a price; the next price below; how many there are; the next above. -/
namespace Go.GridMath
/-- From, By. -/
abbrev Stp := Int × Int
/-- The first, from the last one on, that begins not above p. -/
def lastAt : List Stp → Int → Option Stp
  | [], _ => none
  | s :: r, p => if s.1 ≤ p then some s else lastAt r p
def near (r : List Stp) (p : Int) : Int := match lastAt r p with
  | none => 0
  | some s => p - (p - s.1) % s.2
def upTo : List Stp → Int → Int
  | [], _ => 0
  | s :: r, p => if s.1 ≤ p then (p - s.1) / s.2 + 1 + upTo r (s.1 - 1) else upTo r p
/-- Steps, the last one first, that may be. -/
def VR : List Stp → Prop
  | [] => True
  | s :: r => 1 ≤ s.1 ∧ s.1 ≤ 1000000 ∧ 1 ≤ s.2 ∧ s.2 ≤ 10000 ∧ (match r with | [] => s.1 = 1 | t :: _ => t.1 < s.1 ∧ (s.1 - t.1) % t.2 = 0) ∧ VR r

theorem dm (a : Int) {b : Int} (h : 1 ≤ b) : b * (a / b) + a % b = a ∧ 0 ≤ a % b ∧ a % b < b := ⟨Int.mul_ediv_add_emod a b, Int.emod_nonneg a (by omega), Int.emod_lt_of_pos a (by omega)⟩
theorem dm_of {a b q m : Int} (h : 1 ≤ b) (e : b * q + m = a) (h0 : 0 ≤ m) (h1 : m < b) : a / b = q ∧ a % b = m := (Int.ediv_emod_unique (by omega)).2 ⟨by omega, h0, h1⟩

theorem lastAt_mem : ∀ {r : List Stp} {p : Int} {s : Stp}, VR r → lastAt r p = some s → 1 ≤ s.1 ∧ s.1 ≤ p ∧ s.1 ≤ 1000000 ∧ 1 ≤ s.2 ∧ s.2 ≤ 10000
  | [], _, _, _, h => by cases h
  | s :: r, p, t, hv, h => by
    unfold lastAt at h
    obtain ⟨h1, h2, h3, h4, _, h6⟩ := hv
    split at h
    · injection h with h; subst h; exact ⟨h1, by assumption, h2, h3, h4⟩
    · exact lastAt_mem h6 h
theorem lastAt_one : ∀ {r : List Stp} {p : Int}, VR r → r ≠ [] → 1 ≤ p → ∃ s, lastAt r p = some s
  | [], _, _, h, _ => absurd rfl h
  | s :: r, p, hv, _, hp => by
    unfold lastAt
    obtain ⟨h1, h2, h3, h4, h5, h6⟩ := hv
    split
    · exact ⟨_, rfl⟩
    · cases r with
      | nil => exfalso; have : s.1 = 1 := h5; omega
      | cons t r => exact lastAt_one h6 (by simp) hp
theorem lastAt_low : ∀ {r : List Stp} {p : Int}, VR r → p < 1 → lastAt r p = none
  | [], _, _, _ => rfl
  | s :: r, p, hv, hp => by
    unfold lastAt
    obtain ⟨h1, h2, h3, h4, _, h6⟩ := hv
    rw [if_neg (by omega)]
    exact lastAt_low h6 hp
theorem near_low {r : List Stp} {p : Int} (hv : VR r) (hp : p < 1) : near r p = 0 := by unfold near; rw [lastAt_low hv hp]
theorem near_le {r : List Stp} {p : Int} (hv : VR r) (hn : r ≠ []) (hp : 1 ≤ p) : 1 ≤ near r p ∧ near r p ≤ p := by
  obtain ⟨s, hs⟩ := lastAt_one hv hn hp
  obtain ⟨h1, h2, h3, h4, _⟩ := lastAt_mem hv hs
  unfold near; rw [hs]
  dsimp only
  obtain ⟨e, m0, m1⟩ := dm (p - s.1) h4
  have : 0 ≤ s.2 * ((p - s.1) / s.2) := Int.mul_nonneg (by omega) (Int.ediv_nonneg (by omega) (by omega))
  omega
theorem near_cons (s : Stp) (r : List Stp) (p : Int) : near (s :: r) p = if s.1 ≤ p then p - (p - s.1) % s.2 else near r p := by
  unfold near; rw [lastAt]
  by_cases h : s.1 ≤ p
  · rw [if_pos h, if_pos h]
  · rw [if_neg h, if_neg h]
theorem upTo_cons (s : Stp) (r : List Stp) (p : Int) : upTo (s :: r) p = if s.1 ≤ p then (p - s.1) / s.2 + 1 + upTo r (s.1 - 1) else upTo r p := rfl
theorem near_ge {s : Stp} {r : List Stp} {p : Int} (hv : VR (s :: r)) (h : s.1 ≤ p) : s.1 ≤ near (s :: r) p ∧ near (s :: r) p ≤ p ∧ (near (s :: r) p - s.1) % s.2 = 0 ∧ (near (s :: r) p - s.1) / s.2 = (p - s.1) / s.2 := by
  obtain ⟨h1, h2, h3, h4, h5, h6⟩ := hv
  rw [near_cons, if_pos h]
  obtain ⟨e, m0, m1⟩ := dm (p - s.1) h3
  have hq : 0 ≤ s.2 * ((p - s.1) / s.2) := Int.mul_nonneg (by omega) (Int.ediv_nonneg (by omega) (by omega))
  have := dm_of (a := p - (p - s.1) % s.2 - s.1) (q := (p - s.1) / s.2) (m := 0) h3 (by omega) (by omega) (by omega)
  exact ⟨by omega, by omega, this.2, this.1⟩
/-- The next below is itself one. -/
theorem near_near : ∀ {r : List Stp} {p : Int}, VR r → near r (near r p) = near r p
  | [], _, _ => rfl
  | s :: r, p, hv => by
    have hv' := hv
    obtain ⟨h1, h2, h3, h4, h5, h6⟩ := hv
    by_cases h : s.1 ≤ p
    · obtain ⟨a, b, c, _⟩ := near_ge hv' h
      rw [near_cons s r (near (s :: r) p), if_pos a, c]; omega
    · by_cases hp : p < 1
      · rw [near_low hv' hp, near_low hv' (by omega)]
      · cases r with
        | nil => exfalso; have : s.1 = 1 := h5; omega
        | cons t r =>
          have hl := (near_le h6 (by simp) (show 1 ≤ p by omega)).2
          rw [near_cons s (t :: r) p, if_neg h, near_cons s (t :: r), if_neg (by omega)]
          exact near_near h6
theorem upTo_low : ∀ {r : List Stp} {p : Int}, VR r → p < 1 → upTo r p = 0
  | [], _, _, _ => rfl
  | s :: r, p, hv, hp => by
    obtain ⟨h1, h2, h3, h4, _, h6⟩ := hv
    rw [upTo_cons, if_neg (by omega)]
    exact upTo_low h6 hp
theorem upTo_bound : ∀ {r : List Stp} {p : Int}, VR r → 0 ≤ upTo r p ∧ (0 ≤ p → upTo r p ≤ p)
  | [], p, _ => ⟨Int.le_refl _, fun h => h⟩
  | s :: r, p, hv => by
    obtain ⟨h1, h2, h3, h4, _, h6⟩ := hv
    rw [upTo_cons]
    split
    · obtain ⟨a, b⟩ := upTo_bound (p := s.1 - 1) h6
      have b' := b (by omega)
      have hq : 0 ≤ (p - s.1) / s.2 := Int.ediv_nonneg (by omega) (by omega)
      have hd : (p - s.1) / s.2 ≤ p - s.1 := Int.ediv_le_self _ (by omega)
      exact ⟨by omega, fun _ => by omega⟩
    · exact upTo_bound h6
theorem upTo_mono : ∀ {r : List Stp} {p q : Int}, VR r → p ≤ q → upTo r p ≤ upTo r q
  | [], _, _, _, _ => Int.le_refl _
  | s :: r, p, q, hv, h => by
    obtain ⟨h1, h2, h3, h4, _, h6⟩ := hv
    rw [upTo_cons, upTo_cons]
    by_cases hp : s.1 ≤ p
    · rw [if_pos hp, if_pos (by omega)]
      have := Int.ediv_le_ediv (show 0 < s.2 by omega) (show p - s.1 ≤ q - s.1 by omega)
      omega
    · rw [if_neg hp]
      by_cases hq : s.1 ≤ q
      · rw [if_pos hq]
        have h7 := upTo_mono h6 (show p ≤ s.1 - 1 by omega)
        have hq : 0 ≤ (q - s.1) / s.2 := Int.ediv_nonneg (by omega) (by omega)
        omega
      · rw [if_neg hq]
        exact upTo_mono h6 h
theorem upTo_none : ∀ {r : List Stp} {p : Int}, lastAt r p = none → upTo r p = 0
  | [], _, _ => rfl
  | s :: r, p, h => by
    unfold lastAt at h
    split at h
    · cases h
    · rename_i hs
      rw [upTo_cons, if_neg hs]
      exact upTo_none h
theorem upTo_step : ∀ {r : List Stp} {p : Int} {s : Stp}, VR r → lastAt r p = some s → upTo r p = (p - s.1) / s.2 + 1 + upTo r (s.1 - 1)
  | [], _, _, _, h => by cases h
  | u :: r, p, s, hv, h => by
    have hl := h
    unfold lastAt at h
    split at h
    · rename_i hx
      injection h with h; subst h
      rw [upTo_cons, if_pos hx, upTo_cons, if_neg (by omega)]
    · rename_i hx
      have hm := lastAt_mem hv.2.2.2.2.2 h
      rw [upTo_cons, if_neg hx, upTo_cons, if_neg (by omega)]
      exact upTo_step hv.2.2.2.2.2 h
/-- One that is On counts. -/
theorem upTo_inc : ∀ {r : List Stp} {x : Int}, VR r → near r x = x → 1 ≤ x → upTo r x = upTo r (x - 1) + 1
  | [], x, _, h, hx => by
    have : (0 : Int) = x := h
    omega
  | s :: r, x, hv, h, hx => by
    have hv' := hv
    obtain ⟨h1, h2, h3, h4, h5, h6⟩ := hv
    rw [near_cons] at h
    rw [upTo_cons, upTo_cons]
    by_cases hs : s.1 ≤ x
    · rw [if_pos hs] at h ⊢
      obtain ⟨e, m0, m1⟩ := dm (x - s.1) h3
      by_cases hs1 : s.1 ≤ x - 1
      · rw [if_pos hs1]
        have hm : s.2 * ((x - s.1) / s.2 - 1) = s.2 * ((x - s.1) / s.2) - s.2 := by rw [Int.mul_sub, Int.mul_one]
        have := (dm_of (a := x - 1 - s.1) (q := (x - s.1) / s.2 - 1) (m := s.2 - 1) h3 (by omega) (by omega) (by omega)).1
        rw [this]; omega
      · rw [if_neg hs1]
        have : x - s.1 = 0 := by omega
        rw [this, Int.zero_ediv, show s.1 - 1 = x - 1 by omega]; omega
    · rw [if_neg hs] at h
      rw [if_neg hs, if_neg (by omega)]
      exact upTo_inc h6 h hx
/-- Those up to a price are those up to the next below. -/
theorem upTo_near : ∀ {r : List Stp} {q : Int}, VR r → 1 ≤ q → upTo r q = upTo r (near r q)
  | [], q, _, _ => rfl
  | s :: r, q, hv, hq => by
    have hv' := hv
    obtain ⟨h1, h2, h3, h4, h5, h6⟩ := hv
    by_cases h : s.1 ≤ q
    · obtain ⟨a, b, c, d⟩ := near_ge hv' h
      rw [upTo_cons, if_pos h, upTo_cons, if_pos a, d]
    · cases r with
      | nil => exfalso; have : s.1 = 1 := h5; omega
      | cons t r =>
        have hl := (near_le h6 (by simp) hq).2
        rw [near_cons, if_neg h, upTo_cons s _ q, if_neg h, upTo_cons s, if_neg (by omega)]
        exact upTo_near h6 hq
theorem bound_up : ∀ {r : List Stp} {s t : Stp} {x : Int}, VR (s :: r) → x < s.1 → lastAt r x = some t → (x - t.1) % t.2 = 0 → x + t.2 ≤ s.1
  | [], _, _, _, _, _, h, _ => by cases h
  | u :: r, s, t, x, hv, hx, h, h0 => by
    obtain ⟨h1, h2, h3, h4, ⟨h5, h5'⟩, h6⟩ := hv
    unfold lastAt at h
    split at h
    · injection h with h; subst h
      have hu3 := h6.2.2.1
      obtain ⟨e, m0, m1⟩ := dm (x - u.1) hu3
      obtain ⟨e', m0', m1'⟩ := dm (s.1 - u.1) hu3
      rw [h0] at e
      rw [h5'] at e'
      have hlt : (x - u.1) / u.2 < (s.1 - u.1) / u.2 := by
        rcases Int.lt_or_le ((x - u.1) / u.2) ((s.1 - u.1) / u.2) with h | h
        · exact h
        · have := Int.mul_le_mul_of_nonneg_left h (show 0 ≤ u.2 by omega)
          omega
      have := Int.mul_le_mul_of_nonneg_left (show (x - u.1) / u.2 + 1 ≤ (s.1 - u.1) / u.2 by omega) (show 0 ≤ u.2 by omega)
      rw [Int.mul_add, Int.mul_one] at this
      omega
    · have := bound_up h6 (by omega) h h0
      omega
/-- The next above. -/
theorem up_near : ∀ {r : List Stp} {s : Stp} {x : Int}, VR r → lastAt r x = some s → (x - s.1) % s.2 = 0 → near r (x + s.2) = x + s.2 ∧ near r (x + s.2 - 1) = x ∧ near r x = x
  | [], _, _, _, h, _ => by cases h
  | u :: r, s, x, hv, h, h0 => by
    have hv' := hv
    obtain ⟨h1, h2, h3, h4, h5, h6⟩ := hv
    have hl := h
    unfold lastAt at h
    split at h
    · rename_i hx
      injection h with h; subst h
      obtain ⟨e, m0, m1⟩ := dm (x - u.1) h3
      rw [h0] at e
      have hm : u.2 * ((x - u.1) / u.2 + 1) = u.2 * ((x - u.1) / u.2) + u.2 := by rw [Int.mul_add, Int.mul_one]
      have a1 := (dm_of (a := x + u.2 - u.1) (q := (x - u.1) / u.2 + 1) (m := 0) h3 (by omega) (by omega) (by omega)).2
      have a2 := (dm_of (a := x + u.2 - 1 - u.1) (q := (x - u.1) / u.2) (m := u.2 - 1) h3 (by omega) (by omega) (by omega)).2
      rw [near_cons, near_cons, near_cons, if_pos (by omega), if_pos (by omega), if_pos hx, a1, a2, h0]
      omega
    · rename_i hx
      have hb := bound_up hv' (by omega) h h0
      obtain ⟨i1, i2, i3⟩ := up_near h6 h h0
      have hs := lastAt_mem h6 h
      rw [near_cons, near_cons, near_cons, if_neg (show ¬ u.1 ≤ x + s.2 - 1 by omega), if_neg hx]
      refine ⟨?_, i2, i3⟩
      split
      · have : x + s.2 - u.1 = 0 := by omega
        rw [this, Int.zero_emod]; omega
      · exact i1
/-- What is On, its Step is aligned with it. -/
theorem on_aligned {r : List Stp} {x : Int} {s : Stp} (h : near r x = x) (hl : lastAt r x = some s) : (x - s.1) % s.2 = 0 := by
  unfold near at h; rw [hl] at h; dsimp only at h; omega

/-- What may not be about the first Step; about one behind another. 0: nothing; 1: its numbers; 2: its place. -/
def wrong0 (s : Stp) : Int := if s.1 ≠ 1 ∨ 1000000 < s.1 ∨ s.2 < 1 ∨ 10000 < s.2 then 1 else 0
def wrong1 (q s : Stp) : Int := if s.1 ≤ q.1 ∨ 1000000 < s.1 ∨ s.2 < 1 ∨ 10000 < s.2 then 1 else if (s.1 - q.1) % q.2 = 0 then 0 else 2
def wrongAt (l : List Stp) : Nat → Int
  | 0 => wrong0 (l[0]?.getD (0, 0))
  | k + 1 => wrong1 (l[k]?.getD (0, 0)) (l[k + 1]?.getD (0, 0))
/-- A Step that may be. -/
def Fine (s : Stp) : Prop := 1 ≤ s.1 ∧ s.1 ≤ 1000000 ∧ 1 ≤ s.2 ∧ s.2 ≤ 10000
theorem fine_at {l : List Stp} : ∀ (j : Nat), (∀ i ≤ j, wrongAt l i = 0) → Fine (l[j]?.getD (0, 0))
  | 0, h => by
    have h0 : wrong0 (l[0]?.getD (0, 0)) = 0 := h 0 (Nat.le_refl _)
    unfold wrong0 at h0
    split at h0
    · omega
    · unfold Fine; omega
  | k + 1, h => by
    have h1 := fine_at k (fun i hi => h i (by omega))
    have h0 : wrong1 (l[k]?.getD (0, 0)) (l[k + 1]?.getD (0, 0)) = 0 := h (k + 1) (Nat.le_refl _)
    unfold wrong1 at h0
    unfold Fine at *
    split at h0
    · omega
    · omega
theorem vr_at {l : List Stp} : ∀ {i : Nat}, i ≤ l.length → (∀ j < i, wrongAt l j = 0) → VR (l.take i).reverse
  | 0, _, _ => by simp [VR]
  | i + 1, hl, h => by
    have ih := vr_at (i := i) (by omega) (fun j hj => h j (by omega))
    have hf := fine_at i (fun j hj => h j (by omega))
    have hi : l[i]? = some (l[i]'(by omega)) := List.getElem?_eq_getElem _
    have e : (l.take (i + 1)).reverse = l[i]'(by omega) :: (l.take i).reverse := by
      rw [List.take_add_one, hi]; simp
    rw [hi] at hf
    dsimp only [Option.getD_some] at hf
    obtain ⟨f1, f2, f3, f4⟩ := hf
    rw [e]
    refine ⟨f1, f2, f3, f4, ?_, ih⟩
    have h0 := h i (by omega)
    cases i with
    | zero =>
      simp only [List.take_zero, List.reverse_nil]
      have h0 : wrong0 (l[0]?.getD (0, 0)) = 0 := h0
      unfold wrong0 at h0
      rw [hi] at h0
      dsimp only [Option.getD_some] at h0
      split at h0 <;> omega
    | succ k =>
      have hk : l[k]? = some (l[k]'(by omega)) := List.getElem?_eq_getElem _
      have e : (l.take (k + 1)).reverse = l[k]'(by omega) :: (l.take k).reverse := by
        rw [List.take_add_one, hk]; simp
      rw [e]
      have h0 : wrong1 (l[k]?.getD (0, 0)) (l[k + 1]?.getD (0, 0)) = 0 := h0
      unfold wrong1 at h0
      rw [hi, hk] at h0
      dsimp only [Option.getD_some] at h0 ⊢
      split at h0
      · omega
      · split at h0
        · exact ⟨by omega, by assumption⟩
        · omega
/-- What Check tells: the place and the Errno; none: nothing. -/
def chk (l : List Stp) : Option (Nat × Int) :=
  if l.length = 0 then some (0, 1) else if 8 < l.length then some (8, 1) else ((List.range l.length).find? fun i => wrongAt l i != 0).map fun i => (i, wrongAt l i)
theorem chk_some {l : List Stp} {k : Nat} (h0 : l.length ≤ 8) (hk : k < l.length) (h : ∀ j < k, wrongAt l j = 0) (hb : wrongAt l k ≠ 0) : chk l = some (k, wrongAt l k) := by
  unfold chk
  rw [if_neg (by omega), if_neg (by omega)]
  have : (List.range l.length).find? (fun i => wrongAt l i != 0) = some k := by
    rw [List.find?_range_eq_some]
    exact ⟨by simpa using hb, by simpa using hk, fun j hj => by simpa using h j hj⟩
  rw [this]; rfl
theorem chk_none {l : List Stp} (h0 : l.length ≤ 8) (hn : 0 < l.length) (h : ∀ j < l.length, wrongAt l j = 0) : chk l = none := by
  unfold chk
  rw [if_neg (by omega), if_neg (by omega)]
  have : (List.range l.length).find? (fun i => wrongAt l i != 0) = none := by
    rw [List.find?_eq_none]
    intro x hx
    simpa using h x (by simpa using hx)
  rw [this]; rfl
/-- A table's forward Steps; what its methods answer. -/
def atI (l : List Stp) (p : Int) : Option Stp := if 1000000 < p then none else lastAt l.reverse p
def nearT (l : List Stp) (p : Int) : Int := near l.reverse (min p 1000000)
def onT (l : List Stp) (p : Int) : Bool := decide (p ≠ 0) && decide (nearT l p = p)
def upT (l : List Stp) (p : Int) : Int × Bool := match atI l p with
  | none => (0, false)
  | some s => if (p - s.1) % s.2 = 0 then (if 1000000 < p + s.2 then (0, false) else (p + s.2, true)) else (0, false)
def downT (l : List Stp) (p : Int) : Int × Bool := if onT l p then (nearT l (p - 1), decide (nearT l (p - 1) ≠ 0)) else (0, false)
def upToT (l : List Stp) (p : Int) : Int := upTo l.reverse (min p 1000000)
def countT (l : List Stp) (lo hi : Int) : Int := if hi < lo then 0 else upToT l hi - upToT l (max lo 1 - 1)
/-- A table that Check takes. -/
def OkT (l : List Stp) : Prop := VR l.reverse ∧ l ≠ []
theorem OkT.ne {l : List Stp} (h : OkT l) : l.reverse ≠ [] := by simpa using h.2

theorem of_chk {l : List Stp} (h : chk l = none) : l ≠ [] ∧ l.length ≤ 8 ∧ ∀ j < l.length, wrongAt l j = 0 := by
  unfold chk at h
  split at h
  · cases h
  · split at h
    · cases h
    · refine ⟨fun e => by subst e; simp_all, by omega, fun j hj => ?_⟩
      have h := Option.map_eq_none_iff.1 h
      rw [List.find?_eq_none] at h
      simpa using h j (by simpa using hj)
theorem okT_of {l : List Stp} (hn : l ≠ []) (h : ∀ j < l.length, wrongAt l j = 0) : OkT l := by
  have := vr_at (Nat.le_refl _) h
  rw [List.take_length] at this
  exact ⟨this, hn⟩
theorem okT_chk {l : List Stp} (h : chk l = none) : OkT l := okT_of (of_chk h).1 (of_chk h).2.2
theorem chk_bound {l : List Stp} {k : Nat} {x : Int} (h : chk l = some (k, x)) : k ≤ 8 ∧ (x = 1 ∨ x = 2) := by
  unfold chk at h
  split at h
  · injection h with h; injection h with h1 h2; omega
  · split at h
    · injection h with h; injection h with h1 h2; omega
    · rw [Option.map_eq_some_iff] at h
      obtain ⟨i, hi, he⟩ := h
      injection he with h1 h2
      subst h1; subst h2
      have hm := List.mem_of_find?_eq_some hi
      have hp := List.find?_some hi
      have hm : i < l.length := by simpa using hm
      refine ⟨by omega, ?_⟩
      have hp : wrongAt l i ≠ 0 := by simpa using hp
      cases i with
      | zero =>
        have e : wrongAt l 0 = wrong0 (l[0]?.getD (0, 0)) := rfl
        rw [e] at hp ⊢; unfold wrong0 at *
        split
        · omega
        · rename_i hx
          rw [if_neg hx] at hp
          exact absurd rfl hp
      | succ i =>
        have e : wrongAt l (i + 1) = wrong1 (l[i]?.getD (0, 0)) (l[i + 1]?.getD (0, 0)) := rfl
        rw [e] at hp ⊢; unfold wrong1 at *
        split
        · omega
        · rename_i hx
          rw [if_neg hx] at hp
          split
          · rename_i hy; rw [if_pos hy] at hp; omega
          · omega
theorem onT_iff {l : List Stp} (h : OkT l) (p : Int) : onT l p = true ↔ 1 ≤ p ∧ p ≤ 1000000 ∧ near l.reverse p = p := by
  unfold onT nearT
  rw [Bool.and_eq_true, decide_eq_true_iff, decide_eq_true_iff]
  constructor
  · rintro ⟨h0, h1⟩
    by_cases hp : p < 1
    · rw [show min p 1000000 = p by omega, near_low h.1 hp] at h1; omega
    · have h2 := near_le h.1 h.ne (show 1 ≤ min p 1000000 by omega)
      have h3 : p ≤ 1000000 := by omega
      rw [show min p 1000000 = p by omega] at h1
      exact ⟨by omega, h3, h1⟩
  · rintro ⟨h0, h1, h2⟩
    rw [show min p 1000000 = p by omega]
    exact ⟨by omega, h2⟩
/-- All that a step up tells. -/
theorem up_all {l : List Stp} (h : OkT l) {x y : Int} (hu : upT l x = (y, true)) : onT l x = true ∧ onT l y = true ∧ x < y ∧ y ≤ 1000000 ∧ downT l y = (x, true) ∧ upToT l y = upToT l x + 1 := by
  unfold upT atI at hu
  split at hu
  · cases hu
  · rename_i s hs
    split at hs
    · cases hs
    · rename_i hx
      split at hu
      · rename_i h0
        split at hu
        · cases hu
        · rename_i hy
          injection hu with hu
          obtain ⟨a1, a2, a3⟩ := up_near h.1 hs h0
          obtain ⟨b1, b2, b3, b4, b5⟩ := lastAt_mem h.1 hs
          have hox : onT l x = true := (onT_iff h x).2 ⟨by omega, by omega, a3⟩
          have hoy : onT l y = true := (onT_iff h y).2 ⟨by omega, by omega, by rw [← hu]; exact a1⟩
          refine ⟨hox, hoy, by omega, by omega, ?_, ?_⟩
          · unfold downT nearT
            rw [if_pos hoy, show min (y - 1) 1000000 = x + s.2 - 1 by omega, a2]
            simp; omega
          · unfold upToT
            rw [show min y 1000000 = x + s.2 by omega, show min x 1000000 = x by omega, upTo_inc h.1 a1 (by omega), upTo_near h.1 (show 1 ≤ x + s.2 - 1 by omega), a2]
      · cases hu
/-- So many steps up. -/
def ups (l : List Stp) (x : Int) : Nat → Int
  | 0 => x
  | n + 1 => (upT l (ups l x n)).1
theorem ups_all {l : List Stp} (h : OkT l) {x : Int} (hx : onT l x = true) : ∀ (k : Nat), (∀ j < k, (upT l (ups l x j)).2 = true) → onT l (ups l x k) = true ∧ upToT l (ups l x k) = upToT l x + k ∧ x ≤ ups l x k ∧ ups l x k ≤ 1000000
  | 0, _ => by
    refine ⟨hx, ?_, Int.le_refl _, ?_⟩
    · show upToT l x = _; omega
    · exact ((onT_iff h x).1 hx).2.1
  | k + 1, hk => by
    obtain ⟨i1, i2, i3, i4⟩ := ups_all h hx k (fun j hj => hk j (by omega))
    have hu : upT l (ups l x k) = (ups l x (k + 1), true) := by
      rw [ups, ← hk k (by omega)]
    obtain ⟨a1, a2, a3, a4, a5, a6⟩ := up_all h hu
    exact ⟨a2, by rw [a6, i2]; omega, by omega, a4⟩
theorem ups_down {l : List Stp} (h : OkT l) {x : Int} {k : Nat} (hk : (upT l (ups l x k)).2 = true) : downT l (ups l x (k + 1)) = (ups l x k, true) ∧ ups l x k < ups l x (k + 1) := by
  have hu : upT l (ups l x k) = (ups l x (k + 1), true) := by rw [ups, ← hk]
  obtain ⟨a1, a2, a3, a4, a5, a6⟩ := up_all h hu
  exact ⟨a5, a3⟩
theorem near_on {l : List Stp} (h : OkT l) {p : Int} (h1 : 1 ≤ p) : onT l (nearT l p) = true := by
  have h2 := near_le h.1 h.ne (show 1 ≤ min p 1000000 by omega)
  rw [onT_iff h]
  unfold nearT
  exact ⟨h2.1, by omega, near_near h.1⟩
theorem count_walk {l : List Stp} (h : OkT l) {x : Int} (hx : onT l x = true) {k : Nat} (hk : ∀ j < k, (upT l (ups l x j)).2 = true) : countT l x (ups l x k) = k + 1 := by
  obtain ⟨i1, i2, i3, i4⟩ := ups_all h hx k hk
  obtain ⟨b1, b2, b3⟩ := (onT_iff h x).1 hx
  unfold countT
  rw [if_neg (by omega), i2, show max x 1 - 1 = x - 1 by omega]
  unfold upToT
  rw [show min x 1000000 = x by omega, show min (x - 1) 1000000 = x - 1 by omega, upTo_inc h.1 b3 b1]; omega
theorem count_bound {l : List Stp} (h : OkT l) (lo hi : Int) : 0 ≤ countT l lo hi ∧ countT l lo hi ≤ 1000000 := by
  unfold countT
  split
  · omega
  · unfold upToT
    obtain ⟨a1, a2⟩ := upTo_bound (p := min hi 1000000) h.1
    obtain ⟨b1, b2⟩ := upTo_bound (p := min (max lo 1 - 1) 1000000) h.1
    by_cases hh : hi < 1
    · rw [upTo_low h.1 (show min hi 1000000 < 1 by omega), upTo_low h.1 (show min (max lo 1 - 1) 1000000 < 1 by omega)]; omega
    · have := upTo_mono h.1 (show min (max lo 1 - 1) 1000000 ≤ min hi 1000000 by omega)
      have := a2 (by omega)
      omega
theorem counts {l : List Stp} {a b c : Int} (ha : 0 ≤ a) (hab : a ≤ b) (hbc : b ≤ c) : countT l a c = countT l a b + countT l (b + 1) c ∧ countT l (c + 1) a = 0 := by
  unfold countT
  rw [if_neg (show ¬ c < a by omega), if_neg (show ¬ b < a by omega), if_pos (show a < c + 1 by omega)]
  refine ⟨?_, rfl⟩
  split
  · rw [show b = c by omega]; omega
  · rw [show max (b + 1) 1 - 1 = b by omega]; omega
end Go.GridMath
