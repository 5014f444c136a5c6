/- Grids, plain mathematics: what the reference's functions answer. -/
import Derived.Test.YtkcgklaoefbglaaGreatDoorGrdMath
namespace Go.GridMath

theorem upT_off {l : List Stp} (h : OkT l) {p : Int} (ho : onT l p = false) : upT l p = (0, false) := by
  unfold upT
  cases ha : atI l p with
  | none => rfl
  | some s =>
    dsimp only
    by_cases h0 : (p - s.1) % s.2 = 0
    · exfalso
      unfold atI at ha
      split at ha
      · cases ha
      · have h1 := lastAt_mem h.1 ha
        have h2 := (up_near h.1 ha h0).2.2
        have := (onT_iff h p).2 ⟨by omega, by omega, h2⟩
        rw [ho] at this; cases this
    · rw [if_neg h0]
theorem upT_on {l : List Stp} (h : OkT l) {p : Int} (ho : onT l p = true) {s : Stp} (hs : lastAt l.reverse p = some s) : upT l p = if 1000000 < p + s.2 then (0, false) else (p + s.2, true) := by
  obtain ⟨h1, h2, h3⟩ := (onT_iff h p).1 ho
  unfold upT atI
  rw [if_neg (by omega), hs]
  dsimp only
  rw [if_pos (on_aligned h3 hs)]
theorem downT_off {l : List Stp} {p : Int} (ho : onT l p = false) : downT l p = (0, false) := by
  unfold downT; rw [if_neg (by rw [ho]; simp)]
theorem downT_one {l : List Stp} (h : OkT l) (ho : onT l 1 = true) : downT l 1 = (0, false) := by
  unfold downT
  rw [if_pos ho]
  have : nearT l (1 - 1) = 0 := by unfold nearT; exact near_low h.1 (by omega)
  rw [this]; rfl
theorem downT_on {l : List Stp} (h : OkT l) {p : Int} (ho : onT l p = true) (hp : p ≠ 1) : downT l p = (nearT l (p - 1), true) := by
  unfold downT
  rw [if_pos ho]
  obtain ⟨h1, h2, h3⟩ := (onT_iff h p).1 ho
  have h4 := (near_le h.1 h.ne (show 1 ≤ min (p - 1) 1000000 by omega)).1
  have : nearT l (p - 1) ≠ 0 := by unfold nearT; omega
  rw [decide_eq_true this]
theorem onT_low {l : List Stp} (h : OkT l) {p : Int} (hp : p < 1 ∨ 1000000 < p) : onT l p = false := by
  cases ho : onT l p with
  | false => rfl
  | true =>
    have := (onT_iff h p).1 ho
    omega
theorem nearT_low {l : List Stp} (h : OkT l) {p : Int} (hp : p < 1) : nearT l p = 0 := by unfold nearT; exact near_low h.1 (by omega)
/-- So many Steps from the first on. -/
def hd (l : List Stp) (k : Nat) : List Stp := (l.take k).reverse
theorem hd_succ {l : List Stp} {k : Nat} {s : Stp} (h : l[k]? = some s) : hd l (k + 1) = s :: hd l k := by
  unfold hd; rw [List.take_add_one, h]; simp
theorem hd_all (l : List Stp) : hd l l.length = l.reverse := by unfold hd; rw [List.take_length]
theorem hd_vr {l : List Stp} (h : ∀ j < l.length, wrongAt l j = 0) {k : Nat} (hk : k ≤ l.length) : VR (hd l k) := vr_at hk (fun j hj => h j (by omega))
theorem first_one {l : List Stp} (h : ∀ j < l.length, wrongAt l j = 0) {s : Stp} (hs : l[0]? = some s) : s.1 = 1 := by
  have hl : 0 < l.length := by
    rcases Nat.eq_zero_or_pos l.length with h0 | h0
    · rw [List.getElem?_eq_none (by omega)] at hs; cases hs
    · exact h0
  have h0 : wrong0 (l[0]?.getD (0, 0)) = 0 := h 0 hl
  rw [hs] at h0
  unfold wrong0 at h0
  dsimp only [Option.getD_some] at h0
  split at h0 <;> omega
theorem next_above {l : List Stp} (h : ∀ j < l.length, wrongAt l j = 0) {k : Nat} {s t : Stp} (hs : l[k]? = some s) (ht : l[k + 1]? = some t) : s.1 < t.1 := by
  have hk : k + 1 < l.length := by
    rcases Nat.lt_or_ge (k + 1) l.length with h0 | h0
    · exact h0
    · rw [List.getElem?_eq_none h0] at ht; cases ht
  have h0 : wrong1 (l[k]?.getD (0, 0)) (l[k + 1]?.getD (0, 0)) = 0 := h (k + 1) hk
  rw [hs, ht] at h0
  unfold wrong1 at h0
  dsimp only [Option.getD_some] at h0
  split at h0 <;> omega
/-- Where the Steps before place k end. -/
def endAt (l : List Stp) (k : Nat) : Int := match l[k]? with
  | some s => s.1 - 1
  | none => 1000000
theorem endAt_ge {l : List Stp} (h : ∀ j < l.length, wrongAt l j = 0) {k : Nat} {s : Stp} (hs : l[k]? = some s) (hf : s.1 ≤ 1000000) : s.1 ≤ endAt l (k + 1) ∧ endAt l (k + 1) ≤ 1000000 := by
  unfold endAt
  cases ht : l[k + 1]? with
  | none => exact ⟨hf, Int.le_refl _⟩
  | some t =>
    have h1 := next_above h hs ht
    have hk : k + 1 < l.length := by
      rcases Nat.lt_or_ge (k + 1) l.length with h0 | h0
      · exact h0
      · rw [List.getElem?_eq_none h0] at ht; cases ht
    have h2 := fine_at (k + 1) (fun i hi => h i (by omega))
    rw [ht] at h2
    obtain ⟨_, h3, _⟩ := h2
    dsimp only [Option.getD_some] at h3 ⊢
    omega
/-- How many of the first k Steps' prices lie between. -/
def sumK (l : List Stp) (lo hi : Int) (k : Nat) : Int := upTo (hd l k) (min hi (endAt l k)) - upTo (hd l k) (min (lo - 1) (endAt l k))
theorem sumK_zero (l : List Stp) (lo hi : Int) : sumK l lo hi 0 = 0 := rfl
theorem sumK_all {l : List Stp} {lo hi : Int} (h2 : lo ≤ hi) (h3 : hi ≤ 1000000) : sumK l lo hi l.length = upTo l.reverse hi - upTo l.reverse (lo - 1) := by
  unfold sumK
  have : endAt l l.length = 1000000 := by unfold endAt; rw [List.getElem?_eq_none (Nat.le_refl _)]
  rw [this, hd_all, show min hi 1000000 = hi by omega, show min (lo - 1) 1000000 = lo - 1 by omega]
theorem sumK_bound {l : List Stp} (h : ∀ j < l.length, wrongAt l j = 0) {lo hi : Int} {k : Nat} (hk : k ≤ l.length) (h2 : lo ≤ hi) (h3 : hi ≤ 1000000) : 0 ≤ sumK l lo hi k ∧ sumK l lo hi k ≤ 1000000 := by
  have hv := hd_vr h hk
  unfold sumK
  have m := upTo_mono hv (show min (lo - 1) (endAt l k) ≤ min hi (endAt l k) by omega)
  obtain ⟨a1, a2⟩ := upTo_bound (p := min hi (endAt l k)) hv
  obtain ⟨b1, b2⟩ := upTo_bound (p := min (lo - 1) (endAt l k)) hv
  refine ⟨by omega, ?_⟩
  by_cases h0 : 0 ≤ min hi (endAt l k)
  · have := a2 h0; omega
  · rw [upTo_low hv (show min hi (endAt l k) < 1 by omega)]; omega
/-- From which price on; what a Step adds. -/
def fromS (f b lo : Int) : Int := if f < lo then f + (lo - f + b - 1) / b * b else f
def addS (f b lo hi e : Int) : Int := if fromS f b lo ≤ min hi e then (min hi e - fromS f b lo) / b + 1 else 0
theorem add_step (f b lo hi e : Int) (r : List Stp) (hb : 1 ≤ b) (he : f ≤ e) (h2 : lo ≤ hi) :
    upTo ((f, b) :: r) (min hi e) - upTo ((f, b) :: r) (min (lo - 1) e) = upTo r (min hi (f - 1)) - upTo r (min (lo - 1) (f - 1)) + addS f b lo hi e := by
  rw [upTo_cons, upTo_cons]
  dsimp only
  unfold addS fromS
  by_cases c1 : hi < f
  · rw [if_neg (show ¬ f ≤ min hi e by omega), if_neg (show ¬ f ≤ min (lo - 1) e by omega), if_neg (show ¬ f < lo by omega), if_neg (show ¬ f ≤ min hi e by omega)]
    rw [show min hi e = hi by omega, show min hi (f - 1) = hi by omega, show min (lo - 1) e = lo - 1 by omega, show min (lo - 1) (f - 1) = lo - 1 by omega]; omega
  · rw [if_pos (show f ≤ min hi e by omega)]
    by_cases c2 : lo ≤ f
    · rw [if_neg (show ¬ f ≤ min (lo - 1) e by omega), if_neg (show ¬ f < lo by omega), if_pos (show f ≤ min hi e by omega)]
      rw [show min hi (f - 1) = f - 1 by omega, show min (lo - 1) e = lo - 1 by omega, show min (lo - 1) (f - 1) = lo - 1 by omega]; omega
    · rw [if_pos (show f ≤ min (lo - 1) e by omega), if_pos (show f < lo by omega)]
      rw [show min hi (f - 1) = f - 1 by omega, show min (lo - 1) (f - 1) = f - 1 by omega]
      obtain ⟨m, hm⟩ : ∃ m, lo - 1 - f = m := ⟨_, rfl⟩
      obtain ⟨d1, d2, d3⟩ := dm m hb
      have e1 : (lo - f + b - 1) / b = m / b + 1 := by
        have h5 : b * (m / b + 1) = b * (m / b) + b := by rw [Int.mul_add, Int.mul_one]
        exact (dm_of (q := m / b + 1) (m := m % b) hb (by omega) d2 d3).1
      rw [e1, Int.mul_comm (m / b + 1) b]
      have h5 : b * (m / b + 1) = b * (m / b) + b := by rw [Int.mul_add, Int.mul_one]
      by_cases c3 : lo - 1 ≤ e
      · rw [show min (lo - 1) e = lo - 1 by omega, hm]
        obtain ⟨Q, hQ⟩ : ∃ Q, min hi e - f = Q := ⟨_, rfl⟩
        obtain ⟨q1, q2, q3⟩ := dm Q hb
        have hmq : m / b ≤ Q / b := Int.ediv_le_ediv (by omega) (by omega)
        rw [hQ]
        by_cases c4 : f + b * (m / b + 1) ≤ min hi e
        · rw [if_pos c4]
          have h6 : b * (Q / b - (m / b + 1)) = b * (Q / b) - b * (m / b + 1) := by rw [Int.mul_sub]
          have := (dm_of (a := min hi e - (f + b * (m / b + 1))) (q := Q / b - (m / b + 1)) (m := Q % b) hb (by omega) q2 q3).1
          rw [this]; omega
        · rw [if_neg c4]
          have h7 : Q / b = m / b := by
            rcases Int.lt_or_le (m / b) (Q / b) with h8 | h8
            · have := Int.mul_le_mul_of_nonneg_left (show m / b + 1 ≤ Q / b by omega) (show 0 ≤ b by omega)
              omega
            · omega
          rw [h7]; omega
      · rw [show min (lo - 1) e = e by omega, show min hi e = e by omega, if_neg (by omega)]; omega
theorem sumK_succ {l : List Stp} (h : ∀ j < l.length, wrongAt l j = 0) {lo hi : Int} {k : Nat} {f b : Int} (hs : l[k]? = some (f, b)) (hf : f ≤ 1000000) (hb : 1 ≤ b) (h2 : lo ≤ hi) :
    sumK l lo hi (k + 1) = sumK l lo hi k + addS f b lo hi (endAt l (k + 1)) := by
  unfold sumK
  rw [hd_succ hs, add_step f b lo hi _ _ hb (endAt_ge h hs hf).1 h2]
  have : endAt l k = f - 1 := by unfold endAt; rw [hs]
  rw [this]
theorem countT_main {l : List Stp} {lo hi : Int} (hlh : max lo 1 ≤ min hi 1000000) : countT l lo hi = sumK l (max lo 1) (min hi 1000000) l.length := by
  rw [sumK_all hlh (by omega)]
  unfold countT
  rw [if_neg (by omega)]
  unfold upToT
  rw [show min (max lo 1 - 1) 1000000 = max lo 1 - 1 by omega]
theorem countT_none {l : List Stp} (h : OkT l) {lo hi : Int} (hlh : ¬ max lo 1 ≤ min hi 1000000) : countT l lo hi = 0 := by
  unfold countT
  split
  · rfl
  · unfold upToT
    by_cases h1 : hi < 1
    · rw [upTo_low h.1 (show min hi 1000000 < 1 by omega), upTo_low h.1 (show min (max lo 1 - 1) 1000000 < 1 by omega)]; rfl
    · rw [show min (max lo 1 - 1) 1000000 = min hi 1000000 by omega]; omega
end Go.GridMath
