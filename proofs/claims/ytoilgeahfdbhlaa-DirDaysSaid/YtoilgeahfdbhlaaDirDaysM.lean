/- DirDays in plain mathematics: what is listed, what a day takes, what was seen. -/
import Derived.Test.YtoilgeahfdbhlaaDirKnown
set_option linter.unusedSimpArgs false
namespace Go.Proofs.Ytoilgeahfdbhlaa
open Go.RowKit Go.Mem1 Go.GridMath Go.DirMath

/-- What is listed of the expiries, on a day. -/
def stL (E : List Nat) (now : Int) : List Lst := E.mapIdx fun (i e : Nat) => ((⟨ab, 1 + (e : Int), (i : Int) + 1, 1⟩ : Ser), if 1 + (e : Int) ≤ now then 4 else 1)
theorem stL_len (E : List Nat) (now : Int) : (stL E now).length = E.length := by simp [stL]
theorem stL_at {E : List Nat} {now : Int} {i e : Nat} (h : E[i]? = some e) : (stL E now)[i]? = some ((⟨ab, 1 + (e : Int), (i : Int) + 1, 1⟩ : Ser), if 1 + (e : Int) ≤ now then 4 else 1) := by
  unfold stL
  rw [List.getElem?_mapIdx, h]; rfl
theorem stL_inv {E : List Nat} {now : Int} {i : Nat} {x : Lst} (h : (stL E now)[i]? = some x) : ∃ e, E[i]? = some e ∧ x = ((⟨ab, 1 + (e : Int), (i : Int) + 1, 1⟩ : Ser), if 1 + (e : Int) ≤ now then 4 else 1) := by
  unfold stL at h
  rw [List.getElem?_mapIdx] at h
  cases he : E[i]? with
  | none => rw [he] at h; cases h
  | some e => rw [he] at h; injection h with h; exact ⟨e, rfl, h.symm⟩
theorem stL_snoc {E : List Nat} {k e : Nat} (h : E[k]? = some e) : stL (E.take (k + 1)) 0 = stL (E.take k) 0 ++ [((⟨ab, 1 + (e : Int), (k : Int) + 1, 1⟩ : Ser), 1)] := by
  have hk : k < E.length := by
    rcases Nat.lt_or_ge k E.length with h' | h'
    · exact h'
    · rw [List.getElem?_eq_none h'] at h; cases h
  have e1 : E[k] = e := by rw [List.getElem?_eq_getElem hk] at h; injection h
  unfold stL
  rw [List.take_succ_eq_append_getElem hk, List.mapIdx_concat, e1, List.length_take, Nat.min_eq_left (by omega), if_neg (by omega)]
theorem stL_strikes {E : List Nat} {now : Int} {n : Nat} (hn : E.length ≤ n) : ∀ y ∈ stL E now, y.1.st ≠ (n : Int) + 1 := by
  intro y hy
  obtain ⟨i, hi, e⟩ := List.mem_iff_getElem.1 hy
  obtain ⟨x, _, hx⟩ := stL_inv (show (stL E now)[i]? = some y by rw [List.getElem?_eq_getElem hi, e])
  rw [stL_len] at hi
  rw [hx]
  dsimp only
  omega
theorem stL_gone {E : List Nat} {now d : Int} (h : now < d) : gone d (stL E now) = stL E d := by
  apply List.ext_getElem?
  intro i
  unfold gone stL
  rw [List.getElem?_map, List.getElem?_mapIdx, List.getElem?_mapIdx]
  cases E[i]? with
  | none => rfl
  | some e =>
    simp only [Option.map_some, goes]
    by_cases h1 : 1 + (e : Int) ≤ now
    · have h2 : 1 + (e : Int) ≤ d := by omega
      simp [h1, h2]
    · by_cases h2 : 1 + (e : Int) ≤ d <;> simp [h1, h2]
/-- Was a number seen to expire? -/
def seenF (E : List Nat) (now : Int) (j : Nat) : Bool := match j with
  | 0 => false
  | i + 1 => match E[i]? with
    | none => false
    | some e => decide (1 + (e : Int) ≤ now)
theorem seenF_some {E : List Nat} {i e : Nat} (he : E[i]? = some e) (now : Int) : seenF E now (i + 1) = decide (1 + (e : Int) ≤ now) := by simp [seenF, he]
theorem seenF_none {E : List Nat} {i : Nat} (he : E[i]? = none) (now : Int) : seenF E now (i + 1) = false := by simp [seenF, he]
/-- Who expires on a day: their numbers rise, lie between 1 and n, and were not seen. -/
theorem ids_mem {E : List Nat} {now d : Int} {x : Int} : x ∈ goneIds d (stL E now) ↔ ∃ i e : Nat, E[i]? = some e ∧ now < 1 + (e : Int) ∧ 1 + (e : Int) ≤ d ∧ x = (i : Int) + 1 := by
  unfold goneIds
  simp only [List.mem_map, List.mem_filter]
  constructor
  · rintro ⟨⟨y, i⟩, ⟨hm, hg⟩, rfl⟩
    have hi := List.mk_mem_zipIdx_iff_getElem?.1 hm
    obtain ⟨e, he, rfl⟩ := stL_inv hi
    refine ⟨i, e, he, ?_, ?_, rfl⟩
    · unfold goes at hg
      by_cases h : 1 + (e : Int) ≤ now
      · simp [h] at hg
      · omega
    · unfold goes at hg
      simp at hg
      exact hg.1
  · rintro ⟨i, e, he, h1, h2, rfl⟩
    refine ⟨(_, i), ⟨List.mk_mem_zipIdx_iff_getElem?.2 (stL_at he), ?_⟩, rfl⟩
    unfold goes
    rw [if_neg (by omega)]
    simp [h2]
theorem ids_up (d : Int) (L : List Lst) : (goneIds d L).Pairwise (· < ·) := by
  have gen : ∀ k, k ≤ L.length → (goneIds d (L.take k)).Pairwise (· < ·) ∧ ∀ x ∈ goneIds d (L.take k), x ≤ (k : Int) := by
    intro k
    induction k with
    | zero => intro _; simp [goneIds]
    | succ k ih =>
      intro hk
      obtain ⟨h1, h2⟩ := ih (by omega)
      rw [ids_succ (List.getElem?_eq_getElem (show k < L.length by omega))]
      by_cases hg : goes d L[k]
      · rw [if_pos hg]
        refine ⟨List.pairwise_append.2 ⟨h1, by simp, fun a ha b hb => ?_⟩, fun x hx => ?_⟩
        · rw [List.mem_singleton.1 hb]; have := h2 a ha; omega
        · rcases List.mem_append.1 hx with h | h
          · have := h2 x h; omega
          · rw [List.mem_singleton.1 h]; omega
      · rw [if_neg hg, List.append_nil]
        exact ⟨h1, fun x hx => by have := h2 x hx; omega⟩
  have := (gen L.length (Nat.le_refl _)).1
  rwa [List.take_length] at this
/-- What is seen while a day's numbers are gone over. -/
def seenK (E : List Nat) (now : Int) (ids : List Int) (k : Nat) (j : Nat) : Bool := seenF E now j || decide ((j : Int) ∈ ids.take k)
def seenV (n : Nat) (f : Nat → Bool) : List Value := (List.range (n + 1)).map fun j => .bool (f j)
theorem seenV_at {n : Nat} {f : Nat → Bool} {j : Nat} (h : j ≤ n) : (seenV n f)[j]? = some (.bool (f j)) := by
  simp [seenV, show j < n + 1 by omega]
theorem seenV_set {n : Nat} {f g : Nat → Bool} {x : Nat} (h : ∀ j ≤ n, g j = if j = x then true else f j) : (seenV n f).set x (.bool true) = seenV n g := by
  apply List.ext_getElem?
  intro j
  rw [List.getElem?_set]
  by_cases hj : j ≤ n
  · rw [seenV_at hj, seenV_at hj, h j hj]
    have : x < (seenV n f).length ∨ ¬ x < (seenV n f).length := Decidable.em _
    by_cases hx : x = j
    · subst hx
      rw [if_pos rfl, if_pos (by simp [seenV]; omega), if_pos rfl]
    · rw [if_neg hx, if_neg (fun e => hx e.symm)]
  · have e1 : (seenV n f)[j]? = none := List.getElem?_eq_none (by simp [seenV]; omega)
    have e2 : (seenV n g)[j]? = none := List.getElem?_eq_none (by simp [seenV]; omega)
    rw [e1, e2]
    by_cases hx : x = j
    · subst hx; rw [if_pos rfl, if_neg (by simp [seenV]; omega)]
    · rw [if_neg hx]
theorem seenV_len (n : Nat) (f : Nat → Bool) : (seenV n f).length = n + 1 := by simp [seenV]
theorem seenV_congr {n : Nat} {f g : Nat → Bool} (h : ∀ j ≤ n, f j = g j) : seenV n f = seenV n g := by
  unfold seenV
  apply List.map_congr_left
  intro j hj
  rw [h j (by simpa using List.mem_range.1 hj |> Nat.le_of_lt_succ)]
/-- One of a day's numbers. -/
theorem id_at {E : List Nat} {now d : Int} {k : Nat} {x : Int} (h : (goneIds d (stL E now))[k]? = some x) : ∃ i : Nat, x = (i : Int) + 1 ∧ i < E.length ∧ seenK E now (goneIds d (stL E now)) k (i + 1) = false ∧ (∀ y, 0 < k → (goneIds d (stL E now))[k - 1]? = some y → y < x) := by
  obtain ⟨i, e, he, h1, h2, rfl⟩ := ids_mem.1 (List.mem_of_getElem? h)
  have hi : i < E.length := by
    rcases Nat.lt_or_ge i E.length with h' | h'
    · exact h'
    · rw [List.getElem?_eq_none h'] at he; cases he
  have hup := List.pairwise_iff_getElem.1 (ids_up d (stL E now))
  have hk : k < (goneIds d (stL E now)).length := by
    rcases Nat.lt_or_ge k (goneIds d (stL E now)).length with h' | h'
    · exact h'
    · rw [List.getElem?_eq_none h'] at h; cases h
  rw [List.getElem?_eq_getElem hk] at h
  injection h with h
  refine ⟨i, rfl, hi, ?_, ?_⟩
  · unfold seenK
    rw [seenF_some he, decide_eq_false (by omega), Bool.false_or, decide_eq_false_iff_not]
    intro hm
    obtain ⟨j, hj, ej⟩ := List.mem_iff_getElem.1 hm
    rw [List.length_take] at hj
    rw [List.getElem_take] at ej
    have := hup j k (by omega) hk (by omega)
    rw [ej, h] at this
    push_cast at this
    omega
  · intro y hk0 hy
    rw [List.getElem?_eq_getElem (show k - 1 < (goneIds d (stL E now)).length by omega)] at hy
    injection hy with hy
    have := hup (k - 1) k (by omega) hk (by omega)
    rw [hy, h] at this
    exact this
theorem seenK_succ {E : List Nat} {now d : Int} {k i : Nat} (h : (goneIds d (stL E now))[k]? = some ((i : Int) + 1)) (j : Nat) : seenK E now (goneIds d (stL E now)) (k + 1) j = if j = i + 1 then true else seenK E now (goneIds d (stL E now)) k j := by
  have hk : k < (goneIds d (stL E now)).length := by
    rcases Nat.lt_or_ge k (goneIds d (stL E now)).length with h' | h'
    · exact h'
    · rw [List.getElem?_eq_none h'] at h; cases h
  rw [List.getElem?_eq_getElem hk] at h
  injection h with h
  unfold seenK
  rw [List.take_succ_eq_append_getElem hk, h]
  by_cases hj : j = i + 1
  · subst hj
    rw [if_pos rfl]
    simp
  · rw [if_neg hj]
    have : ¬ (j : Int) = (i : Int) + 1 := by omega
    simp [this]
theorem seenK_all {E : List Nat} {now d : Int} (hd : now < d) (j : Nat) : seenK E now (goneIds d (stL E now)) (goneIds d (stL E now)).length j = seenF E d j := by
  unfold seenK
  rw [List.take_length]
  cases j with
  | zero =>
    have : ¬ ((0 : Nat) : Int) ∈ goneIds d (stL E now) := fun h => by
      obtain ⟨i, e, _, _, _, hx⟩ := ids_mem.1 h
      omega
    rw [decide_eq_false this]; rfl
  | succ i =>
    cases he : E[i]? with
    | none =>
      rw [seenF_none he, seenF_none he]
      have : ¬ ((i + 1 : Nat) : Int) ∈ goneIds d (stL E now) := fun h => by
        obtain ⟨i', e, he', _, _, hx⟩ := ids_mem.1 h
        obtain rfl : i' = i := by omega
        rw [he] at he'; cases he'
      rw [decide_eq_false this]; rfl
    | some e =>
      rw [seenF_some he, seenF_some he]
      have : ((i + 1 : Nat) : Int) ∈ goneIds d (stL E now) ↔ now < 1 + (e : Int) ∧ 1 + (e : Int) ≤ d := by
        rw [ids_mem]
        constructor
        · rintro ⟨i', e', he', h1, h2, hx⟩
          obtain rfl : i' = i := by omega
          rw [he] at he'; injection he' with he'; subst he'
          exact ⟨h1, h2⟩
        · rintro ⟨h1, h2⟩
          exact ⟨i, e, he, h1, h2, by omega⟩
      rw [Bool.eq_iff_iff, Bool.or_eq_true, decide_eq_true_iff, decide_eq_true_iff, decide_eq_true_iff, this]
      omega
theorem seenK_zero (E : List Nat) (now : Int) (ids : List Int) (j : Nat) : seenK E now ids 0 j = seenF E now j := by simp [seenK]
end Go.Proofs.Ytoilgeahfdbhlaa
