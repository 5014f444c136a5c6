/- Plain mathematics of who waits for strategies: orders, which is ahead, rows in order, a number's place; what Insert, Remove, Reduce make of two rows. No names of a seat. -/
import Derived.WalkKit
set_option linter.unusedSimpArgs false
namespace Go.CbkMath
/-- A complex order: its number, owner, side, net, units. -/
structure CO where
  id : Int
  ow : Int
  si : Int
  ne : Int
  un : Int
instance : DecidableEq CO := fun a b =>
  if h : a.id = b.id ∧ a.ow = b.ow ∧ a.si = b.si ∧ a.ne = b.ne ∧ a.un = b.un then isTrue (by
    obtain ⟨a1, a2, a3, a4, a5⟩ := a
    obtain ⟨b1, b2, b3, b4, b5⟩ := b
    obtain ⟨h1, h2, h3, h4, h5⟩ := h
    dsimp only at h1 h2 h3 h4 h5
    subst h1; subst h2; subst h3; subst h4; subst h5
    rfl)
  else isFalse (fun e => h (by subst e; exact ⟨rfl, rfl, rfl, rfl, rfl⟩))
instance : Inhabited CO := ⟨⟨0, 0, 0, 0, 0⟩⟩
def zeroC : CO := ⟨0, 0, 0, 0, 0⟩
/-- Is a ahead of b, of one side? -/
def aheadC (a b : CO) : Bool := if a.ne = b.ne then decide (a.id < b.id) else (decide (b.ne < a.ne) == decide (a.si = 1))
def takesC (o : CO) (net : Int) : Bool := if o.si = 1 then decide (net ≤ o.ne) else decide (o.ne ≤ net)
/-- May it be? -/
def okC (o : CO) : Prop := 1 ≤ o.id ∧ (o.si = 1 ∨ o.si = 2) ∧ 1 ≤ o.un ∧ o.un ≤ 1000000 ∧ -16000000 ≤ o.ne ∧ o.ne ≤ 16000000
instance (o : CO) : Decidable (okC o) := by unfold okC; infer_instance
theorem ahead_trans {a b c : CO} (h1 : a.si = b.si) (h2 : b.si = c.si) (h : aheadC a b = true) (k : aheadC b c = true) : aheadC a c = true := by
  obtain ⟨i1, o1, s1, n1, u1⟩ := a
  obtain ⟨i2, o2, s2, n2, u2⟩ := b
  obtain ⟨i3, o3, s3, n3, u3⟩ := c
  dsimp only at h1 h2
  subst h1; subst h2
  unfold aheadC at *
  dsimp only at *
  by_cases hs : s1 = 1
  · simp only [hs, decide_true, beq_true] at *
    split at h <;> split at k <;> split <;> simp at * <;> omega
  · simp only [hs, decide_false, beq_false] at *
    split at h <;> split at k <;> split <;> simp at * <;> omega
theorem ahead_total {a b : CO} (h1 : a.si = b.si) (hid : a.id ≠ b.id) : aheadC b a = !aheadC a b := by
  obtain ⟨i1, o1, s1, n1, u1⟩ := a
  obtain ⟨i2, o2, s2, n2, u2⟩ := b
  dsimp only at h1 hid
  subst h1
  unfold aheadC
  dsimp only
  by_cases hs : s1 = 1
  · simp only [hs, decide_true, beq_true]
    by_cases h : n1 = n2
    · rw [if_pos h, if_pos h.symm]; by_cases h3 : i1 < i2 <;> simp [h3] <;> omega
    · rw [if_neg h, if_neg (fun e => h e.symm)]; by_cases h3 : n2 < n1 <;> simp [h3] <;> omega
  · simp only [hs, decide_false, beq_false]
    by_cases h : n1 = n2
    · rw [if_pos h, if_pos h.symm]; by_cases h3 : i1 < i2 <;> simp [h3] <;> omega
    · rw [if_neg h, if_neg (fun e => h e.symm)]; by_cases h3 : n2 < n1 <;> simp [h3] <;> omega
/-- A row of one side, in order. -/
structure Sorted (s : Int) (L : List CO) : Prop where
  side : ∀ x ∈ L, x.si = s
  ord : L.Pairwise fun a b => aheadC a b = true
theorem Sorted.nil (s : Int) : Sorted s [] := ⟨fun _ h => (by cases h), List.Pairwise.nil⟩
theorem Sorted.sub {s : Int} {L M : List CO} (h : Sorted s L) (hs : M.Sublist L) : Sorted s M := ⟨fun x hx => h.side x (hs.subset hx), h.ord.sublist hs⟩
theorem Sorted.mono {s : Int} {L : List CO} (h : Sorted s L) {o : CO} (ho : o.si = s) {i j : Nat} {x y : CO} (hij : i ≤ j) (hx : L[i]? = some x) (hy : L[j]? = some y) (ha : aheadC o x = true) : aheadC o y = true := by
  rcases Nat.lt_or_ge i j with hlt | hge
  · obtain ⟨hi, rfl⟩ := List.getElem?_eq_some_iff.1 hx
    obtain ⟨hj, rfl⟩ := List.getElem?_eq_some_iff.1 hy
    exact ahead_trans (ho.trans (h.side _ (List.getElem_mem hi)).symm) ((h.side _ (List.getElem_mem hi)).trans (h.side _ (List.getElem_mem hj)).symm) ha (List.pairwise_iff_getElem.1 h.ord i j hi hj hlt)
  · obtain rfl : i = j := by omega
    rw [hx] at hy
    injection hy with hy
    rw [← hy]; exact ha
/-- The place at which an order goes into a row. -/
def cutC (o : CO) (L : List CO) : Nat := (L.takeWhile fun x => !aheadC o x).length
theorem cut_le (o : CO) (L : List CO) : cutC o L ≤ L.length := by
  unfold cutC
  exact (List.takeWhile_sublist _).length_le
theorem cut_at {o : CO} : ∀ {L : List CO} {r : Nat}, r ≤ L.length → (∀ i x, i < r → L[i]? = some x → aheadC o x = false) → (∀ x, L[r]? = some x → aheadC o x = true) → cutC o L = r
  | [], r, hr, _, _ => by simp at hr; subst hr; rfl
  | y :: L, 0, _, _, h2 => by
    have := h2 y rfl
    simp [cutC, List.takeWhile_cons, this]
  | y :: L, r + 1, hr, h1, h2 => by
    have := h1 0 y (by omega) rfl
    have ih := cut_at (o := o) (L := L) (r := r) (by simpa using hr) (fun i x hi hx => h1 (i + 1) x (by omega) (by simpa using hx)) (fun x hx => h2 x (by simpa using hx))
    unfold cutC at *
    simp [List.takeWhile_cons, this, ih]
theorem cut_below {o : CO} : ∀ {L : List CO} {i : Nat} {x : CO}, i < cutC o L → L[i]? = some x → aheadC o x = false
  | [], i, x, h, _ => by simp [cutC] at h
  | y :: L, i, x, h, hx => by
    unfold cutC at h
    rw [List.takeWhile_cons] at h
    cases hy : aheadC o y with
    | true => simp [hy] at h
    | false =>
      simp only [hy, Bool.not_false, ite_true, List.length_cons] at h
      cases i with
      | zero => simp at hx; rw [← hx]; exact hy
      | succ i => exact cut_below (o := o) (L := L) (i := i) (by unfold cutC; omega) (by simpa using hx)
theorem cut_from {o : CO} : ∀ {L : List CO} {x : CO}, L[cutC o L]? = some x → aheadC o x = true
  | [], x, h => by simp at h
  | y :: L, x, h => by
    unfold cutC at h
    rw [List.takeWhile_cons] at h
    cases hy : aheadC o y with
    | true => simp [hy] at h; rw [← h]; exact hy
    | false =>
      simp only [hy, Bool.not_false, ite_true, List.length_cons, List.getElem?_cons_succ] at h
      exact cut_from (o := o) (L := L) h
/-- An order put into a row. -/
def putC (o : CO) (L : List CO) : List CO := L.take (cutC o L) ++ o :: L.drop (cutC o L)
theorem put_len (o : CO) (L : List CO) : (putC o L).length = L.length + 1 := by
  have := cut_le o L
  simp [putC]; omega
theorem put_mem {o : CO} {L : List CO} {x : CO} : x ∈ putC o L ↔ x = o ∨ x ∈ L := by
  unfold putC
  rw [List.mem_append, List.mem_cons]
  conv => rhs; rw [← List.take_append_drop (cutC o L) L, List.mem_append]
  constructor
  · rintro (h | h | h)
    · exact .inr (.inl h)
    · exact .inl h
    · exact .inr (.inr h)
  · rintro (h | h | h)
    · exact .inr (.inl h)
    · exact .inl h
    · exact .inr (.inr h)
theorem put_sorted {s : Int} {L : List CO} (h : Sorted s L) {o : CO} (ho : o.si = s) (hn : ∀ x ∈ L, x.id ≠ o.id) : Sorted s (putC o L) := by
  refine ⟨fun x hx => ?_, ?_⟩
  · rcases put_mem.1 hx with rfl | hx
    · exact ho
    · exact h.side x hx
  · have hl := h.ord
    rw [← List.take_append_drop (cutC o L) L, List.pairwise_append] at hl
    obtain ⟨p1, p2, p3⟩ := hl
    unfold putC
    rw [List.pairwise_append, List.pairwise_cons]
    refine ⟨p1, ⟨fun y hy => ?_, p2⟩, fun x hx y hy => ?_⟩
    · obtain ⟨j, hj⟩ := List.mem_iff_getElem?.1 hy
      rw [List.getElem?_drop] at hj
      have hlt : cutC o L + j < L.length := (List.getElem?_eq_some_iff.1 hj).1
      obtain ⟨z, hz⟩ : ∃ z, L[cutC o L]? = some z := ⟨_, List.getElem?_eq_getElem (by omega)⟩
      exact h.mono ho (Nat.le_add_right _ _) hz hj (cut_from hz)
    · rcases List.mem_cons.1 hy with rfl | hy
      · obtain ⟨j, hj⟩ := List.mem_iff_getElem?.1 hx
        have hjl : j < (L.take (cutC y L)).length := (List.getElem?_eq_some_iff.1 hj).1
        rw [List.length_take] at hjl
        rw [List.getElem?_take, if_pos (by omega)] at hj
        have hm := List.mem_of_getElem? hj
        have := cut_below (o := y) (by omega) hj
        rw [ahead_total ((ho.trans (h.side x hm).symm)) (fun e => hn x hm e.symm), this]
        rfl
      · exact p3 x hx y hy
/-- Two rows: who buys, who sells. -/
abbrev Dk := List CO × List CO
def rowD (s : Int) (D : Dk) : List CO := if s = 1 then D.1 else if s = 2 then D.2 else []
def setD (s : Int) (l : List CO) (D : Dk) : Dk := if s = 1 then (l, D.2) else (D.1, l)
/-- A number's place in a row, and its order. -/
def seekFrom (id : Int) : List CO → Nat → Option (Nat × CO)
  | [], _ => none
  | x :: l, k => if x.id = id then some (k, x) else seekFrom id l (k + 1)
def seekC (L : List CO) (id : Int) : Option (Nat × CO) := seekFrom id L 0
theorem seekFrom_none {id : Int} : ∀ {L : List CO} {k : Nat}, seekFrom id L k = none ↔ ∀ x ∈ L, x.id ≠ id
  | [], k => by simp [seekFrom]
  | x :: l, k => by
    unfold seekFrom
    split
    · rename_i h
      simp [h]
    · rename_i h
      rw [seekFrom_none (L := l)]
      simp [h]
theorem seekFrom_some {id : Int} : ∀ {L : List CO} {k j : Nat} {o : CO}, seekFrom id L k = some (j, o) → ∃ i, j = k + i ∧ L[i]? = some o ∧ o.id = id ∧ ∀ a x, a < i → L[a]? = some x → x.id ≠ id
  | [], k, j, o, h => by simp [seekFrom] at h
  | x :: l, k, j, o, h => by
    unfold seekFrom at h
    split at h
    · rename_i he
      injection h with h
      injection h with h1 h2
      subst h1; subst h2
      exact ⟨0, rfl, rfl, he, fun a x ha => absurd ha (Nat.not_lt_zero _)⟩
    · rename_i he
      obtain ⟨i, h1, h2, h3, h4⟩ := seekFrom_some h
      refine ⟨i + 1, by omega, by simpa using h2, h3, fun a y ha hy => ?_⟩
      cases a with
      | zero => simp at hy; rw [← hy]; exact he
      | succ a => exact h4 a y (by omega) (by simpa using hy)
theorem seek_none {L : List CO} {id : Int} : seekC L id = none ↔ ∀ x ∈ L, x.id ≠ id := seekFrom_none
theorem seek_some {L : List CO} {id : Int} {k : Nat} {o : CO} (h : seekC L id = some (k, o)) : L[k]? = some o ∧ o.id = id ∧ ∀ a x, a < k → L[a]? = some x → x.id ≠ id := by
  obtain ⟨i, h1, h2⟩ := seekFrom_some h
  rw [Nat.zero_add] at h1
  subst h1
  exact h2
theorem seek_at {L : List CO} {id : Int} {k : Nat} {o : CO} (h1 : L[k]? = some o) (h2 : o.id = id) (h3 : ∀ a x, a < k → L[a]? = some x → x.id ≠ id) : seekC L id = some (k, o) := by
  cases h : seekC L id with
  | none => exact absurd h2 (seek_none.1 h o (List.mem_of_getElem? h1))
  | some p =>
    obtain ⟨j, y⟩ := p
    obtain ⟨a1, a2, a3⟩ := seek_some h
    rcases Nat.lt_trichotomy j k with h' | h' | h'
    · exact absurd a2 (h3 j y h' a1)
    · subst h'
      rw [h1] at a1
      injection a1 with a1
      rw [a1]
    · exact absurd h2 (a3 k o h' h1)
def get2 (D : Dk) (id : Int) : Option (Nat × CO) := (seekC D.1 id).or (seekC D.2 id)
/-- One of which so many units less are wanted. -/
def lessC (u : Int) (o : CO) : CO := ⟨o.id, o.ow, o.si, o.ne, o.un - u⟩
def insE (D : Dk) (o : CO) : Int := if ¬ okC o then 1 else if (get2 D o.id).isSome then 6 else if 256 ≤ D.1.length + D.2.length then 8 else 0
def insD (D : Dk) (o : CO) : Dk := if insE D o = 0 then setD o.si (putC o (rowD o.si D)) D else D
def cutD (D : Dk) (k : Nat) (o : CO) : Dk := setD o.si ((rowD o.si D).eraseIdx k) D
def remO (D : Dk) (id : Int) : CO × Bool := match get2 D id with
  | none => (zeroC, false)
  | some (_, o) => (o, true)
def remD (D : Dk) (id : Int) : Dk := match get2 D id with
  | none => D
  | some (k, o) => cutD D k o
def redO (D : Dk) (id u : Int) : CO × Int := match get2 D id with
  | none => (zeroC, 5)
  | some (_, o) => if 1 ≤ u ∧ u ≤ o.un then (lessC u o, 0) else (zeroC, 1)
def redD (D : Dk) (id u : Int) : Dk := match get2 D id with
  | none => D
  | some (k, o) => if 1 ≤ u ∧ u ≤ o.un then (if u = o.un then cutD D k o else setD o.si ((rowD o.si D).set k (lessC u o)) D) else D
/-- A book as it may be. -/
structure Inv (D : Dk) : Prop where
  s1 : Sorted 1 D.1
  s2 : Sorted 2 D.2
  ids : ((D.1 ++ D.2).map (·.id)).Nodup
  ok : ∀ x ∈ D.1 ++ D.2, okC x
  most : D.1.length + D.2.length ≤ 256
theorem Inv.nil : Inv ([], []) := ⟨.nil _, .nil _, by simp, fun _ h => by simp at h, by simp⟩
/-- Where a number is. -/
theorem get2_some {D : Dk} (h : Inv D) {id : Int} {k : Nat} {o : CO} (hg : get2 D id = some (k, o)) : (rowD o.si D)[k]? = some o ∧ o.id = id ∧ okC o ∧ ((o.si = 1 ∧ seekC D.1 id = some (k, o)) ∨ (o.si = 2 ∧ seekC D.1 id = none ∧ seekC D.2 id = some (k, o))) := by
  unfold get2 at hg
  cases h1 : seekC D.1 id with
  | some p =>
    rw [h1] at hg
    simp at hg
    subst hg
    obtain ⟨a1, a2, _⟩ := seek_some h1
    have hm := List.mem_of_getElem? a1
    have hs := h.s1.side o hm
    refine ⟨?_, a2, h.ok o (List.mem_append_left _ hm), .inl ⟨hs, rfl⟩⟩
    rw [hs]
    exact a1
  | none =>
    rw [h1] at hg
    simp at hg
    obtain ⟨a1, a2, _⟩ := seek_some hg
    have hm := List.mem_of_getElem? a1
    have hs := h.s2.side o hm
    refine ⟨?_, a2, h.ok o (List.mem_append_right _ hm), .inr ⟨hs, rfl, hg⟩⟩
    rw [hs]
    exact a1
theorem get2_none {D : Dk} {id : Int} (hg : get2 D id = none) : seekC D.1 id = none ∧ seekC D.2 id = none := by
  unfold get2 at hg
  cases h1 : seekC D.1 id with
  | some p => rw [h1] at hg; simp at hg
  | none => rw [h1] at hg; simp at hg; exact ⟨rfl, hg⟩
theorem get2_fresh {D : Dk} {id : Int} (hg : get2 D id = none) : ∀ x ∈ D.1 ++ D.2, x.id ≠ id := by
  obtain ⟨h1, h2⟩ := get2_none hg
  intro x hx
  rcases List.mem_append.1 hx with h | h
  · exact seek_none.1 h1 x h
  · exact seek_none.1 h2 x h
theorem ins_inv {D : Dk} (h : Inv D) (o : CO) : Inv (insD D o) := by
  unfold insD
  split
  · rename_i he
    unfold insE at he
    split at he
    · cases he
    · rename_i hok
      have hok : okC o := by simpa using hok
      split at he
      · cases he
      · rename_i hg
        split at he
        · cases he
        · rename_i hm
          have hg : get2 D o.id = none := by simpa using hg
          have hf := get2_fresh hg
          have hids := h.ids
          rw [List.map_append, List.nodup_append] at hids
          obtain ⟨n1, n2, n3⟩ := hids
          have hnd : ∀ (L : List CO), (L.map (·.id)).Nodup → (∀ x ∈ L, x.id ≠ o.id) → ((putC o L).map (·.id)).Nodup := by
            intro L hL hx
            unfold putC
            rw [List.map_append, List.map_cons]
            refine (List.perm_middle.nodup_iff).2 ?_
            rw [List.nodup_cons, ← List.map_append, List.take_append_drop]
            refine ⟨fun hc => ?_, hL⟩
            obtain ⟨x, hx1, hx2⟩ := List.mem_map.1 hc
            exact hx x hx1 hx2
          rcases hok.2.1 with hs | hs
          · simp only [hs, setD, rowD, if_pos]
            refine ⟨put_sorted h.s1 hs (fun x hx => hf x (List.mem_append_left _ hx)), h.s2, ?_, ?_, ?_⟩
            · rw [List.map_append, List.nodup_append]
              refine ⟨hnd _ n1 (fun x hx => hf x (List.mem_append_left _ hx)), n2, fun a ha b hb => ?_⟩
              obtain ⟨x, hx, rfl⟩ := List.mem_map.1 ha
              rcases put_mem.1 hx with rfl | hx
              · obtain ⟨y, hy, rfl⟩ := List.mem_map.1 hb
                exact fun e => hf y (List.mem_append_right _ hy) e.symm
              · exact n3 _ (List.mem_map_of_mem hx) b hb
            · intro x hx
              rcases List.mem_append.1 hx with hx | hx
              · rcases put_mem.1 hx with rfl | hx
                · exact hok
                · exact h.ok x (List.mem_append_left _ hx)
              · exact h.ok x (List.mem_append_right _ hx)
            · show (putC o D.1).length + D.2.length ≤ 256
              rw [put_len]
              omega
          · simp only [hs, setD, rowD, if_pos, if_neg (show ¬ (2 : Int) = 1 by decide)]
            refine ⟨h.s1, put_sorted h.s2 hs (fun x hx => hf x (List.mem_append_right _ hx)), ?_, ?_, ?_⟩
            · rw [List.map_append, List.nodup_append]
              refine ⟨n1, hnd _ n2 (fun x hx => hf x (List.mem_append_right _ hx)), fun a ha b hb => ?_⟩
              obtain ⟨x, hx, rfl⟩ := List.mem_map.1 hb
              rcases put_mem.1 hx with rfl | hx
              · obtain ⟨y, hy, rfl⟩ := List.mem_map.1 ha
                exact hf y (List.mem_append_left _ hy)
              · exact n3 a ha _ (List.mem_map_of_mem hx)
            · intro x hx
              rcases List.mem_append.1 hx with hx | hx
              · exact h.ok x (List.mem_append_left _ hx)
              · rcases put_mem.1 hx with rfl | hx
                · exact hok
                · exact h.ok x (List.mem_append_right _ hx)
            · show D.1.length + (putC o D.2).length ≤ 256
              rw [put_len]
              omega
  · exact h
theorem cut_inv {D : Dk} (h : Inv D) (k : Nat) (o : CO) (hs : o.si = 1 ∨ o.si = 2) : Inv (cutD D k o) := by
  have hids := h.ids
  have hmost := h.most
  rcases hs with hs | hs
  · simp only [cutD, hs, setD, rowD, if_pos]
    have hsub : (D.1.eraseIdx k).Sublist D.1 := List.eraseIdx_sublist _ _
    refine ⟨h.s1.sub hsub, h.s2, ?_, fun x hx => h.ok x ?_, ?_⟩
    · exact hids.sublist (List.Sublist.map _ (List.Sublist.append hsub (List.Sublist.refl _)))
    · exact (List.Sublist.append hsub (List.Sublist.refl _)).subset hx
    · have := hsub.length_le
      show (D.1.eraseIdx k).length + D.2.length ≤ 256
      omega
  · simp only [cutD, hs, setD, rowD, if_pos, if_neg (show ¬ (2 : Int) = 1 by decide)]
    have hsub : (D.2.eraseIdx k).Sublist D.2 := List.eraseIdx_sublist _ _
    refine ⟨h.s1, h.s2.sub hsub, ?_, fun x hx => h.ok x ?_, ?_⟩
    · exact hids.sublist (List.Sublist.map _ (List.Sublist.append (List.Sublist.refl _) hsub))
    · exact (List.Sublist.append (List.Sublist.refl _) hsub).subset hx
    · have := hsub.length_le
      show D.1.length + (D.2.eraseIdx k).length ≤ 256
      omega
theorem rem_inv {D : Dk} (h : Inv D) (id : Int) : Inv (remD D id) := by
  unfold remD
  split
  · exact h
  · rename_i k o hg
    exact cut_inv h k o (get2_some h hg).2.2.1.2.1
/-- Reduced where it stands, a row is in order still. -/
theorem less_sorted {s : Int} {L : List CO} (h : Sorted s L) {k : Nat} {o : CO} (hk : L[k]? = some o) (u : Int) : Sorted s (L.set k (lessC u o)) := by
  have hkl := (List.getElem?_eq_some_iff.1 hk).1
  have hko := (List.getElem?_eq_some_iff.1 hk).2
  refine ⟨fun x hx => ?_, ?_⟩
  · rcases List.mem_or_eq_of_mem_set hx with hx | rfl
    · exact h.side x hx
    · exact h.side o (List.mem_of_getElem? hk)
  · rw [List.pairwise_iff_getElem]
    intro i j hi hj hij
    rw [List.length_set] at hi hj
    have := List.pairwise_iff_getElem.1 h.ord i j hi hj hij
    rw [List.getElem_set, List.getElem_set]
    split
    · rename_i e
      subst e
      rw [if_neg (by omega)]
      rw [hko] at this
      exact this
    · split
      · rename_i e
        subst e
        rw [hko] at this
        exact this
      · exact this
theorem less_ids {L : List CO} {k : Nat} {o : CO} (hk : L[k]? = some o) (u : Int) : (L.set k (lessC u o)).map (·.id) = L.map (·.id) := by
  rw [List.map_set]
  have e : (L.map (·.id))[k]? = some o.id := by rw [List.getElem?_map, hk]; rfl
  obtain ⟨h1, h2⟩ := List.getElem?_eq_some_iff.1 e
  show (L.map (·.id)).set k o.id = _
  rw [← h2, List.set_getElem_self]
theorem less_ok {o : CO} (h : okC o) {u : Int} (h1 : 1 ≤ u) (h2 : u < o.un) : okC (lessC u o) := by
  obtain ⟨a1, a2, a3, a4, a5⟩ := h
  exact ⟨a1, a2, by simp only [lessC]; omega, by simp only [lessC]; omega, a5⟩
theorem red_inv {D : Dk} (h : Inv D) (id u : Int) : Inv (redD D id u) := by
  unfold redD
  split
  · exact h
  · rename_i k o hg
    obtain ⟨g1, g2, g3, g4⟩ := get2_some h hg
    split
    · rename_i hu
      split
      · exact cut_inv h k o g3.2.1
      · rename_i hne
        have hlo := less_ok g3 hu.1 (by omega)
        have hids := h.ids
        have hmost := h.most
        rcases g4 with ⟨hs, _⟩ | ⟨hs, _⟩
        · simp only [hs, setD, rowD, if_pos] at g1 ⊢
          refine ⟨less_sorted h.s1 g1 u, h.s2, ?_, fun x hx => ?_, by simpa using hmost⟩
          · rw [List.map_append] at hids ⊢
            show (((D.1.set k (lessC u o)).map (·.id)) ++ D.2.map (·.id)).Nodup
            rw [less_ids g1]
            exact hids
          · rcases List.mem_append.1 hx with hx | hx
            · rcases List.mem_or_eq_of_mem_set hx with hx | rfl
              · exact h.ok x (List.mem_append_left _ hx)
              · exact hlo
            · exact h.ok x (List.mem_append_right _ hx)
        · simp only [hs, setD, rowD, if_pos, if_neg (show ¬ (2 : Int) = 1 by decide)] at g1 ⊢
          refine ⟨h.s1, less_sorted h.s2 g1 u, ?_, fun x hx => ?_, by simpa using hmost⟩
          · rw [List.map_append] at hids ⊢
            show (D.1.map (·.id) ++ ((D.2.set k (lessC u o)).map (·.id))).Nodup
            rw [less_ids g1]
            exact hids
          · rcases List.mem_append.1 hx with hx | hx
            · exact h.ok x (List.mem_append_left _ hx)
            · rcases List.mem_or_eq_of_mem_set hx with hx | rfl
              · exact h.ok x (List.mem_append_right _ hx)
              · exact hlo
    · exact h
end Go.CbkMath
