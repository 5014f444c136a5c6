/- A switch of fills in plain words: which times are past, what one more makes of a row; a row's element behind a put, a strike. No names of a seat but the import. -/
import Derived.Test.YtekeciciajbnnaaMapK
set_option linter.unusedSimpArgs false
namespace Go.KilMath
open Go.MapRow

/-- A number that an int64 holds. -/
def OkI (n : Int) : Prop := (Lit.int .i64 n).wf = true
theorem okI_small {n : Int} (h0 : 0 ≤ n) (h1 : n ≤ 1099511627776) : OkI n := by
  unfold OkI
  simp [Lit.wf, IntKind.min, IntKind.max, IntKind.signed, IntKind.bits]
  omega
/-- A maker's row as it lies: the slice of its times, its last time. -/
abbrev Rw := Value × Int
abbrev RL := List (Int × Rw)
abbrev OL := List (Int × Unit)
section
variable {α β : Type} [DecidableEq α]
theorem find_pair (L : List (α × β)) (a : α) (b : β) : (L.map (fun p => if p.1 = a then (a, b) else p)).find? (fun p => decide (p.1 = a)) = (L.find? (fun p => decide (p.1 = a))).map (fun _ => (a, b)) := by
  induction L with
  | nil => rfl
  | cons p l ih =>
    rw [List.map_cons]
    by_cases h : p.1 = a
    · rw [if_pos h, List.find?_cons_of_pos (by simp), List.find?_cons_of_pos (by simpa using h)]; rfl
    · rw [if_neg h, List.find?_cons_of_neg (by simpa using h), List.find?_cons_of_neg (by simpa using h)]; exact ih
theorem find_other (L : List (α × β)) {a k : α} (b : β) (hk : k ≠ a) : (L.map (fun p => if p.1 = a then (a, b) else p)).find? (fun p => decide (p.1 = k)) = L.find? (fun p => decide (p.1 = k)) := by
  induction L with
  | nil => rfl
  | cons p l ih =>
    rw [List.map_cons]
    by_cases h : p.1 = a
    · rw [if_pos h, List.find?_cons_of_neg (by simpa using hk.symm), List.find?_cons_of_neg (by simpa using fun e => hk (e.symm.trans h))]; exact ih
    · rw [if_neg h]
      by_cases h2 : p.1 = k
      · rw [List.find?_cons_of_pos (by simpa using h2), List.find?_cons_of_pos (by simpa using h2)]
      · rw [List.find?_cons_of_neg (by simpa using h2), List.find?_cons_of_neg (by simpa using h2)]; exact ih
theorem fget_put_same (L : List (α × β)) (a : α) (b : β) : fget (fput L a b) a = some b := by
  unfold fget fput
  split
  · rename_i h
    rw [find_pair]
    obtain ⟨p, hp, hq⟩ := List.any_eq_true.1 h
    cases hf : L.find? (fun p => decide (p.1 = a)) with
    | none => exact absurd hq (List.find?_eq_none.1 hf p hp)
    | some x => rfl
  · rename_i h
    rw [List.find?_append, List.find?_eq_none.2 (fun p hp hq => h (List.any_eq_true.2 ⟨p, hp, hq⟩))]
    simp
theorem fget_put_other (L : List (α × β)) {a k : α} (b : β) (hk : k ≠ a) : fget (fput L a b) k = fget L k := by
  unfold fget fput
  split
  · rw [find_other L b hk]
  · rw [List.find?_append]
    have : ([(a, b)] : List (α × β)).find? (fun p => decide (p.1 = k)) = none := by simp [hk.symm]
    rw [this]
    simp
theorem fget_del_same (L : List (α × β)) (a : α) : fget (fdel L a) a = none := fget_none (fun p hp => by
  have := (List.mem_filter.1 hp).2
  simpa using this)
theorem fget_del_other (L : List (α × β)) {a k : α} (hk : k ≠ a) : fget (fdel L a) k = fget L k := by
  unfold fget fdel
  congr 1
  induction L with
  | nil => rfl
  | cons p l ih =>
    by_cases h : p.1 = a
    · rw [List.filter_cons_of_neg (by simpa using h), List.find?_cons_of_neg (by simpa using fun e => hk (e.symm.trans h))]; exact ih
    · rw [List.filter_cons_of_pos (by simpa using h)]
      by_cases h2 : p.1 = k
      · rw [List.find?_cons_of_pos (by simpa using h2), List.find?_cons_of_pos (by simpa using h2)]
      · rw [List.find?_cons_of_neg (by simpa using h2), List.find?_cons_of_neg (by simpa using h2)]; exact ih
theorem fget_put_some (L : List (α × β)) {a k : α} (b : β) : (fget (fput L a b) k).isSome = (decide (k = a) || (fget L k).isSome) := by
  by_cases h : k = a
  · subst h; rw [fget_put_same]; simp
  · rw [fget_put_other L b h]; simp [h]
end
/-- A function set at one place. -/
def upd {β : Type} (f : Int → β) (a : Int) (b : β) : Int → β := fun k => if k = a then b else f k
theorem upd_same {β : Type} (f : Int → β) (a : Int) (b : β) : upd f a b a = b := by simp [upd]
theorem upd_other {β : Type} (f : Int → β) {a k : Int} (b : β) (h : k ≠ a) : upd f a b k = f k := by simp [upd, h]
theorem upd_upd {β : Type} (f : Int → β) (a : Int) (b c : β) : upd (upd f a b) a c = upd f a c := by
  funext k
  by_cases h : k = a <;> simp [upd, h]
theorem upd_self {β : Type} (f : Int → β) (a : Int) (b : β) (h : f a = b) : upd f a b = f := by
  funext k
  by_cases hk : k = a
  · subst hk; rw [upd_same, h]
  · rw [upd_other f b hk]
/-- Whether a time is past. -/
def out (now win t : Int) : Bool := !decide (now - t < win)
/-- How many of a row's times are past. -/
def pastN (ts : List Int) (now win : Int) : Nat := ts.countP (out now win)
theorem pastN_le (ts : List Int) (now win : Int) : pastN ts now win ≤ ts.length := List.countP_le_length
theorem pastN_at {ts : List Int} {now win : Int} {r : Nat} (hr : r ≤ ts.length) (h1 : ∀ i t, i < r → ts[i]? = some t → out now win t = true) (h2 : ∀ i t, r ≤ i → ts[i]? = some t → out now win t = false) : pastN ts now win = r := by
  unfold pastN
  rw [← List.take_append_drop r ts, List.countP_append]
  have a1 : (ts.take r).countP (out now win) = (ts.take r).length := List.countP_eq_length.2 (fun t ht => by
    obtain ⟨i, hi⟩ := List.getElem?_of_mem ht
    rw [List.getElem?_take] at hi
    split at hi
    · exact h1 i t (by assumption) hi
    · cases hi)
  have a2 : (ts.drop r).countP (out now win) = 0 := List.countP_eq_zero.2 (fun t ht => by
    obtain ⟨i, hi⟩ := List.getElem?_of_mem ht
    rw [List.getElem?_drop] at hi
    rw [h2 (r + i) t (by omega) hi]
    simp)
  rw [a1, a2, List.length_take]
  omega
/-- A row behind one fill more. -/
def fillT (ts : List Int) (now win : Int) : List Int := ts.drop (pastN ts now win) ++ [now]
/-- What holds of a row's times: they do not fall, none is past the last, none below 0. -/
structure Tms (ts : List Int) (last : Int) : Prop where
  sorted : ts.Pairwise (· ≤ ·)
  low : ∀ t ∈ ts, 0 ≤ t
  high : ∀ t ∈ ts, t ≤ last
  len : ts.length ≤ 1000
theorem Tms.nil (l : Int) : Tms [] l := ⟨List.Pairwise.nil, by simp, by simp, by simp⟩
theorem Tms.later {ts : List Int} {l m : Int} (h : Tms ts l) (hm : l ≤ m) : Tms ts m := ⟨h.sorted, h.low, fun t ht => Int.le_trans (h.high t ht) hm, h.len⟩
theorem Tms.fill {ts : List Int} {now win : Int} (h : Tms ts now) (h0 : 0 ≤ now) (hl : ts.length < 1000) : Tms (fillT ts now win) now := by
  unfold fillT
  refine ⟨?_, ?_, ?_, ?_⟩
  · refine List.pairwise_append.2 ⟨h.sorted.sublist (List.drop_sublist _ _), by simp, fun a ha b hb => ?_⟩
    simp at hb
    subst hb
    exact h.high a (List.mem_of_mem_drop ha)
  · intro t ht
    rcases List.mem_append.1 ht with ht | ht
    · exact h.low t (List.mem_of_mem_drop ht)
    · simp at ht; omega
  · intro t ht
    rcases List.mem_append.1 ht with ht | ht
    · exact h.high t (List.mem_of_mem_drop ht)
    · simp at ht; omega
  · simp; omega
/-- A later time is in the window where an earlier one is. -/
theorem Tms.mono {ts : List Int} {now win : Int} (h : Tms ts now) {a b : Nat} {x y : Int} (hab : a ≤ b) (ha : ts[a]? = some x) (hb : ts[b]? = some y) (hx : now - x < win) : now - y < win := by
  rcases Nat.lt_or_ge a b with hlt | hge
  · obtain ⟨h1, h2⟩ := List.getElem?_eq_some_iff.1 ha
    obtain ⟨h3, h4⟩ := List.getElem?_eq_some_iff.1 hb
    have := List.pairwise_iff_getElem.1 h.sorted a b h1 h3 hlt
    rw [h2, h4] at this
    omega
  · have : a = b := by omega
    subst this
    rw [ha] at hb
    injection hb with hb
    omega
end Go.KilMath
