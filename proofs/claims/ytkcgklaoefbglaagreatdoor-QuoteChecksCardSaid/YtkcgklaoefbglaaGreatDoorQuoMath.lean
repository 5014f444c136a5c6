/- A desk of quotes as two rows of pairs, in plain words: a number forgotten, a slot cleared, a quote set. No names of a seat. -/
import Derived.Test.YtkcgklaoefbglaaGreatDoorMapK
set_option linter.unusedSimpArgs false
namespace Go.QuoMath
open Go.MapRow

/-- A slot: its maker, its series. -/
abbrev Sl := Int × Int
/-- The numbers of a quote's orders. -/
abbrev Pr := Int × Int
abbrev QL := List (Sl × Pr)
abbrev SL := List (Int × Sl)
/-- A pair but for one of its numbers. -/
def wo (q : Pr) (id : Int) : Pr := if q.1 = id then (0, q.2) else (q.1, 0)
/-- The quotes behind Forget. -/
def forQ (Q : QL) (S : SL) (id : Int) : QL :=
  match fget S id with
  | none => Q
  | some s => if wo ((fget Q s).getD (0, 0)) id = (0, 0) then fdel Q s else fput Q s (wo ((fget Q s).getD (0, 0)) id)
/-- The numbers behind Forget. -/
def forS (S : SL) (id : Int) : SL :=
  match fget S id with
  | none => S
  | some _ => fdel S id
/-- A slot's pair. -/
def prOf (Q : QL) (s : Sl) : Pr := (fget Q s).getD (0, 0)
def clrQ (Q : QL) (S : SL) (s : Sl) : QL := forQ (forQ Q S (prOf Q s).1) (forS S (prOf Q s).1) (prOf Q s).2
def clrS (Q : QL) (S : SL) (s : Sl) : SL := forS (forS S (prOf Q s).1) (prOf Q s).2
/-- The numbers that come as those of two sides. -/
def pairO (b a : Int) : Pr := if max a 0 = max b 0 then (max b 0, 0) else (max b 0, max a 0)
def givQ (Q : QL) (s : Sl) (q : Pr) : QL := if q = (0, 0) then Q else fput Q s q
def givOne (S : SL) (s : Sl) (id : Int) : SL := if id = 0 then S else fput S id s
def givS (S : SL) (s : Sl) (q : Pr) : SL := if q = (0, 0) then S else givOne (givOne S s q.1) s q.2
def setQ (Q : QL) (S : SL) (s : Sl) (b a : Int) : QL :=
  givQ (clrQ (forQ (forQ Q S (pairO b a).1) (forS S (pairO b a).1) (pairO b a).2) (forS (forS S (pairO b a).1) (pairO b a).2) s) s (pairO b a)
def setS (Q : QL) (S : SL) (s : Sl) (b a : Int) : SL :=
  givS (clrS (forQ (forQ Q S (pairO b a).1) (forS S (pairO b a).1) (pairO b a).2) (forS (forS S (pairO b a).1) (pairO b a).2) s) s (pairO b a)

/-- A number that an int64 holds. -/
def OkI (n : Int) : Prop := (Lit.int .i64 n).wf = true
def OkP (p : Int × Int) : Prop := OkI p.1 ∧ OkI p.2
theorem OkI.zero : OkI 0 := by unfold OkI; decide
theorem OkP.zero : OkP (0, 0) := ⟨OkI.zero, OkI.zero⟩
/-- What is known of a desk's numbers. -/
structure Fine (Q : QL) (S : SL) : Prop where
  prs : ∀ p ∈ Q, OkP p.2
  sls : ∀ p ∈ S, OkP p.2
theorem fget_mem {α β : Type} [DecidableEq α] {L : List (α × β)} {a : α} {b : β} (h : fget L a = some b) : (a, b) ∈ L := by
  unfold fget at h
  cases hf : L.find? (fun p => decide (p.1 = a)) with
  | none => rw [hf] at h; cases h
  | some p =>
    rw [hf] at h
    simp at h
    have h1 := List.find?_some hf
    simp at h1
    have h2 := List.mem_of_find?_eq_some hf
    rw [← h1, ← h]
    exact h2
theorem Fine.at {Q : QL} {S : SL} (h : Fine Q S) (s : Sl) : OkP (prOf Q s) := by
  unfold prOf
  cases hf : fget Q s with
  | none => exact OkP.zero
  | some p => exact h.prs _ (fget_mem hf)
theorem Fine.slot {Q : QL} {S : SL} (h : Fine Q S) {id : Int} {s : Sl} (hs : fget S id = some s) : OkP s := h.sls _ (fget_mem hs)
theorem OkP.wo {q : Pr} (h : OkP q) (id : Int) : OkP (wo q id) := by
  unfold QuoMath.wo
  split
  · exact ⟨OkI.zero, h.2⟩
  · exact ⟨h.1, OkI.zero⟩
theorem fput_all {α β : Type} [DecidableEq α] {R : β → Prop} {L : List (α × β)} {a : α} {b : β} (h : ∀ p ∈ L, R p.2) (hb : R b) : ∀ p ∈ fput L a b, R p.2 := by
  intro p hp
  rcases fput_keys p hp with rfl | ⟨hp, _⟩
  · exact hb
  · exact h p hp
theorem fdel_all {α β : Type} [DecidableEq α] {R : β → Prop} {L : List (α × β)} {a : α} (h : ∀ p ∈ L, R p.2) : ∀ p ∈ fdel L a, R p.2 := fun p hp => h p (List.mem_filter.1 hp).1
theorem Fine.forget {Q : QL} {S : SL} (h : Fine Q S) (id : Int) : Fine (forQ Q S id) (forS S id) := by
  cases hf : fget S id with
  | none => unfold forQ forS; rw [hf]; exact h
  | some s =>
    have ho := (h.at s).wo id
    unfold prOf at ho
    unfold forQ forS
    rw [hf]
    refine ⟨?_, fdel_all (R := OkP) h.sls⟩
    dsimp only
    split
    · exact fdel_all (R := OkP) h.prs
    · exact fput_all (R := OkP) h.prs ho
theorem OkI.top {n : Int} (h : OkI n) : OkI (max n 0) := by
  rcases Int.le_total n 0 with h0 | h0
  · rw [Int.max_eq_right h0]; exact OkI.zero
  · rw [Int.max_eq_left h0]; exact h
theorem OkP.pairO {b a : Int} (hb : OkI b) (ha : OkI a) : OkP (pairO b a) := by
  unfold QuoMath.pairO
  split
  · exact ⟨hb.top, OkI.zero⟩
  · exact ⟨hb.top, ha.top⟩
theorem fineNil : Fine [] [] := ⟨fun _ h => by simp at h, fun _ h => by simp at h⟩
/-- What DeskOnce comes to. -/
theorem pair_bid {id : Int} (h : 1 ≤ id) : pairO id 0 = (id, 0) := by
  have h1 : max id 0 = id := Int.max_eq_left (by omega)
  unfold pairO
  rw [h1, if_neg (by simp; omega)]
  rfl
theorem pair_ask {id : Int} (h : 1 ≤ id) : pairO 0 id = (0, id) := by
  have h1 : max id 0 = id := Int.max_eq_left (by omega)
  unfold pairO
  rw [h1, if_neg (by simp; omega)]
  rfl
end Go.QuoMath
