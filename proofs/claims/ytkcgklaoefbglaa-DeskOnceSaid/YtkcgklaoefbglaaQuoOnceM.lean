/- A number goes from slot to slot: plain words. -/
import Derived.Test.YtkcgklaoefbglaaQuoMath
set_option linter.unusedSimpArgs false
namespace Go.QuoMath
open Go.MapRow

/-- A desk on which no one, or one slot alone, has the number. -/
def One (id : Int) (Q : QL) (S : SL) : Prop := (Q = [] ∧ S = []) ∨ Held id Q S
where Held (id : Int) (Q : QL) (S : SL) : Prop := ∃ s : Sl, OkP s ∧ (Q = [(s, (id, 0))] ∨ Q = [(s, (0, id))]) ∧ S = [(id, s)]
theorem one_gone {id : Int} {Q : QL} {S : SL} (hid : 1 ≤ id) (h : One.Held id Q S) : ∃ s, OkP s ∧ fget S id = some s ∧ forQ Q S id = [] ∧ forS S id = [] ∧ Q.length = 1 := by
  obtain ⟨s, hs, hQ, rfl⟩ := h
  have hne : ¬ (0 : Int) = id := by omega
  refine ⟨s, hs, by simp [fget], ?_, by simp [forS, fget, fdel], by rcases hQ with rfl | rfl <;> rfl⟩
  rcases hQ with rfl | rfl
  · simp [forQ, fget, wo, fdel]
  · simp [forQ, fget, wo, fdel, hne]
theorem one_zero {id : Int} {Q : QL} {S : SL} (hid : 1 ≤ id) (h : One id Q S) : forQ Q S 0 = Q ∧ forS S 0 = S := by
  have hne : ¬ id = (0 : Int) := by omega
  rcases h with ⟨rfl, rfl⟩ | ⟨s, hs, hQ, rfl⟩
  · exact ⟨rfl, rfl⟩
  · constructor
    · simp [forQ, fget, hne]
    · simp [forS, fget, hne]
theorem one_any {id : Int} {Q : QL} {S : SL} (hid : 1 ≤ id) (h : One id Q S) : forQ Q S id = [] ∧ forS S id = [] := by
  rcases h with ⟨rfl, rfl⟩ | h
  · exact ⟨rfl, rfl⟩
  · obtain ⟨s, _, _, h1, h2, _⟩ := one_gone hid h
    exact ⟨h1, h2⟩
theorem nil_for (id : Int) : forQ [] [] id = [] ∧ forS [] id = [] := ⟨rfl, rfl⟩
theorem nil_clr (s : Sl) : clrQ [] [] s = [] ∧ clrS [] [] s = [] := ⟨rfl, rfl⟩
theorem one_bid {id : Int} {Q : QL} {S : SL} (hid : 1 ≤ id) (h : One id Q S) (s : Sl) : setQ Q S s id 0 = [(s, (id, 0))] ∧ setS Q S s id 0 = [(id, s)] := by
  have hne : ¬ id = (0 : Int) := by omega
  have a := one_any hid h
  unfold setQ setS
  rw [pair_bid hid]
  dsimp only
  rw [a.1, a.2]
  have b := nil_for 0
  rw [b.1, b.2]
  have c := nil_clr s
  rw [c.1, c.2]
  constructor
  · simp [givQ, hne, fput]
  · simp [givS, givOne, hne, fput]
theorem one_ask {id : Int} {Q : QL} {S : SL} (hid : 1 ≤ id) (h : One id Q S) (s : Sl) : setQ Q S s 0 id = [(s, (0, id))] ∧ setS Q S s 0 id = [(id, s)] := by
  have hne : ¬ id = (0 : Int) := by omega
  have a := one_zero hid h
  unfold setQ setS
  rw [pair_ask hid]
  dsimp only
  rw [a.1, a.2]
  have b := one_any hid h
  rw [b.1, b.2]
  have c := nil_clr s
  rw [c.1, c.2]
  constructor
  · simp [givQ, hne, fput]
  · simp [givS, givOne, hne, fput]
theorem held_bid {id : Int} {s : Sl} (hs : OkP s) : One.Held id [(s, (id, 0))] [(id, s)] := ⟨s, hs, .inl rfl, rfl⟩
theorem held_ask {id : Int} {s : Sl} (hs : OkP s) : One.Held id [(s, (0, id))] [(id, s)] := ⟨s, hs, .inr rfl, rfl⟩
theorem fget_one (id : Int) (s : Sl) : fget [(id, s)] id = some s := by simp [fget]
end Go.QuoMath
