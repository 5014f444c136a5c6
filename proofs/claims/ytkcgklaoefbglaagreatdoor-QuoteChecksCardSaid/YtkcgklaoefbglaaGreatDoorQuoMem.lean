/- A desk in memory; its maps' keys; the contracts of New, without, pairOf, Len, Whose. -/
import Derived.Test.YtkcgklaoefbglaaGreatDoorRows
import Derived.WalkKit
import Derived.WalkSpells
import Derived.WalkLawsBesides
import Derived.Handy
import Derived.Lib.Hide
import Derived.DeepKeys5
import Derived.Test.YtkcgklaoefbglaaGreatDoorKit
import Derived.Test.YtkcgklaoefbglaaGreatDoorQuoMath
set_option linter.unusedSimpArgs false
namespace Go.Proofs.YtkcgklaoefbglaaGreatDoor
open Go.RowKit Go.Mem1 Go.MapRow Go.QuoMath
open Go.Maps (Keyed)

theorem qb {a b : Bool} (h : a = b) : Ending.returned (.bool a) = .returned (.bool b) := by rw [h]
/-- A slot, a pair as values. -/
def slV (s : Sl) : Value := .agg #[.int .i64 s.1, .int .i64 s.2]
def prV (p : Pr) : Value := .agg #[.int .i64 p.1, .int .i64 p.2]
def idV (n : Int) : Value := .int .i64 n
theorem slV_inj : ∀ a b : Sl, slV a = slV b → a = b := fun a b h => by
  obtain ⟨a1, a2⟩ := a
  obtain ⟨b1, b2⟩ := b
  simp [slV] at h
  simp [h.1, h.2]
theorem idV_inj : ∀ a b : Int, idV a = idV b → a = b := fun a b h => by simpa [idV] using h
theorem keyI : Keyed Tryz.prog 2 := Maps.int_keyed Tryz.underlying2
theorem keyS : Keyed Tryz.prog 47 := Keyed.of_law (deep_law_gate (by kernel_rfl) (of_decide_eq_true (by kernel_rfl)) (of_decide_eq_true (by kernel_rfl)) (by kernel_rfl) (by rw [Tryz.underlying47]))
theorem okI_key {n : Int} (h : OkI n) : ∃ l, keyOf Tryz.prog 2 (idV n) = some l := ⟨_, Maps.keyOf_int_mk Tryz.underlying2 h⟩
theorem lits_int {n : Int} (h : OkI n) (d : Nat) : Tryz.prog.keyLits (d + 1) 3 [.int .i64 n] = some [.int .i64 n] := by
  unfold Program.keyLits
  have h' : (Lit.int .i64 n).wf = true := h
  simp [Tryz.underlying3, h']
theorem okS_key {s : Sl} (h : OkP s) : ∃ l, keyOf Tryz.prog 47 (slV s) = some l := by
  obtain ⟨m, n⟩ := s
  have h1 : Tryz.prog.keyType 47 = true := by kernel_rfl
  have h2 : (slV (m, n)).formed Tryz.prog 47 = true := by simp [slV, Value.formed, Tryz.underlying47]; kernel_rfl
  have h3 : ∃ d, Tryz.prog.types.size + 1 = d + 1 + 1 := ⟨Tryz.prog.types.size - 1, by have : 0 < Tryz.prog.types.size := of_decide_eq_true (by kernel_rfl); omega⟩
  obtain ⟨d, h3⟩ := h3
  have c1 : Tryz.prog.cellsOf 3 = 1 := by kernel_rfl
  have c2 : Tryz.prog.cellsOf 47 = 2 := by kernel_rfl
  have l1 := lits_int h.1 d
  have l2 := lits_int h.2 d
  unfold keyOf
  rw [Tryz.underlying47]
  dsimp only
  rw [h1, h2, h3]
  unfold Program.keyLits
  simp [Tryz.underlying47, slV, Value.cells, c1, c2, l1, l2]
/-- The blocks that are a desk's own. -/
def Own (g : Nat) (m : Option (Nat × Nat)) : Nat → Prop := fun j => j = g ∨ ∃ p, m = some p ∧ (j = p.1 ∨ j = p.2)
/-- A desk: its block, its maps. -/
structure DeskAt (w : World) (B g : Nat) (m : Option (Nat × Nat)) (Q : QL) (S : SL) : Prop where
  box : Box w g 73 #[.map (m.map (·.1)), .map (m.map (·.2))]
  low : ∀ j, Own g m j → B ≤ j
  fine : Fine Q S
  bare : m = none → Q = [] ∧ S = []
  maps : ∀ p, m = some p → p.1 ≠ p.2 ∧ MapIs Tryz.prog 47 slV prV w p.1 Q ∧ MapIs Tryz.prog 2 idV slV w p.2 S
section
variable {w w' : World} {B g : Nat} {m : Option (Nat × Nat)} {Q : QL} {S : SL}
theorem DeskAt.carry (h : DeskAt w B g m Q S) (hb : Below w.heap.size w w') : DeskAt w' B g m Q S :=
  ⟨h.box.kept_below hb h.box.there, h.low, h.fine, h.bare, fun p hp => ⟨(h.maps p hp).1, (h.maps p hp).2.1.of_block (hb.block _ (h.maps p hp).2.1.lt), (h.maps p hp).2.2.of_block (hb.block _ (h.maps p hp).2.2.lt)⟩⟩
theorem DeskAt.there (h : DeskAt w B g m Q S) : g < w.heap.size := h.box.there
theorem DeskAt.off (h : DeskAt w B g m Q S) {k : Nat} {t : TypeId} {cs : Array Value} (hx : Box w k t cs) (ht : t ≠ 73) : ¬ Own g m k := by
  rintro (rfl | ⟨p, hp, hj⟩)
  · exact hx.apart h.box ht rfl
  · have hb : w.heap[k]? = some (.cells cs t (0, 0)) := hx
    obtain ⟨_, h1, h2⟩ := h.maps p hp
    rcases hj with rfl | rfl
    · obtain ⟨es, c, h3, _⟩ := h1.block
      rw [h3] at hb
      cases hb
    · obtain ⟨es, c, h3, _⟩ := h2.block
      rw [h3] at hb
      cases hb
theorem DeskAt.own_lt (h : DeskAt w B g m Q S) {j : Nat} (hj : Own g m j) : j < w.heap.size := by
  rcases hj with rfl | ⟨p, hp, rfl | rfl⟩
  · exact h.there
  · exact (h.maps p hp).2.1.lt
  · exact (h.maps p hp).2.2.lt
theorem DeskAt.off_map (h : DeskAt w B g m Q S) {p : Nat × Nat} (hp : m = some p) : p.1 ≠ g ∧ p.2 ≠ g := by
  have hb : w.heap[g]? = some (.cells _ 73 (0, 0)) := h.box
  obtain ⟨_, h1, h2⟩ := h.maps p hp
  constructor
  · rintro rfl
    obtain ⟨es, c, h3, _⟩ := h1.block
    rw [h3] at hb
    cases hb
  · rintro rfl
    obtain ⟨es, c, h3, _⟩ := h2.block
    rw [h3] at hb
    cases hb
/-- The looks in the maps, nil or not. -/
theorem zeroPr (w : World) : (zeroValue 75).run Tryz.prog w = .ok (prV (0, 0)) w := by kernel_rfl
theorem zeroSl (w : World) : (zeroValue 47).run Tryz.prog w = .ok (slV (0, 0)) w := by kernel_rfl
theorem getD_map {α : Type} (f : α → Value) (o : Option α) (z : α) : (o.map f).getD (f z) = f (o.getD z) := by cases o <;> rfl
theorem DeskAt.lookQ (h : DeskAt w B g m Q S) {s : Sl} (hs : OkP s) : (Instr.lookup 70 (.map (m.map (·.1))) (slV s) false).run Tryz.prog w = .ok (prV (prOf Q s)) w ∧
    (Instr.lookup 70 (.map (m.map (·.1))) (slV s) true).run Tryz.prog w = .ok (.tuple #[prV (prOf Q s), .bool (fget Q s).isSome]) w := by
  cases hm : m with
  | none =>
    obtain ⟨rfl, rfl⟩ := h.bare hm
    exact ⟨look_nil keyS Tryz.underlying70 (zeroPr w) (okS_key hs) false, look_nil keyS Tryz.underlying70 (zeroPr w) (okS_key hs) true⟩
  | some p =>
    obtain ⟨_, h1, _⟩ := h.maps p hm
    have k1 := h1.look keyS slV_inj Tryz.underlying70 (zeroPr w) (okS_key hs) false
    have k2 := h1.look keyS slV_inj Tryz.underlying70 (zeroPr w) (okS_key hs) true
    rw [getD_map] at k1 k2
    exact ⟨by simpa [prOf] using k1, by simpa [prOf] using k2⟩
theorem DeskAt.lookS (h : DeskAt w B g m Q S) {id : Int} (hi : OkI id) :
    (Instr.lookup 71 (.map (m.map (·.2))) (.int .i64 id) true).run Tryz.prog w = .ok (.tuple #[slV ((fget S id).getD (0, 0)), .bool (fget S id).isSome]) w := by
  cases hm : m with
  | none =>
    obtain ⟨rfl, rfl⟩ := h.bare hm
    exact look_nil keyI Tryz.underlying71 (zeroSl w) (okI_key hi) true
  | some p =>
    obtain ⟨_, _, h1⟩ := h.maps p hm
    have k1 := h1.look keyI idV_inj Tryz.underlying71 (zeroSl w) (okI_key hi) true
    rw [getD_map] at k1
    simpa [idV] using k1
theorem DeskAt.lenQ (h : DeskAt w B g m Q S) (ty : TypeId) : (Builtin.len_ #[70] ty #[.map (m.map (·.1))]).run Tryz.prog w = .ok (.int .i64 Q.length) w := by
  cases hm : m with
  | none =>
    obtain ⟨rfl, rfl⟩ := h.bare hm
    exact len_nil Tryz.underlying70 ty
  | some p => exact (h.maps p hm).2.1.len Tryz.underlying70 ty
end
/-- New: a desk without quotes. -/
theorem qnew_any (w : World) : Calls Tryz.prog 11 #[] w fun e w' => e = .returned (.pointer (some ⟨w.heap.size, 0, none⟩)) ∧ DeskAt w' w.heap.size w.heap.size none [] [] ∧ Below w.heap.size w w' := by
  go_enter Tryz.func11, Tryz.ntmps11
  go_wp2_with fail
  go_ret
  refine ⟨rfl, ⟨Box.fresh w _ _ rfl, ?_, fineNil, fun _ => ⟨rfl, rfl⟩, fun p hp => by cases hp⟩, bel_new _ _⟩
  rintro j (rfl | ⟨p, hp, _⟩)
  · exact Nat.le_refl _
  · cases hp
set_option maxHeartbeats 1000000 in
theorem wo_any (q : Pr) (id : Int) (w : World) : Calls Tryz.prog 26 #[prV q, .int .i64 id] w fun e w' => e = .returned (prV (wo q id)) ∧ Below w.heap.size w w' := by
  obtain ⟨b, a⟩ := q
  by_cases h : b = id
  · have hw : wo (b, a) id = (0, a) := by simp [wo, h]
    rw [hw]
    subst h
    change Calls Tryz.prog 26 #[.agg #[.int .i64 b, .int .i64 a], .int .i64 b] w _
    go_enter Tryz.func26, Tryz.ntmps26
    go_wp2_with fail
    refine bodyPost_ret (v := prV (0, a)) (by simp [results, Tryz.results26, go_sem, prV]) rfl ⟨rfl, ?_⟩
    first | exact bel_alloc (bel_new _ _) _
  · have hw : wo (b, a) id = (b, 0) := by simp [wo, h]
    rw [hw]
    change Calls Tryz.prog 26 #[.agg #[.int .i64 b, .int .i64 a], .int .i64 id] w _
    go_enter Tryz.func26, Tryz.ntmps26
    go_wp2_with fail
    refine bodyPost_ret (v := prV (b, 0)) (by simp [results, Tryz.results26, go_sem, prV]) rfl ⟨rfl, ?_⟩
    first | exact bel_alloc (bel_new _ _) _
theorem prV_pairO {b a x y : Int} (hx : x = max b 0) (hy : (y = max a 0 ∧ y ≠ x) ∨ (y = 0 ∧ max a 0 = x)) : Value.agg #[.int .i64 x, .int .i64 y] = prV (pairO b a) := by
  subst hx
  unfold pairO
  rcases hy with ⟨h2, h3⟩ | ⟨h2, h3⟩
  · rw [if_neg (fun e => h3 (h2.trans e)), h2]; rfl
  · rw [if_pos h3, h2]; rfl
set_option maxHeartbeats 1000000 in
theorem pairOf_any (b a : Int) (w : World) : Calls Tryz.prog 23 #[.int .i64 b, .int .i64 a] w fun e w' => e = .returned (prV (pairO b a)) ∧ Below w.heap.size w w' := by
  go_enter Tryz.func23, Tryz.ntmps23
  go_wp2_with fail
  all_goals (refine bodyPost_ret (v := prV (pairO b a)) (by simp only [beq_iff_eq, beq_eq_false_iff_ne] at *; simp [results, Tryz.results23, go_sem]; exact prV_pairO (by omega) (by omega)) rfl ⟨rfl, ?_⟩)
  all_goals exact bel_alloc (bel_new _ _) _
end Go.Proofs.YtkcgklaoefbglaaGreatDoor
