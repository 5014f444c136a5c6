/- A table of Steps in memory; a Step's meets. -/
import Derived.Test.YtkcgklaoefbglaaGreatDoorChg
import Derived.Test.YtkcgklaoefbglaaGreatDoorGrdMath
import Derived.Test.YtkcgklaoefbglaaGreatDoorRows
import Derived.WalkKit
import Derived.WalkSpells
import Derived.WalkLawsBesides
import Derived.Handy
import Derived.Lib.Hide
set_option linter.unusedSimpArgs false
namespace Go.Proofs.YtkcgklaoefbglaaGreatDoor
open Go.RowKit Go.Mem1 Go.GridMath

/-- A slice value that reads as Steps, below block B. -/
structure TabAt (w : World) (B : Nat) (A : Option Addr) (n : Nat) (l : List Stp) : Prop where
  len : l.length = n
  at_ : ∀ (k : Nat) (s : Stp), l[k]? = some s → ∃ b off, A = some ⟨b, off, none⟩ ∧ b < B ∧ w.cell? ⟨b, off + k * 2, none⟩ = some (.int .i64 s.1) ∧ w.cell? ⟨b, off + k * 2 + 1, none⟩ = some (.int .i64 s.2)
theorem TabAt.carry {w w' : World} {B : Nat} {A : Option Addr} {n : Nat} {l : List Stp} (h : TabAt w B A n l) (hb : Below B w w') : TabAt w' B A n l :=
  ⟨h.len, fun k s hs => by
    obtain ⟨b, off, e, hlt, h1, h2⟩ := h.at_ k s hs
    exact ⟨b, off, e, hlt, (hb.cell (p := ⟨b, _, none⟩) hlt).trans h1, (hb.cell (p := ⟨b, _, none⟩) hlt).trans h2⟩⟩
theorem TabAt.wider {w : World} {B B' : Nat} {A : Option Addr} {n : Nat} {l : List Stp} (h : TabAt w B A n l) (hB : B ≤ B') : TabAt w B' A n l :=
  ⟨h.len, fun k s hs => by
    obtain ⟨b, off, e, hlt, h1, h2⟩ := h.at_ k s hs
    exact ⟨b, off, e, by omega, h1, h2⟩⟩
theorem TabAt.drew {w : World} {B : Nat} {A : Option Addr} {n : Nat} {l : List Stp} (h : TabAt w B A n l) : TabAt w.drew B A n l := h.carry (Below.refl _ _).drew
theorem TabAt.empty (w : World) (B : Nat) (A : Option Addr) : TabAt w B A 0 [] := ⟨rfl, fun k s hs => by simp at hs⟩
theorem TabAt.get {w : World} {B : Nat} {A : Option Addr} {n : Nat} {l : List Stp} (h : TabAt w B A n l) {k : Nat} (hk : k < n) :
    ∃ b off s, A = some ⟨b, off, none⟩ ∧ b < B ∧ l[k]? = some s ∧ w.cell? ⟨b, off + k * 2, none⟩ = some (.int .i64 s.1) ∧ w.cell? ⟨b, off + k * 2 + 1, none⟩ = some (.int .i64 s.2) := by
  have hl : k < l.length := by rw [h.len]; exact hk
  have hx : l[k]? = some l[k] := List.getElem?_eq_getElem hl
  obtain ⟨b, off, e, hlt, h1, h2⟩ := h.at_ k _ hx
  exact ⟨b, off, _, e, hlt, hx, h1, h2⟩
/-- Of a block just made. -/
theorem TabAt.made (w : World) (cs : Array Value) (t : TypeId) (fr : Nat × Nat) (n : Nat) (l : List Stp) (hn : l.length = n) (h : ∀ (k : Nat) (s : Stp), l[k]? = some s → cs[k * 2]? = some (.int .i64 s.1) ∧ cs[k * 2 + 1]? = some (.int .i64 s.2)) {g B : Nat} (hg : g = w.heap.size) (hB : B = (w.alloc (.cells cs t fr)).heap.size) :
    TabAt (w.alloc (.cells cs t fr)) B (some ⟨g, 0, none⟩) n l := by
  subst hg; subst hB
  refine ⟨hn, fun k s hs => ⟨_, _, rfl, by simp, ?_, ?_⟩⟩
  · rw [Nat.zero_add, cell_of_row _ _ _ cs _ fr (heap_alloc_new w _)]; exact (h k s hs).1
  · rw [Nat.zero_add, cell_of_row _ _ _ cs _ fr (heap_alloc_new w _)]; exact (h k s hs).2

theorem iwrap {x : Int} (h : -1000000000000 ≤ x ∧ x ≤ 1000000000000) : IntKind.i64.wrap x = x := by rw [IntKind.wrap_i64]; omega
theorem wrap64_id {x : Int} (h : -1000000000000 ≤ x ∧ x ≤ 1000000000000) : wrap64 x = x := by unfold wrap64; omega
theorem bel_drawn {B : Nat} {a w : World} (h : Below B a w) (n : Nat) : Below B a (w.drewN n) := h.trans ⟨rfl, rfl, rfl, Nat.le_refl _, fun _ _ => rfl⟩
set_option maxHeartbeats 400000 in
theorem meets_any (f b p : Int) (w : World) (hb : 1 ≤ b) (hf : 1 ≤ f) (hp : f ≤ p) (hm : p ≤ 1000000) :
    Calls Tryz.prog 78 #[.agg #[.int .i64 f, .int .i64 b], .int .i64 p] w fun e w' => e = .returned (.bool (decide ((p - f) % b = 0))) ∧ w' = w.alloc (.cells #[.int .i64 f, .int .i64 b] 43) := by
  go_enter Tryz.func78, Tryz.ntmps78
  go_wp2_with fail
  go_ret
  exact ⟨rfl, rfl⟩
end Go.Proofs.YtkcgklaoefbglaaGreatDoor
