/- A switch in memory: its box, its two maps, each maker's row of times; what a call of it keeps; New, Off. -/
import Derived.Test.YtekeciciajbnnaaRows
import Derived.WalkKit
import Derived.WalkSpells
import Derived.WalkLawsBesides
import Derived.Handy
import Derived.Lib.Hide
import Derived.Test.YtekeciciajbnnaaKit
import Derived.Test.YtekeciciajbnnaaKilMath
set_option linter.unusedSimpArgs false
namespace Go.Proofs.Ytekeciciajbnnaa
open Go.RowKit Go.Mem1 Go.MapRow Go.KilMath
open Go.Maps (Keyed)

def idV (n : Int) : Value := .int .i64 n
def rowV (r : Rw) : Value := .agg #[r.1, .int .i64 r.2]
def onV (_ : Unit) : Value := .agg #[]
theorem idV_inj : ∀ a b : Int, idV a = idV b → a = b := fun a b h => by simpa [idV] using h
theorem keyI : Keyed Try.prog 3 := Maps.int_keyed Try.underlying3
theorem okI_key {n : Int} (h : OkI n) : ∃ l, keyOf Try.prog 3 (idV n) = some l := ⟨_, Maps.keyOf_int_mk Try.underlying3 h⟩
/-- A row of times. -/
def Times (w : World) (B : Nat) (v : Value) (ts : List Int) : Prop := w.ownsRow B 2 1 v ts.length (ts.map idV)
/-- The blocks that are a switch's own; of rows, those of the makers in D. -/
def Own (g : Nat) (m1 m2 : Option Nat) (L : RL) (D : Int → Prop) : Nat → Prop := fun j => j = g ∨ m1 = some j ∨ m2 = some j ∨ ∃ k v l, D k ∧ fget L k = some (v, l) ∧ v.ownBlock = some j
/-- A switch: its block, its maps, its rows (those of the makers in D are in order). -/
structure SwAt (w : World) (B g : Nat) (f win : Int) (m1 m2 : Option Nat) (L : RL) (O : OL) (T : Int → List Int) (D : Int → Prop) : Prop where
  box : Box w g 37 #[.int .i64 f, .int .i64 win, .map m1, .map m2]
  low : B ≤ g
  rows : (m1 = none ∧ L = []) ∨ ∃ b, m1 = some b ∧ B ≤ b ∧ MapIs Try.prog 3 idV rowV w b L
  offs : (m2 = none ∧ O = []) ∨ ∃ b, m2 = some b ∧ B ≤ b ∧ MapIs Try.prog 3 idV onV w b O
  two : ∀ b, m1 = some b → m2 ≠ some b
  own : ∀ k v l, D k → fget L k = some (v, l) → Times w B v (T k) ∧ Tms (T k) l ∧ 0 ≤ l ∧ l ≤ 1099511627776
  lone : ∀ k k' v v' l l' j, D k → D k' → k ≠ k' → fget L k = some (v, l) → fget L k' = some (v', l') → v.ownBlock = some j → v'.ownBlock ≠ some j
  bare : ∀ k, fget L k = none → T k = []
  fits : 1 ≤ f ∧ f ≤ 1000 ∧ 1 ≤ win ∧ win ≤ 1000000
section
variable {w w' : World} {B g : Nat} {f win : Int} {m1 m2 : Option Nat} {L : RL} {O : OL} {T : Int → List Int} {D : Int → Prop}
theorem times_chg {v : Value} {ts : List Int} {S : Nat → Prop} (h : Times w B v ts) (hc : Chg S w w') (hn : ∀ k, v.ownBlock = some k → ¬ S k) : Times w' B v ts := own_chg h hc hn
theorem SwAt.kept (h : SwAt w B g f win m1 m2 L O T D) {X : Nat → Prop} (hc : Chg X w w') (hX : ∀ j, Own g m1 m2 L D j → ¬ X j) : SwAt w' B g f win m1 m2 L O T D := by
  refine ⟨h.box.kept hc (hX g (.inl rfl)), h.low, ?_, ?_, h.two, fun k v l hd hk => ?_, h.lone, h.bare, h.fits⟩
  · rcases h.rows with h1 | ⟨b, h1, h2, h3⟩
    · exact .inl h1
    · exact .inr ⟨b, h1, h2, h3.of_block (hc.block _ h3.lt (hX b (.inr (.inl h1))))⟩
  · rcases h.offs with h1 | ⟨b, h1, h2, h3⟩
    · exact .inl h1
    · exact .inr ⟨b, h1, h2, h3.of_block (hc.block _ h3.lt (hX b (.inr (.inr (.inl h1)))))⟩
  · obtain ⟨h1, h2⟩ := h.own k v l hd hk
    exact ⟨times_chg h1 hc (fun j hj => hX j (.inr (.inr (.inr ⟨k, v, l, hd, hk, hj⟩)))), h2⟩
theorem SwAt.there (h : SwAt w B g f win m1 m2 L O T D) : g < w.heap.size := h.box.there
theorem SwAt.base (h : SwAt w B g f win m1 m2 L O T D) : B < w.heap.size := Nat.lt_of_le_of_lt h.low h.there
theorem SwAt.own_lt (h : SwAt w B g f win m1 m2 L O T D) {j : Nat} (hj : Own g m1 m2 L D j) : B ≤ j ∧ j < w.heap.size := by
  rcases hj with rfl | hj | hj | ⟨k, v, l, hd, hk, hj⟩
  · exact ⟨h.low, h.there⟩
  · rcases h.rows with ⟨h1, _⟩ | ⟨b, h1, h2, h3⟩
    · rw [h1] at hj; cases hj
    · rw [h1] at hj; injection hj with hj; subst hj; exact ⟨h2, h3.lt⟩
  · rcases h.offs with ⟨h1, _⟩ | ⟨b, h1, h2, h3⟩
    · rw [h1] at hj; cases hj
    · rw [h1] at hj; injection hj with hj; subst hj; exact ⟨h2, h3.lt⟩
  · exact World.ownsRow.lt (h.own k v l hd hk).1 j hj
theorem SwAt.carry (h : SwAt w B g f win m1 m2 L O T D) (hb : Below w.heap.size w w') : SwAt w' B g f win m1 m2 L O T D :=
  h.kept (Chg.of_below hb (fun _ => False)) (fun _ _ e => e)
/-- A box of another type, a row of times apart, are no block of the switch. -/
theorem SwAt.off (h : SwAt w B g f win m1 m2 L O T D) {k : Nat} {t : TypeId} {cs : Array Value} (hx : Box w k t cs) (ht : t ≠ 37) (ht2 : t ≠ 2) : ¬ Own g m1 m2 L D k := by
  have hb : w.heap[k]? = some (.cells cs t (0, 0)) := hx
  rintro (rfl | hj | hj | ⟨k', v, l, hd, hk, hj⟩)
  · exact hx.apart h.box ht rfl
  · rcases h.rows with ⟨h1, _⟩ | ⟨b, h1, h2, h3⟩
    · rw [h1] at hj; cases hj
    · rw [h1] at hj; injection hj with hj; subst hj
      obtain ⟨es, c, h4, _⟩ := h3.block
      rw [h4] at hb; cases hb
  · rcases h.offs with ⟨h1, _⟩ | ⟨b, h1, h2, h3⟩
    · rw [h1] at hj; cases hj
    · rw [h1] at hj; injection hj with hj; subst hj
      obtain ⟨es, c, h4, _⟩ := h3.block
      rw [h4] at hb; cases hb
  · exact hx.off_row (h.own k' v l hd hk).1 (Ne.symm ht2) hj
/-- A row of times is neither the switch's box nor a map of it. -/
theorem SwAt.off_times (h : SwAt w B g f win m1 m2 L O T D) {v : Value} {ts : List Int} (ho : Times w B v ts) {j : Nat} (hj : v.ownBlock = some j) : j ≠ g ∧ m1 ≠ some j ∧ m2 ≠ some j := by
  rcases own_form ho with ⟨rfl, _⟩ | ⟨b, c, rfl, _, _, _⟩
  · cases hj
  · injection hj with hj
    change b = j at hj
    subst hj
    rcases ho.2 with ⟨e, _⟩ | ⟨b2, c2, cur, e, _, hb, _⟩
    · cases e
    · injection e with e
      injection e with e
      injection e with e
      subst e
      refine ⟨?_, ?_, ?_⟩
      · rintro rfl
        exact (show Box w b 2 cur from hb).apart h.box (by decide) rfl
      · intro hj
        rcases h.rows with ⟨h1, _⟩ | ⟨b, h1, h2, h3⟩
        · rw [h1] at hj; cases hj
        · rw [h1] at hj; injection hj with hj; subst hj
          obtain ⟨es, c, h4, _⟩ := h3.block
          rw [h4] at hb; cases hb
      · intro hj
        rcases h.offs with ⟨h1, _⟩ | ⟨b, h1, h2, h3⟩
        · rw [h1] at hj; cases hj
        · rw [h1] at hj; injection hj with hj; subst hj
          obtain ⟨es, c, h4, _⟩ := h3.block
          rw [h4] at hb; cases hb
theorem SwAt.map_ne (h : SwAt w B g f win m1 m2 L O T D) : m1 ≠ some g ∧ m2 ≠ some g := by
  have hb : w.heap[g]? = some (.cells _ 37 (0, 0)) := h.box
  constructor
  · intro hj
    rcases h.rows with ⟨h1, _⟩ | ⟨b, h1, h2, h3⟩
    · rw [h1] at hj; cases hj
    · rw [h1] at hj; injection hj with hj; subst hj
      obtain ⟨es, c, h4, _⟩ := h3.block
      rw [h4] at hb; cases hb
  · intro hj
    rcases h.offs with ⟨h1, _⟩ | ⟨b, h1, h2, h3⟩
    · rw [h1] at hj; cases hj
    · rw [h1] at hj; injection hj with hj; subst hj
      obtain ⟨es, c, h4, _⟩ := h3.block
      rw [h4] at hb; cases hb
/-- Fewer makers' rows in order. -/
theorem SwAt.fewer (h : SwAt w B g f win m1 m2 L O T D) {D' : Int → Prop} (hd : ∀ k, D' k → D k) : SwAt w B g f win m1 m2 L O T D' :=
  ⟨h.box, h.low, h.rows, h.offs, h.two, fun k v l h1 => h.own k v l (hd k h1), fun k k' v v' l l' j h1 h2 => h.lone k k' v v' l l' j (hd k h1) (hd k' h2), h.bare, h.fits⟩
end
/-- What is kept by a call of a switch: all below B, and every box that is no switch and no row of times. -/
structure Kp (B : Nat) (w w' : World) : Prop where
  below : Below B w w'
  boxes : ∀ (b : Nat) (t : TypeId) (cs : Array Value), Box w b t cs → t ≠ 37 → t ≠ 2 → Box w' b t cs
theorem Kp.refl (B : Nat) (w : World) : Kp B w w := ⟨Below.refl _ _, fun _ _ _ h _ _ => h⟩
theorem Kp.trans {B : Nat} {a b c : World} (h : Kp B a b) (k : Kp B b c) : Kp B a c := ⟨h.below.trans k.below, fun _ _ _ o h1 h2 => k.boxes _ _ _ (h.boxes _ _ _ o h1 h2) h1 h2⟩
theorem kp_below {B : Nat} {w w' : World} (hB : B ≤ w.heap.size) (hb : Below w.heap.size w w') : Kp B w w' := ⟨hb.mono hB, fun _ _ _ hx _ _ => hx.kept_below hb hx.there⟩
section
variable {w w' : World} {B g : Nat} {f win : Int} {m1 m2 : Option Nat} {L : RL} {O : OL} {T : Int → List Int} {D : Int → Prop}
theorem SwAt.kp (h : SwAt w B g f win m1 m2 L O T D) (hc : Chg (Own g m1 m2 L D) w w') : Kp B w w' :=
  ⟨hc.small (Nat.le_of_lt h.base) (fun i hi hs => by have := (h.own_lt hs).1; omega), fun b t cs hb h1 h2 => hb.kept hc (h.off hb h1 h2)⟩
theorem kp_times (hB : B ≤ w.heap.size) {v : Value} {ts : List Int} (ho : Times w B v ts) (hc : Chg (fun k => v.ownBlock = some k) w w') : Kp B w w' :=
  ⟨hc.small hB (fun i hi hs => by have := (World.ownsRow.lt ho i hs).1; omega), fun b t cs hb h1 h2 => hb.kept hc (fun e => hb.off_row ho (Ne.symm h2) e)⟩
end
/-- A switch in the document's words: each maker's times, its last time, whether it is off. -/
def Sv (w : World) (B g : Nat) (f win : Int) (T : Int → List Int) (last : Int → Option Int) (off : Int → Bool) : Prop :=
  ∃ m1 m2 L O, SwAt w B g f win m1 m2 L O T (fun _ => True) ∧ (∀ k, last k = (fget L k).map (·.2)) ∧ ∀ k, off k = (fget O k).isSome
section
variable {w w' : World} {B g : Nat} {f win : Int} {T : Int → List Int} {last : Int → Option Int} {off : Int → Bool}
theorem Sv.carry (h : Sv w B g f win T last off) (hb : Below w.heap.size w w') : Sv w' B g f win T last off := by
  obtain ⟨m1, m2, L, O, h1, h2⟩ := h
  exact ⟨m1, m2, L, O, h1.carry hb, h2⟩
theorem Sv.base (h : Sv w B g f win T last off) : B < w.heap.size := by
  obtain ⟨m1, m2, L, O, h1, h2⟩ := h
  exact h1.base
end
/-- New: a switch by which nobody is off. -/
theorem knew_ok {f win : Int} (hf : 1 ≤ f) (hf2 : f ≤ 1000) (hw : 1 ≤ win) (hw2 : win ≤ 1000000) (w : World) :
    Calls Try.prog 6 #[.int .i64 f, .int .i64 win] w fun e w' => e = .returned (.tuple #[.pointer (some ⟨w.heap.size, 0, none⟩), .int .i64 0]) ∧ Sv w' w.heap.size w.heap.size f win (fun _ => []) (fun _ => none) (fun _ => false) ∧ Below w.heap.size w w' := by
  have d1 : decide (f < 1) = false := by simp; omega
  have d2 : decide (1000 < f) = false := by simp; omega
  have d3 : decide (win < 1) = false := by simp; omega
  have d4 : decide (1000000 < win) = false := by simp; omega
  have HF := Lib.hid (show 1 ≤ f ∧ f ≤ 1000 ∧ 1 ≤ win ∧ win ≤ 1000000 from ⟨hf, hf2, hw, hw2⟩)
  clear hf hf2 hw hw2
  go_enter Try.func6, Try.ntmps6
  go_wp2_with fail
  refine bodyPost_ret (v := .tuple #[.pointer (some ⟨w.heap.size, 0, none⟩), .int .i64 0]) (by simp [results, Try.results6, go_sem]) rfl ?_
  refine ⟨rfl, ⟨none, none, [], [], ⟨Box.fresh w _ _ rfl, Nat.le_refl _, .inl ⟨rfl, rfl⟩, .inl ⟨rfl, rfl⟩, fun b e => (by cases e), fun k v l _ h => (by cases h), fun k k' v v' l l' j _ _ _ h => (by cases h), fun _ _ => rfl, HF.out⟩, fun _ => rfl, fun _ => rfl⟩, bel_new _ _⟩
/-- New, refused. -/
theorem knew_bad (win : Int) (w : World) : Calls Try.prog 6 #[.int .i64 0, .int .i64 win] w fun e w' => e = .returned (.tuple #[.pointer none, .int .i64 1]) ∧ w = w' := by
  go_enter Try.func6, Try.ntmps6
  go_wp2_with fail
  exact bodyPost_ret (v := .tuple #[.pointer none, .int .i64 1]) (by simp [results, Try.results6, go_sem]) rfl ⟨rfl, rfl⟩
/-- The looks in the maps, nil or not. -/
theorem zeroRow (w : World) : (zeroValue 40).run Try.prog w = .ok (rowV (.slice none 0 0, 0)) w := by kernel_rfl
theorem zeroOn (w : World) : (zeroValue 46).run Try.prog w = .ok (onV ()) w := by kernel_rfl
theorem getD_map {α : Type} (f : α → Value) (o : Option α) (z : α) : (o.map f).getD (f z) = f (o.getD z) := by cases o <;> rfl
section
variable {w w' : World} {B g : Nat} {f win : Int} {m1 m2 : Option Nat} {L : RL} {O : OL} {T : Int → List Int} {D : Int → Prop}
theorem SwAt.lookR (h : SwAt w B g f win m1 m2 L O T D) {k : Int} (hk : OkI k) :
    (Instr.lookup 34 (.map m1) (.int .i64 k) true).run Try.prog w = .ok (.tuple #[rowV ((fget L k).getD (.slice none 0 0, 0)), .bool (fget L k).isSome]) w := by
  rcases h.rows with ⟨rfl, rfl⟩ | ⟨b, rfl, _, h3⟩
  · exact look_nil keyI Try.underlying34 (zeroRow w) (okI_key hk) true
  · have := h3.look keyI idV_inj Try.underlying34 (zeroRow w) (okI_key hk) true
    rw [getD_map] at this
    simpa [idV] using this
theorem SwAt.lookO (h : SwAt w B g f win m1 m2 L O T D) {k : Int} (hk : OkI k) :
    (Instr.lookup 35 (.map m2) (.int .i64 k) true).run Try.prog w = .ok (.tuple #[.agg #[], .bool (fget O k).isSome]) w := by
  rcases h.offs with ⟨rfl, rfl⟩ | ⟨b, rfl, _, h3⟩
  · exact look_nil keyI Try.underlying35 (zeroOn w) (okI_key hk) true
  · have := h3.look keyI idV_inj Try.underlying35 (zeroOn w) (okI_key hk) true
    rw [getD_map] at this
    simpa [idV, onV] using this
end
set_option maxHeartbeats 1000000 in
/-- Off. -/
theorem koff_at {w : World} {B g : Nat} {f win : Int} {m1 m2 : Option Nat} {L : RL} {O : OL} {T : Int → List Int} {D : Int → Prop} (h : SwAt w B g f win m1 m2 L O T D) {k : Int} (hk : OkI k) :
    Calls Try.prog 8 #[.pointer (some ⟨g, 0, none⟩), .int .i64 k] w fun e w' => e = .returned (.bool (fget O k).isSome) ∧ Below w.heap.size w w' := by
  have LK := h.lookO hk
  have c3 : w.cell? ⟨g, 3, none⟩ = some (.map m2) := (h.box.reads 3).trans rfl
  generalize (fget O k).isSome = r at LK ⊢
  clear h hk
  go_enter Try.func8, Try.ntmps8
  go_wp2_with (at_lookup; refine wpList_lookup_run rfl _ _ _ _ rfl (.map m2) (.int .i64 k) _ rfl rfl LK ?_)
  go_ret
  exact ⟨rfl, bel_new _ _⟩
end Go.Proofs.Ytekeciciajbnnaa
