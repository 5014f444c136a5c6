/- An arena in memory, and the contracts of its small functions. -/
import Derived.Test.YtmgfeofkbblmjaaRows
import Derived.WalkKit
import Derived.WalkSpells
import Derived.WalkLawsBesides
import Derived.Handy
import Derived.Lib.Hide
import Derived.Test.YtmgfeofkbblmjaaKit
import Derived.Test.YtmgfeofkbblmjaaFifMath
import Derived.Deep.QuietTactic
import Derived.BigQuiet
set_option linter.unusedSimpArgs false
namespace Go.Proofs.Ytmgfeofkbblmjaa
open Go.RowKit Go.Mem1 Go.FifMath

theorem ri {k : IntKind} {a b : Int} (h : a = b) : Ending.returned (.int k a) = .returned (.int k b) := by rw [h]
def end1 (e : Tip) : List Value := [.int .i64 e.a, .int .i64 e.z, .int .i64 e.k]
def lnk1 (l : Lnk) : List Value := [.int .i64 l.v, .int .i64 l.r, .int .i64 l.p, .int .i64 l.n]
theorem end1_len (e : Tip) : (end1 e).length = 3 := rfl
theorem lnk1_len (l : Lnk) : (lnk1 l).length = 4 := rfl
/-- An arena: its block, its rows' ends, its cells. -/
structure ArenaAt (w : World) (B g : Nat) (vR vC : Value) (s : Aren) : Prop where
  box : Box w g 52 #[vR, vC, .int .i64 s.top, .int .i64 s.free]
  low : B ≤ g
  rowR : w.ownsRow B 54 3 vR s.rs.length (s.rs.flatMap end1)
  rowC : w.ownsRow B 56 4 vC s.cs.length (s.cs.flatMap lnk1)
  mostR : s.rs.length ≤ 1024
  mostC : s.cs.length ≤ 4096
section
variable {w w' : World} {B g : Nat} {vR vC : Value} {s : Aren}
theorem ArenaAt.carry (h : ArenaAt w B g vR vC s) (hb : Below w.heap.size w w') : ArenaAt w' B g vR vC s :=
  ⟨h.box.kept_below hb h.box.there, h.low, own_keep h.rowR hb, own_keep h.rowC hb, h.mostR, h.mostC⟩
theorem ArenaAt.base (h : ArenaAt w B g vR vC s) : B < w.heap.size := Nat.lt_of_le_of_lt h.low h.box.there
theorem ArenaAt.there (h : ArenaAt w B g vR vC s) : g < w.heap.size := h.box.there
theorem ArenaAt.c0 (h : ArenaAt w B g vR vC s) : w.cell? ⟨g, 0, none⟩ = some vR := h.box.reads 0
theorem ArenaAt.c1 (h : ArenaAt w B g vR vC s) : w.cell? ⟨g, 1, none⟩ = some vC := h.box.reads 1
theorem ArenaAt.c2 (h : ArenaAt w B g vR vC s) : w.cell? ⟨g, 2, none⟩ = some (.int .i64 s.top) := h.box.reads 2
theorem ArenaAt.c3 (h : ArenaAt w B g vR vC s) : w.cell? ⟨g, 3, none⟩ = some (.int .i64 s.free) := h.box.reads 3
theorem ArenaAt.formR (h : ArenaAt w B g vR vC s) : ∃ A c, vR = .slice A s.rs.length c := own_slice h.rowR
theorem ArenaAt.formC (h : ArenaAt w B g vR vC s) : ∃ A c, vC = .slice A s.cs.length c := own_slice h.rowC
/-- A row's ends. -/
theorem ArenaAt.ends (h : ArenaAt w B g vR vC s) {k : Nat} {e : Tip} (hk : s.rs[k]? = some e) : ∃ b c, vR = .slice (some ⟨b, 0, none⟩) s.rs.length c ∧ k < s.rs.length ∧ b < w.heap.size ∧ B ≤ b ∧ b ≠ g ∧
    w.cell? ⟨b, k * 3, none⟩ = some (.int .i64 e.a) ∧ w.cell? ⟨b, k * 3 + 1, none⟩ = some (.int .i64 e.z) ∧ w.cell? ⟨b, k * 3 + 2, none⟩ = some (.int .i64 e.k) ∧ ∀ i, w.frozen? ⟨b, i, none⟩ = false := by
  have hl : k < s.rs.length := by
    rcases Nat.lt_or_ge k s.rs.length with h | h
    · exact h
    · rw [List.getElem?_eq_none h] at hk; cases hk
  rcases own_form h.rowR with ⟨_, h0⟩ | ⟨b, c, hv, hb, hlt, _⟩
  · omega
  · have hr := h.rowR
    have hbg := h.box.off_row h.rowR (by decide)
    subst hv
    exact ⟨b, c, rfl, hl, hlt, hb, (fun e => hbg (by rw [e]; rfl)), own_cell hr (flat_at end1_len hk (i := 0) rfl), own_cell hr (flat_at end1_len hk (i := 1) rfl), own_cell hr (flat_at end1_len hk (i := 2) rfl), fun i => hr.frozenAt i⟩
/-- A cell's. -/
theorem ArenaAt.link (h : ArenaAt w B g vR vC s) {k : Nat} {l : Lnk} (hk : s.cs[k]? = some l) : ∃ b c, vC = .slice (some ⟨b, 0, none⟩) s.cs.length c ∧ k < s.cs.length ∧ b < w.heap.size ∧ B ≤ b ∧ b ≠ g ∧
    w.cell? ⟨b, k * 4, none⟩ = some (.int .i64 l.v) ∧ w.cell? ⟨b, k * 4 + 1, none⟩ = some (.int .i64 l.r) ∧ w.cell? ⟨b, k * 4 + 2, none⟩ = some (.int .i64 l.p) ∧ w.cell? ⟨b, k * 4 + 3, none⟩ = some (.int .i64 l.n) ∧ ∀ i, w.frozen? ⟨b, i, none⟩ = false := by
  have hl : k < s.cs.length := by
    rcases Nat.lt_or_ge k s.cs.length with h | h
    · exact h
    · rw [List.getElem?_eq_none h] at hk; cases hk
  rcases own_form h.rowC with ⟨_, h0⟩ | ⟨b, c, hv, hb, hlt, _⟩
  · omega
  · have hr := h.rowC
    have hbg := h.box.off_row h.rowC (by decide)
    subst hv
    exact ⟨b, c, rfl, hl, hlt, hb, (fun e => hbg (by rw [e]; rfl)), own_cell hr (flat_at lnk1_len hk (i := 0) rfl), own_cell hr (flat_at lnk1_len hk (i := 1) rfl), own_cell hr (flat_at lnk1_len hk (i := 2) rfl), own_cell hr (flat_at lnk1_len hk (i := 3) rfl), fun i => hr.frozenAt i⟩
theorem ArenaAt.rc (h : ArenaAt w B g vR vC s) {b b2 n n2 c c2 : Nat} (hR : vR = .slice (some ⟨b, 0, none⟩) n c) (hC : vC = .slice (some ⟨b2, 0, none⟩) n2 c2) : b ≠ b2 := fun e =>
  own_apart h.rowR h.rowC (by decide) (k := b) (by rw [hR]; rfl) (by rw [hC, e]; rfl)
/-- What a call may turn of an arena. -/
def ArS (g : Nat) (vR vC : Value) (j : Nat) : Prop := j = g ∨ some j = vR.ownBlock ∨ some j = vC.ownBlock
/-- A number stored at a row's ends. -/
theorem ArenaAt.storeR (h : ArenaAt w B g vR vC s) {b c n : Nat} (hv : vR = .slice (some ⟨b, 0, none⟩) n c) {k : Nat} {e : Tip} (hk : s.rs[k]? = some e) (f : Tip → Tip) (i : Nat) (u : Value) (hi : i < 3) (hf : end1 (f e) = (end1 e).set i u) :
    ArenaAt (w.setCell ⟨b, k * 3 + i, none⟩ u) B g vR vC (s.atRow k f) ∧ Chg (ArS g vR vC) w (w.setCell ⟨b, k * 3 + i, none⟩ u) := by
  have hbl : vR.ownBlock = some b := by rw [hv]; rfl
  have hc : Chg (fun j => j = b) w (w.setCell ⟨b, k * 3 + i, none⟩ u) := Chg.setCell (S := fun j => j = b) (Chg.refl _ _) (p := ⟨b, k * 3 + i, none⟩) (fun _ => rfl) _
  have hgb : ¬ g = b := fun e => h.box.off_row h.rowR (by decide) (by rw [hbl, e])
  obtain ⟨A0, c0, hv0⟩ := own_slice h.rowR
  have hn : n = s.rs.length := by rw [hv] at hv0; injection hv0
  subst hn
  have hr := h.rowR
  rw [hv] at hr
  refine ⟨⟨h.box.kept hc hgb, h.low, ?_, own_chg h.rowC hc (fun j hj e => own_apart h.rowC h.rowR (by decide) hj (by rw [hbl, e])), by simpa [Aren.atRow] using h.mostR, h.mostC⟩, hc.mono (fun j _ e => .inr (.inl (by rw [hbl, e])))⟩
  have hs := (hr.stored (k * 3 + i) u).1
  rw [flat_set (f := end1) end1_len hk (y := f e) hi hf] at hs
  unfold Aren.atRow
  rw [mod_set hk, List.length_set, hv]
  exact hs
/-- A number stored in a cell. -/
theorem ArenaAt.storeC (h : ArenaAt w B g vR vC s) {b c n : Nat} (hv : vC = .slice (some ⟨b, 0, none⟩) n c) {k : Nat} {l : Lnk} (hk : s.cs[k]? = some l) (f : Lnk → Lnk) (i : Nat) (u : Value) (hi : i < 4) (hf : lnk1 (f l) = (lnk1 l).set i u) :
    ArenaAt (w.setCell ⟨b, k * 4 + i, none⟩ u) B g vR vC (s.atCell k f) ∧ Chg (ArS g vR vC) w (w.setCell ⟨b, k * 4 + i, none⟩ u) := by
  have hbl : vC.ownBlock = some b := by rw [hv]; rfl
  have hc : Chg (fun j => j = b) w (w.setCell ⟨b, k * 4 + i, none⟩ u) := Chg.setCell (S := fun j => j = b) (Chg.refl _ _) (p := ⟨b, k * 4 + i, none⟩) (fun _ => rfl) _
  have hgb : ¬ g = b := fun e => h.box.off_row h.rowC (by decide) (by rw [hbl, e])
  obtain ⟨A0, c0, hv0⟩ := own_slice h.rowC
  have hn : n = s.cs.length := by rw [hv] at hv0; injection hv0
  subst hn
  have hr := h.rowC
  rw [hv] at hr
  refine ⟨⟨h.box.kept hc hgb, h.low, own_chg h.rowR hc (fun j hj e => own_apart h.rowR h.rowC (by decide) hj (by rw [hbl, e])), ?_, h.mostR, by simpa [Aren.atCell] using h.mostC⟩, hc.mono (fun j _ e => .inr (.inr (by rw [hbl, e])))⟩
  have hs := (hr.stored (k * 4 + i) u).1
  rw [flat_set (f := lnk1) lnk1_len hk (y := f l) hi hf] at hs
  unfold Aren.atCell
  rw [mod_set hk, List.length_set, hv]
  exact hs
/-- Its two numbers stored. -/
theorem ArenaAt.storeTop (h : ArenaAt w B g vR vC s) (t : Int) : ArenaAt (w.setCell ⟨g, 2, none⟩ (.int .i64 t)) B g vR vC ⟨s.rs, s.cs, t, s.free⟩ ∧ Chg (ArS g vR vC) w (w.setCell ⟨g, 2, none⟩ (.int .i64 t)) ∧ w.frozen? ⟨g, 2, none⟩ = false :=
  ⟨⟨h.box.wrote 2 _, h.low, own_set h.rowR _ _ (h.box.off_row h.rowR (by decide)), own_set h.rowC _ _ (h.box.off_row h.rowC (by decide)), h.mostR, h.mostC⟩,
    (Chg.setCell (S := fun j => j = g) (Chg.refl _ _) (p := ⟨g, 2, none⟩) (fun _ => rfl) _).mono (fun _ _ e => .inl e), h.box.unmarked 2⟩
theorem ArenaAt.storeFree (h : ArenaAt w B g vR vC s) (t : Int) : ArenaAt (w.setCell ⟨g, 3, none⟩ (.int .i64 t)) B g vR vC ⟨s.rs, s.cs, s.top, t⟩ ∧ Chg (ArS g vR vC) w (w.setCell ⟨g, 3, none⟩ (.int .i64 t)) ∧ w.frozen? ⟨g, 3, none⟩ = false :=
  ⟨⟨h.box.wrote 3 _, h.low, own_set h.rowR _ _ (h.box.off_row h.rowR (by decide)), own_set h.rowC _ _ (h.box.off_row h.rowC (by decide)), h.mostR, h.mostC⟩,
    (Chg.setCell (S := fun j => j = g) (Chg.refl _ _) (p := ⟨g, 3, none⟩) (fun _ => rfl) _).mono (fun _ _ e => .inl e), h.box.unmarked 3⟩
end
set_option maxHeartbeats 1000000 in
theorem found_any (c : Int) (w : World) : Calls Try.prog 21 #[.int .i64 c] w fun e w' => e = .returned (.tuple #[.int .i64 (if c = -1 then 0 else c), .bool (decide (c ≠ -1))]) ∧ w = w' := by
  by_cases h : c = -1
  · subst h
    go_enter Try.func21, Try.ntmps21
    go_wp2_with fail
    go_ret2
    exact ⟨rfl, rfl⟩
  · have t : (c == -1) = false := by simpa using h
    rw [if_neg h, decide_eq_true h]
    clear h
    go_enter Try.func21, Try.ntmps21
    go_wp2_with fail
    go_ret2
    exact ⟨rfl, rfl⟩
set_option maxHeartbeats 1000000 in
theorem free_any {w : World} {B g : Nat} {vR vC : Value} {s : Aren} (h : ArenaAt w B g vR vC s) : Calls Try.prog 15 #[.pointer (some ⟨g, 0, none⟩)] w fun e w' => e = .returned (.int .i64 s.free) ∧ w = w' := by
  have c3 := h.c3
  clear h
  go_enter Try.func15, Try.ntmps15
  go_wp2_with fail
  go_ret
  exact ⟨rfl, rfl⟩
/-- Is there such a row? -/
def knB (s : Aren) (row : Int) : Bool := decide (0 ≤ row) && decide (row < (s.rs.length : Int))
set_option maxHeartbeats 1000000 in
theorem known_any {w : World} {B g : Nat} {vR vC : Value} {s : Aren} (h : ArenaAt w B g vR vC s) (row : Int) : Calls Try.prog 16 #[.pointer (some ⟨g, 0, none⟩), .int .i64 row] w fun e w' => e = .returned (.bool (knB s row)) ∧ w = w' := by
  have c0 := h.c0
  obtain ⟨A, c, hv⟩ := h.formR
  rw [hv] at c0
  have hm := h.mostR
  unfold knB
  obtain ⟨n, hn⟩ : ∃ n, s.rs.length = n := ⟨_, rfl⟩
  rw [hn] at c0 hm ⊢
  clear h hv hn
  by_cases h1 : 0 ≤ row
  · have t1 : decide (0 ≤ row) = true := by simpa using h1
    by_cases h2 : row < (n : Int)
    · have t2 : decide (row < (n : Int)) = true := by simpa using h2
      rw [t1, t2]
      go_enter Try.func16, Try.ntmps16
      go_wp2_with fail
      go_ret
      exact ⟨rfl, rfl⟩
    · have t2 : decide (row < (n : Int)) = false := by simpa using h2
      rw [t1, t2]
      clear h2
      go_enter Try.func16, Try.ntmps16
      go_wp2_with fail
      go_ret
      exact ⟨rfl, rfl⟩
  · have t1 : decide (0 ≤ row) = false := by simpa using h1
    rw [t1]
    clear h1
    go_enter Try.func16, Try.ntmps16
    go_wp2_with fail
    go_ret
    exact ⟨rfl, rfl⟩
end Go.Proofs.Ytmgfeofkbblmjaa
