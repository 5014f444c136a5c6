/- LifePlays: what the law keeps beside the ledger, and what each call does to both. -/
import Derived.Test.YtfidihmiadjpjaaLifKnown
import Derived.Test.YtfidihmiadjpjaaAppS
set_option linter.unusedSimpArgs false
namespace Go.Proofs.Ytfidihmiadjpjaa
open Go.RowKit Go.Mem1 Go.LifMath

theorem ents1_one (M : List Ent) : ∀ u ∈ M.flatMap ent1, u.oneCell' = true := by
  intro u hu
  obtain ⟨x, _, hx⟩ := List.mem_flatMap.1 hu
  exact ent1_one x u hx
/-- The ledger holds L', the law keeps L. -/
structure PlE (w0 : World) (B g : Nat) (vM : Value) (L L' : List Ent) (w : World) : Prop where
  led : ∃ vE, Led w B g vE L' ∧ ∀ j, vM.ownBlock = some j → vE.ownBlock ≠ some j
  m : w.ownsRow B 33 7 vM L.length (L.flatMap ent1)
  bel : Below B w0 w
section
variable {w0 w w' : World} {B g : Nat} {vM : Value} {L L' : List Ent}
theorem PlE.base (h : PlE w0 B g vM L L' w) : B < w.heap.size := by obtain ⟨vE, h1, _⟩ := h.led; exact h1.at_.base
theorem PlE.most (h : PlE w0 B g vM L L' w) : L'.length ≤ 200 := by obtain ⟨vE, h1, _⟩ := h.led; exact h1.at_.most
theorem PlE.fair (h : PlE w0 B g vM L L' w) : ∀ e ∈ L', FairE e := by obtain ⟨vE, h1, _⟩ := h.led; exact h1.fair
theorem PlE.lv (h : PlE w0 B g vM L L' w) : Lv w0 B g L' w := by obtain ⟨vE, h1, _⟩ := h.led; exact ⟨⟨vE, h1⟩, h.bel⟩
theorem PlE.carry (h : PlE w0 B g vM L L' w) (hb : Below w.heap.size w w') : PlE w0 B g vM L L' w' := by
  obtain ⟨vE, h1, h2⟩ := h.led
  exact ⟨⟨vE, h1.carry hb, h2⟩, own_keep h.m hb, h.bel.trans (hb.mono (Nat.le_of_lt h1.at_.base))⟩
/-- Another row of the law's, all new. -/
theorem PlE.newM {N : List Ent} {v : Value} (h : PlE w0 B g vM L L' w) (hb : Below w.heap.size w w') (ho : w'.ownsRow w.heap.size 33 7 v N.length (N.flatMap ent1)) : PlE w0 B g v N L' w' := by
  obtain ⟨vE, h1, h2⟩ := h.led
  refine ⟨⟨vE, h1.carry hb, fun j hj e => ?_⟩, own_wider ho (Nat.le_of_lt h.base), (h.carry hb).bel⟩
  have a := (ho.lt j hj).1
  have b := (h1.at_.row.lt j e).2
  omega
/-- The law's row grows where it is. -/
theorem PlE.grownM {N : List Ent} {v : Value} (h : PlE w0 B g vM L L' w) (hg : w.grownBy w' vM.ownBlock) (ho : w'.ownsRow B 33 7 v N.length (N.flatMap ent1)) (hv : v.ownBlock = vM.ownBlock ∨ v.ownBlock = some w.heap.size) : PlE w0 B g v N L' w' := by
  obtain ⟨vE, h1, h2⟩ := h.led
  have hc := Chg.of_grown hg
  have hgm : ¬ some g = vM.ownBlock := fun e => h1.at_.box.off_row h.m (by decide) e.symm
  have hA : LedAt w' B g vE L' := ⟨h1.at_.box.kept hc hgm, h1.at_.low, own_chg h1.at_.row hc (fun k hk e => h2 k e.symm hk), h1.at_.most⟩
  refine ⟨⟨vE, ⟨hA, h1.fair⟩, fun j hj e => ?_⟩, ho, h.bel.trans (hc.small (Nat.le_of_lt h.base) (fun i hi e => ?_))⟩
  · rcases hv with e1 | e1
    · exact h2 j (by rw [← e1]; exact hj) e
    · rw [e1] at hj
      injection hj with hj
      have b := (h1.at_.row.lt j e).2
      omega
  · have := (h.m.lt i e.symm).1
    omega
/-- What a call that writes answers. -/
def PlAns (w0 w : World) (B g : Nat) (vM : Value) (L L' : List Ent) (r : Value) (e : Ending) (w' : World) : Prop :=
  e = .returned r ∧ PlE w0 B g vM L L' w' ∧ ∀ b t cs, Box w b t cs → t ≠ 47 → t ≠ 33 → Box w' b t cs
theorem PlE.did {vE : Value} {N : List Ent} {r : Value} {e : Ending} (h : PlE w0 B g vM L L' w) (h1 : Led w B g vE L') (h2 : ∀ j, vM.ownBlock = some j → vE.ownBlock ≠ some j) (hd : Did w B g vE N r e w') : PlAns w0 w B g vM L N r e w' := by
  obtain ⟨he, vE', a1, a2, a3⟩ := hd
  refine ⟨he, ⟨⟨vE', a1, fun j hj e => ?_⟩, own_chg h.m a2 (fun k hk hs => ?_), h.bel.trans (h1.keeps a2)⟩, fun b t cs hb t1 t2 => hb.kept a2 (fun hs => ?_)⟩
  · rcases a3 j e with e1 | e1
    · exact h2 j hj e1
    · have := (h.m.lt j hj).2
      omega
  · rcases hs with rfl | e1
    · exact h1.at_.box.off_row h.m (by decide) hk
    · exact h2 k hk e1.symm
  · rcases hs with rfl | e1
    · exact hb.apart h1.at_.box t1 rfl
    · exact hb.off_row h1.at_.row (Ne.symm t2) e1.symm
theorem PlE.enter (h : PlE w0 B g vM L L w) {ow se si q : Int} (hq : 1 ≤ q ∧ q ≤ 1000000) (hL : L.length < 200) : Calls Try.prog 8 #[.pointer (some ⟨g, 0, none⟩), .int .i64 ow, .int .i64 se, .int .i64 si, .int .i64 q] w (PlAns w0 w B g vM L (L ++ [newE ow se si q]) (.tuple #[.int .i64 ((L.length : Int) + 1), .int .i64 0])) := by
  obtain ⟨vE, h1, h2⟩ := h.led
  exact (enter_ok h1 hq hL).mono fun _ _ hd => h.did h1 h2 hd
theorem PlE.fill (h : PlE w0 B g vM L L w) {k : Nat} {e : Ent} (hk : L[k]? = some e) {q : Int} (q1 : 1 ≤ q) (q2 : q ≤ e.op) : Calls Try.prog 9 #[.pointer (some ⟨g, 0, none⟩), .int .i64 ((k : Int) + 1), .int .i64 q] w (PlAns w0 w B g vM L (L.set k (fillE q e)) (.int .i64 0)) := by
  obtain ⟨vE, h1, h2⟩ := h.led
  exact (fill_ok h1 hk q1 q2).mono fun _ _ hd => h.did h1 h2 hd
theorem PlE.canc (h : PlE w0 B g vM L L w) {k : Nat} {e : Ent} (hk : L[k]? = some e) {q : Int} (q1 : 1 ≤ q) (q2 : q ≤ e.op) : Calls Try.prog 10 #[.pointer (some ⟨g, 0, none⟩), .int .i64 ((k : Int) + 1), .int .i64 q] w (PlAns w0 w B g vM L (L.set k (cancE q e)) (.int .i64 0)) := by
  obtain ⟨vE, h1, h2⟩ := h.led
  exact (canc_ok h1 hk q1 q2).mono fun _ _ hd => h.did h1 h2 hd
theorem PlE.at_ (h : PlE w0 B g vM L L' w) : ∃ vE, LedAt w B g vE L' := by obtain ⟨vE, h1, _⟩ := h.led; exact ⟨vE, h1.at_⟩
/-- One of the law's entries. -/
theorem PlE.ent (h : PlE w0 B g vM L L' w) {k : Nat} {e : Ent} (hk : L[k]? = some e) : ∃ b c, vM = .slice (some ⟨b, 0, none⟩) L.length c ∧ b < w.heap.size ∧ L.length ≤ c ∧
    w.cell? ⟨b, k * 7, none⟩ = some (.int .i64 e.en) ∧ w.cell? ⟨b, k * 7 + 1, none⟩ = some (.int .i64 e.fi) ∧ w.cell? ⟨b, k * 7 + 2, none⟩ = some (.int .i64 e.ca) ∧ w.cell? ⟨b, k * 7 + 3, none⟩ = some (.int .i64 e.op) ∧
    w.cell? ⟨b, k * 7 + 4, none⟩ = some (.int .i64 e.ow) ∧ w.cell? ⟨b, k * 7 + 5, none⟩ = some (.int .i64 e.se) ∧ w.cell? ⟨b, k * 7 + 6, none⟩ = some (.int .i64 e.si) := by
  have hl := at_lt hk
  rcases own_form h.m with ⟨_, h0⟩ | ⟨b, c, hv, _, hlt, hcap⟩
  · omega
  · have hr := h.m
    subst hv
    exact ⟨b, c, rfl, hlt, hcap, own_cell hr (flat_at ent1_len hk (i := 0) rfl), own_cell hr (flat_at ent1_len hk (i := 1) rfl), own_cell hr (flat_at ent1_len hk (i := 2) rfl), own_cell hr (flat_at ent1_len hk (i := 3) rfl), own_cell hr (flat_at ent1_len hk (i := 4) rfl), own_cell hr (flat_at ent1_len hk (i := 5) rfl), own_cell hr (flat_at ent1_len hk (i := 6) rfl)⟩
theorem flat_take7 (M : List Ent) (k : Nat) : (M.flatMap ent1).take (k * 7) = (M.take k).flatMap ent1 := by
  induction k generalizing M with
  | zero => simp
  | succ k ih =>
    cases M with
    | nil => simp
    | cons x M =>
      rw [List.flatMap_cons, List.take_succ_cons, List.flatMap_cons, show (k + 1) * 7 = 7 + k * 7 by omega]
      rw [List.take_append, ← ih, List.take_of_length_le (show (ent1 x).length ≤ 7 + k * 7 by rw [ent1_len]; omega), ent1_len, Nat.add_sub_cancel_left]
theorem flat_drop7 (M : List Ent) (k : Nat) : (M.flatMap ent1).drop (k * 7) = (M.drop k).flatMap ent1 := by
  induction k generalizing M with
  | zero => simp
  | succ k ih =>
    cases M with
    | nil => simp
    | cons x M =>
      rw [List.flatMap_cons, List.drop_succ_cons, ← ih, show (k + 1) * 7 = 7 + k * 7 by omega, ← List.drop_drop]
      rfl
/-- Those ahead of one of the law's entries, and those behind it. -/
theorem PlE.front (h : PlE w0 B g vM L L' w) {b c n : Nat} (hv : vM = .slice (some ⟨b, 0, none⟩) n c) {k : Nat} (hk : k < L.length) :
    RdS w w.heap.size (some ⟨b, 0, none⟩) k 7 ((L.take k).flatMap ent1) ∧ RdS w w.heap.size (some ⟨b, (k + 1) * 7, none⟩) (L.length - (k + 1)) 7 ((L.drop (k + 1)).flatMap ent1) := by
  have h1 := h.m
  obtain ⟨A0, c0, hv0⟩ := own_slice h1
  have hn : n = L.length := by rw [hv] at hv0; injection hv0
  subst hn
  rw [hv] at h1
  have h2 := RdS.ofOwn h1
  refine ⟨?_, ?_⟩
  · rw [← flat_take7]; exact h2.head (by omega)
  · have := h2.tail (k := k + 1) (by omega)
    rw [Nat.zero_add, flat_drop7] at this
    exact this
theorem set_cut {l : List Ent} {k : Nat} (hk : k < l.length) (e : Ent) : l.set k e = l.take k ++ e :: l.drop (k + 1) := by
  rw [List.set_eq_take_append_cons_drop, if_pos hk]
end
/-- A row of one entry, just made. -/
theorem one_made (W : World) (e : TypeId) (g : Nat) (cs : List Value) (h7 : cs.length = 7) (hg : g = W.heap.size) {base : Nat} (hb : base ≤ W.heap.size) : (W.alloc (.cells cs.toArray e)).ownsRow base e 7 (.slice (some ⟨g, 0, none⟩) 1 1) 1 cs := by
  subst hg
  exact ⟨by rw [h7], .inr ⟨W.heap.size, 1, cs.toArray, rfl, hb, heap_alloc_new W _, Nat.le_refl _, by simp [maxLen], by simpa using h7, by
    rw [List.take_of_length_le (by simp [h7])]⟩⟩
/-- A row is kept where another one grows. -/
theorem row_kept {w w' : World} {base n : Nat} {e : TypeId} {v v2 : Value} {xs : List Value} (h : w.ownsRow base e 7 v n xs) (hg : w.grownBy w' v2.ownBlock) (hne : ∀ j, v.ownBlock = some j → v2.ownBlock ≠ some j) : w'.ownsRow base e 7 v n xs :=
  own_chg h (Chg.of_grown hg) (fun k hk e => hne k hk e.symm)
theorem apart_of {v : Value} {p s p2 : Nat} {o : Option Nat} (h : v.ownBlock = some p ∨ v.ownBlock = some s) (ho : o = some p2) (h1 : p ≠ p2) (h2 : s ≠ p2) : ∀ j, v.ownBlock = some j → o ≠ some j := by
  intro j hj e
  rw [ho] at e
  injection e with e
  rcases h with h | h
  · rw [h] at hj; injection hj with hj; omega
  · rw [h] at hj; injection hj with hj; omega
theorem apart_new {w : World} {base n : Nat} {e : TypeId} {size : Nat} {v : Value} {xs : List Value} (h : w.ownsRow base e size v n xs) {p2 : Nat} {o : Option Nat} (ho : o = some p2) (h2 : w.heap.size ≤ p2) : ∀ j, v.ownBlock = some j → o ≠ some j := by
  intro j hj e
  rw [ho] at e
  injection e with e
  have := (h.lt j hj).2
  omega
theorem own_cap0 {w : World} {base n : Nat} {e : TypeId} {size : Nat} {A : Option Addr} {c : Nat} {xs : List Value} (h : w.ownsRow base e size (.slice A n c) n xs) : A = none → c = 0 := by
  intro hA
  rcases own_form h with ⟨e, _⟩ | ⟨g, c', e, _⟩
  · injection e
  · injection e with e _ _; rw [hA] at e; cases e
def PTrue (w : World) (e : Ending) (w' : World) : Prop := e = .returned (.bool true) ∧ Below w.heap.size w w'
/-- At the head of a round. -/
def PlJ (w0 : World) (B g : Nat) (vM : Value) (i : Nat) (w : World) : Prop := ∃ L, PlE w0 B g vM L L w ∧ L.length ≤ i
/-- The rounds of a code's outermost loops, in the code's order. -/
def loopsOf : Code → List Code
  | .loop c => [c]
  | .seq x y => loopsOf x ++ loopsOf y
  | .cond _ x y => loopsOf x ++ loopsOf y
  | .block _ x => loopsOf x
  | .scope x => loopsOf x
  | _ => []
end Go.Proofs.Ytfidihmiadjpjaa
