/- FifoPlays: what the law keeps beside the arena, and what each call does to both. -/
import Derived.Test.YtmgfeofkbblmjaaFifFull
import Derived.Test.YtmgfeofkbblmjaaAppS
set_option linter.unusedSimpArgs false
namespace Go.Proofs.Ytmgfeofkbblmjaa
open Go.RowKit Go.Mem1 Go.FifMath

/-- A cell that is taken, as the law keeps it. -/
def cell1 (x : Nat × Nat × Int) : List Value := [.int .i64 x.1, .int .i64 x.2.1, .int .i64 x.2.2]
theorem cell1_len (x : Nat × Nat × Int) : (cell1 x).length = 3 := rfl
theorem cell1_one (x : Nat × Nat × Int) : ∀ u ∈ cell1 x, u.oneCell' = true := by
  intro u hu
  simp [cell1] at hu
  rcases hu with rfl | rfl | rfl <;> rfl
theorem cells1_one (M : List (Nat × Nat × Int)) : ∀ u ∈ M.flatMap cell1, u.oneCell' = true := by
  intro u hu
  obtain ⟨x, _, hx⟩ := List.mem_flatMap.1 hu
  exact cell1_one x u hx
/-- Places as cells. -/
def plcs (F : List Nat) : List Value := F.map fun (c : Nat) => .int .i64 (c : Int)
theorem plcs_one (F : List Nat) : ∀ u ∈ plcs F, u.oneCell' = true := by
  intro u hu
  obtain ⟨x, _, rfl⟩ := List.mem_map.1 hu
  rfl
theorem cell_info : (Try.prog.info? 35).map (fun i => (i.zero, i.size, i.bytes)) = some (some (.agg #[.int .i64 0, .int .i64 0, .int .i64 0]), 3, 24) := by kernel_rfl
theorem int_info : (Try.prog.info? 3).map (fun i => (i.zero, i.size, i.bytes)) = some (some (.int .i64 0), 1, 8) := by kernel_rfl
/-- The arena holds M' and F', the law keeps M and F. -/
structure PlB (w0 : World) (B g R C : Nat) (vM vF : Value) (M M' : List (Nat × Nat × Int)) (F F' : List Nat) (w : World) : Prop where
  ar : Ar w B g R C M' F'
  m : w.ownsRow B 35 3 vM M.length (M.flatMap cell1)
  f : w.ownsRow B 3 1 vF F.length (plcs F.reverse)
  bel : Below B w0 w
section
variable {w0 w w' : World} {B g R C : Nat} {vM vF : Value} {M M' : List (Nat × Nat × Int)} {F F' : List Nat}
theorem PlB.carry (h : PlB w0 B g R C vM vF M M' F F' w) (hb : Below w.heap.size w w') : PlB w0 B g R C vM vF M M' F F' w' :=
  ⟨h.ar.carry hb, own_keep h.m hb, own_keep h.f hb, h.bel.trans (hb.mono (Nat.le_of_lt h.ar.base))⟩
theorem PlB.keep {N : List (Nat × Nat × Int)} {G : List Nat} (h : PlB w0 B g R C vM vF M M' F F' w) (hk : Keep B w w') (ha : Ar w' B g R C N G) : PlB w0 B g R C vM vF M N F G w' :=
  ⟨ha, hk.rows _ _ _ _ _ _ h.m (by decide) (by decide) (by decide), hk.rows _ _ _ _ _ _ h.f (by decide) (by decide) (by decide), h.bel.trans hk.below⟩
theorem PlB.few (h : PlB w0 B g R C vM vF M M' F F' w) : M'.length + F'.length ≤ C := by
  obtain ⟨vR, vC, s, _, h2, _⟩ := h.ar
  have := h2.count
  have := h2.most
  omega
theorem PlB.distinct (h : PlB w0 B g R C vM vF M M' F F' w) : M'.Pairwise fun x y => x.1 ≠ y.1 := by
  obtain ⟨vR, vC, s, _, h2, _⟩ := h.ar
  exact List.pairwise_map.1 (List.nodup_append.1 h2.nodup).1
theorem PlB.inrow (h : PlB w0 B g R C vM vF M M' F F' w) : ∀ x ∈ M', x.2.1 < R := by
  obtain ⟨vR, vC, s, _, h2, _⟩ := h.ar
  exact h2.inrow
/-- Another row of the law's in M's place. -/
theorem PlB.newM {N : List (Nat × Nat × Int)} {v : Value} (h : PlB w0 B g R C vM vF M M' F F' w) (hb : Below w.heap.size w w') (ho : w'.ownsRow B 35 3 v N.length (N.flatMap cell1)) : PlB w0 B g R C v vF N M' F F' w' :=
  ⟨(h.carry hb).ar, ho, (h.carry hb).f, (h.carry hb).bel⟩
theorem PlB.newF {G : List Nat} {v : Value} (h : PlB w0 B g R C vM vF M M' F F' w) (hb : Below w.heap.size w w') (ho : w'.ownsRow B 3 1 v G.length (plcs G.reverse)) : PlB w0 B g R C vM v M M' G F' w' :=
  ⟨(h.carry hb).ar, (h.carry hb).m, ho, (h.carry hb).bel⟩
/-- The places grow in their own row. -/
theorem PlB.grownF {G : List Nat} {v : Value} (h : PlB w0 B g R C vM vF M M' F F' w) (hg : w.grownBy w' vF.ownBlock) (ho : w'.ownsRow B 3 1 v G.length (plcs G.reverse)) : PlB w0 B g R C vM v M M' G F' w' := by
  have hc := Chg.of_grown hg
  refine ⟨h.ar.other h.f (by decide) (by decide) (by decide) hc, own_chg h.m hc (fun j hj e => own_apart h.m h.f (by decide) hj e.symm), ho, h.bel.trans (hc.small (Nat.le_of_lt h.ar.base) (fun i hi e => ?_))⟩
  have := (h.f.lt i e.symm).1
  omega
theorem PlB.push_bad (h : PlB w0 B g R C vM vF M M' F F' w) {row : Int} (hr : row < 0 ∨ (R : Int) ≤ row) (v : Int) :
    Calls Try.prog 8 #[.pointer (some ⟨g, 0, none⟩), .int .i64 row, .int .i64 v] w fun e w' => e = .returned (.tuple #[.int .i64 0, .int .i64 1]) ∧ w = w' := ar_push_bad h.ar hr v
theorem PlB.push_full (h : PlB w0 B g R C vM vF M M' F F' w) {row : Int} (h0 : 0 ≤ row) (hr : row < (R : Int)) (hM : C ≤ M'.length) (v : Int) :
    Calls Try.prog 8 #[.pointer (some ⟨g, 0, none⟩), .int .i64 row, .int .i64 v] w fun e w' => e = .returned (.tuple #[.int .i64 0, .int .i64 8]) ∧ w = w' := ar_push_full h.ar h0 hr (by have := h.few; omega) v
def PlPush (w0 w : World) (B g R C : Nat) (vM vF : Value) (M M' : List (Nat × Nat × Int)) (F F' : List Nat) (c : Nat) (e : Ending) (w' : World) : Prop := e = .returned (.tuple #[.int .i64 c, .int .i64 0]) ∧ PlB w0 B g R C vM vF M M' F F' w' ∧ Keep B w w'
theorem PlB.push (h : PlB w0 B g R C vM vF M M F F w) {row : Nat} (hr : row < R) (hM : M.length < C) (v : Int) :
    Calls Try.prog 8 #[.pointer (some ⟨g, 0, none⟩), .int .i64 row, .int .i64 v] w (PlPush w0 w B g R C vM vF M (M ++ [(nextC M F, row, v)]) F F.tail (nextC M F)) :=
  (ar_push h.ar hr hM v).mono fun _ _ ⟨h1, h2, h3⟩ => ⟨h1, h.keep h3 h2, h3⟩
theorem PlB.remove_bad (h : PlB w0 B g R C vM vF M M' F F' w) {c : Int} (hc : ∀ x ∈ M', (x.1 : Int) ≠ c) :
    Calls Try.prog 9 #[.pointer (some ⟨g, 0, none⟩), .int .i64 c] w fun e w' => e = .returned (.bool false) ∧ w = w' := ar_remove_bad h.ar hc
def PlRem (w0 w : World) (B g R C : Nat) (vM vF : Value) (M M' : List (Nat × Nat × Int)) (F F' : List Nat) (e : Ending) (w' : World) : Prop := e = .returned (.bool true) ∧ PlB w0 B g R C vM vF M M' F F' w' ∧ Keep B w w'
theorem PlB.remove (h : PlB w0 B g R C vM vF M M F F w) {k : Nat} {x : Nat × Nat × Int} (hx : M[k]? = some x) :
    Calls Try.prog 9 #[.pointer (some ⟨g, 0, none⟩), .int .i64 x.1] w (PlRem w0 w B g R C vM vF M (M.take k ++ M.drop (k + 1)) F (x.1 :: F)) := by
  have h1 := h.ar
  rw [cut_at hx] at h1
  exact (ar_remove h1).mono fun _ _ ⟨a, b, c⟩ => ⟨a, h.keep c b, c⟩
/-- One of the law's cells. -/
theorem PlB.cell (h : PlB w0 B g R C vM vF M M' F F' w) {k : Nat} {x : Nat × Nat × Int} (hx : M[k]? = some x) : ∃ b c, vM = .slice (some ⟨b, 0, none⟩) M.length c ∧ b < w.heap.size ∧ w.cell? ⟨b, k * 3, none⟩ = some (.int .i64 x.1) ∧ w.cell? ⟨b, k * 3 + 1, none⟩ = some (.int .i64 x.2.1) ∧ w.cell? ⟨b, k * 3 + 2, none⟩ = some (.int .i64 x.2.2) := by
  have hl : k < M.length := by
    rcases Nat.lt_or_ge k M.length with h | h
    · exact h
    · rw [List.getElem?_eq_none h] at hx; cases hx
  rcases own_form h.m with ⟨_, h0⟩ | ⟨b, c, hv, _, hlt, _⟩
  · omega
  · have hr := h.m
    subst hv
    exact ⟨b, c, rfl, hlt, own_cell hr (flat_at cell1_len hx (i := 0) rfl), own_cell hr (flat_at cell1_len hx (i := 1) rfl), own_cell hr (flat_at cell1_len hx (i := 2) rfl)⟩
/-- The place that became free last. -/
theorem PlB.top {c : Nat} (h : PlB w0 B g R C vM vF M M' (c :: F) F' w) : ∃ b cap, vF = .slice (some ⟨b, 0, none⟩) (F.length + 1) cap ∧ b < w.heap.size ∧ F.length + 1 ≤ cap ∧ w.cell? ⟨b, F.length, none⟩ = some (.int .i64 c) := by
  rcases own_form h.f with ⟨_, h0⟩ | ⟨b, cap, hv, _, hlt, hcap⟩
  · simp at h0
  · have hr := h.f
    subst hv
    refine ⟨b, cap, rfl, hlt, hcap, own_cell hr ?_⟩
    simp [plcs]
theorem PlB.nilF (h : PlB w0 B g R C vM vF M M' [] F' w) : ∃ A c, vF = .slice A 0 c := own_slice h.f
/-- The places but the one that became free last. -/
theorem PlB.pop {c : Nat} {b cap : Nat} (h : PlB w0 B g R C vM vF M M' (c :: F) F' w) (hv : vF = .slice (some ⟨b, 0, none⟩) (F.length + 1) cap) : RdS w w.heap.size (some ⟨b, 0, none⟩) F.length 1 (plcs F.reverse) := by
  have h1 := h.f
  rw [hv] at h1
  have h2 := (RdS.ofOwn h1).head (k := F.length) (by simp)
  have e : (plcs (c :: F).reverse).take (F.length * 1) = plcs F.reverse := by
    rw [Nat.mul_one, List.reverse_cons]
    unfold plcs
    rw [List.map_append, List.take_append_of_le_length (by simp), List.take_of_length_le (by simp)]
  rw [e] at h2
  exact h2
/-- Another row of places, in the old one's place. -/
theorem PlB.reads (h : PlB w0 B g R C vM vF M M' F F' w) : ∃ A c, vM = .slice A M.length c ∧ (A = none → c = 0) ∧ RdS w w.heap.size A M.length 3 (M.flatMap cell1) := by
  have h1 := h.m
  obtain ⟨A, c, rfl⟩ := own_slice h1
  refine ⟨A, c, rfl, fun hA => ?_, RdS.ofOwn h1⟩
  rcases own_form h1 with ⟨e, _⟩ | ⟨g, c', e, _⟩
  · injection e
  · injection e with e _ _; rw [hA] at e; cases e
end
/-- What is kept ahead of place j goes ahead of it in its row. -/
theorem row_place {M : List (Nat × Nat × Int)} {j c r : Nat} {v : Int} (h : M[j]? = some (c, r, v)) : (rowOf M r)[(rowOf (M.take j) r).length]? = some (c, v) ∧ (rowOf (M.take (j + 1)) r).length = (rowOf (M.take j) r).length + 1 := by
  have hj : j < M.length := by
    rcases Nat.lt_or_ge j M.length with h' | h'
    · exact h'
    · rw [List.getElem?_eq_none h'] at h; cases h
  constructor
  · conv => lhs; arg 1; rw [cut_at h]
    rw [rowOf_append, ← List.singleton_append, rowOf_append, rowOf_one, if_pos rfl, List.getElem?_append_right (Nat.le_refl _), Nat.sub_self]
    rfl
  · rw [List.getElem?_eq_getElem hj] at h
    injection h with h
    rw [List.take_succ_eq_append_getElem hj, h, rowOf_append, rowOf_one, if_pos rfl, List.length_append]; rfl
theorem row_past {M : List (Nat × Nat × Int)} {j c r s : Nat} {v : Int} (h : M[j]? = some (c, s, v)) (hr : s ≠ r) : (rowOf (M.take (j + 1)) r).length = (rowOf (M.take j) r).length := by
  have hj : j < M.length := by
    rcases Nat.lt_or_ge j M.length with h' | h'
    · exact h'
    · rw [List.getElem?_eq_none h'] at h; cases h
  rw [List.getElem?_eq_getElem hj] at h
  injection h with h
  rw [List.take_succ_eq_append_getElem hj, h, rowOf_append, rowOf_one, if_neg hr, List.append_nil]
theorem cur_at {L : List (Nat × Int)} {k : Nat} {x : Nat × Int} (h : L[k]? = some x) : cur L k = x.1 := by unfold cur; rw [h]
/-- The end of the play: a row's values in hand. -/
def PlV (w0 : World) (B g R C : Nat) (vM vF : Value) (M : List (Nat × Nat × Int)) (F : List Nat) (L : List (Nat × Int)) (v : Value) (w : World) : Prop := PlB w0 B g R C vM vF M M F F w ∧ ∃ base, w.ownsRow base 2 1 v L.length (vals L)
theorem PlV.carry {w0 w w' : World} {B g R C : Nat} {vM vF v : Value} {M : List (Nat × Nat × Int)} {F : List Nat} {L : List (Nat × Int)} (h : PlV w0 B g R C vM vF M F L v w) (hb : Below w.heap.size w w') : PlV w0 B g R C vM vF M F L v w' := ⟨h.1.carry hb, h.2.elim fun base ho => ⟨base, own_keep ho hb⟩⟩
theorem PlV.at_ {w0 w : World} {B g R C : Nat} {vM vF v : Value} {M : List (Nat × Nat × Int)} {F : List Nat} {L : List (Nat × Int)} (h : PlV w0 B g R C vM vF M F L v w) {k : Nat} {x : Nat × Int} (hx : L[k]? = some x) : ∃ b c, v = .slice (some ⟨b, 0, none⟩) L.length c ∧ b < w.heap.size ∧ w.cell? ⟨b, k, none⟩ = some (.int .i64 x.2) := by
  obtain ⟨base, ho⟩ := h.2
  have hl : k < L.length := by
    rcases Nat.lt_or_ge k L.length with h | h
    · exact h
    · rw [List.getElem?_eq_none h] at hx; cases hx
  rcases own_form ho with ⟨_, h0⟩ | ⟨b, c, hv, _, hlt, _⟩
  · omega
  · subst hv
    exact ⟨b, c, rfl, hlt, own_cell ho (by simp [vals, hx])⟩
theorem bel_drewN (w : World) (q : Nat) : Below w.heap.size w (w.drewN q) := ⟨rfl, rfl, rfl, Nat.le_refl _, fun _ _ => rfl⟩
/-- With a box of the law's own. -/
def PlX (w0 : World) (B g R C : Nat) (vM vF : Value) (M M' : List (Nat × Nat × Int)) (F F' : List Nat) (gx : Nat) (cs : Array Value) (w : World) : Prop := PlB w0 B g R C vM vF M M' F F' w ∧ Box w gx 31 cs
theorem PlX.drewN {w0 w : World} {B g R C gx : Nat} {vM vF : Value} {M M' : List (Nat × Nat × Int)} {F F' : List Nat} {cs : Array Value} (h : PlX w0 B g R C vM vF M M' F F' gx cs w) (q : Nat) : PlX w0 B g R C vM vF M M' F F' gx cs (w.drewN q) := ⟨h.1.carry (bel_drewN w q), h.2.kept_below (bel_drewN w q) h.2.there⟩
theorem flat_take (M : List (Nat × Nat × Int)) (k : Nat) : (M.flatMap cell1).take (k * 3) = (M.take k).flatMap cell1 := by
  induction k generalizing M with
  | zero => simp
  | succ k ih =>
    cases M with
    | nil => simp
    | cons x M =>
      rw [List.flatMap_cons, List.take_succ_cons, List.flatMap_cons, show (k + 1) * 3 = 3 + k * 3 by omega]
      rw [List.take_append, ← ih, List.take_of_length_le (show (cell1 x).length ≤ 3 + k * 3 by rw [cell1_len]; omega), cell1_len, Nat.add_sub_cancel_left]
theorem flat_drop (M : List (Nat × Nat × Int)) (k : Nat) : (M.flatMap cell1).drop (k * 3) = (M.drop k).flatMap cell1 := by
  induction k generalizing M with
  | zero => simp
  | succ k ih =>
    cases M with
    | nil => simp
    | cons x M =>
      rw [List.flatMap_cons, List.drop_succ_cons, ← ih, show (k + 1) * 3 = 3 + k * 3 by omega, ← List.drop_drop]
      rfl
theorem PlB.front {w0 w : World} {B g R C : Nat} {vM vF : Value} {M M' : List (Nat × Nat × Int)} {F F' : List Nat} (h : PlB w0 B g R C vM vF M M' F F' w) {b c n : Nat} (hv : vM = .slice (some ⟨b, 0, none⟩) n c) {k : Nat} (hk : k < M.length) :
    RdS w w.heap.size (some ⟨b, 0, none⟩) k 3 ((M.take k).flatMap cell1) ∧ RdS w w.heap.size (some ⟨b, (k + 1) * 3, none⟩) (M.length - (k + 1)) 3 ((M.drop (k + 1)).flatMap cell1) := by
  have h1 := h.m
  obtain ⟨A0, c0, hv0⟩ := own_slice h1
  have hn : n = M.length := by rw [hv] at hv0; injection hv0
  subst hn
  rw [hv] at h1
  have h2 := RdS.ofOwn h1
  refine ⟨?_, ?_⟩
  · rw [← flat_take]; exact h2.head (by omega)
  · have := h2.tail (k := k + 1) (by omega)
    rw [Nat.zero_add, flat_drop] at this
    exact this
/-- The place, of those ahead of j, where a cell is kept; -1 where none is. -/
def fk (M : List (Nat × Nat × Int)) (c : Int) : Nat → Int
  | 0 => -1
  | j + 1 => match M[j]? with
    | none => fk M c j
    | some x => if (x.1 : Int) = c then j else fk M c j
theorem fk_succ {M : List (Nat × Nat × Int)} {j : Nat} {x : Nat × Nat × Int} (h : M[j]? = some x) (c : Int) : fk M c (j + 1) = if (x.1 : Int) = c then (j : Int) else fk M c j := by
  show (match M[j]? with
    | none => fk M c j
    | some x => if (x.1 : Int) = c then (j : Int) else fk M c j) = _
  rw [h]
theorem fk_spec (M : List (Nat × Nat × Int)) (c : Int) (j : Nat) (hj : j ≤ M.length) : (fk M c j = -1 ∧ ∀ (i : Nat) (x : Nat × Nat × Int), i < j → M[i]? = some x → (x.1 : Int) ≠ c) ∨ ∃ (k : Nat) (x : Nat × Nat × Int), fk M c j = k ∧ k < M.length ∧ M[k]? = some x ∧ (x.1 : Int) = c := by
  induction j with
  | zero => exact .inl ⟨rfl, fun i x hi => absurd hi (Nat.not_lt_zero _)⟩
  | succ j ih =>
    obtain ⟨y, hy⟩ : ∃ y, M[j]? = some y := ⟨_, List.getElem?_eq_getElem (by omega)⟩
    rw [fk_succ hy]
    by_cases hc : (y.1 : Int) = c
    · rw [if_pos hc]
      exact .inr ⟨j, y, rfl, by omega, hy, hc⟩
    · rw [if_neg hc]
      rcases ih (by omega) with ⟨h1, h2⟩ | h
      · refine .inl ⟨h1, fun i x hi hx => ?_⟩
        rcases Nat.lt_or_ge i j with h | h
        · exact h2 i x h hx
        · obtain rfl : i = j := by omega
          rw [hy] at hx
          injection hx with hx
          rw [← hx]
          exact hc
      · exact .inr h
end Go.Proofs.Ytmgfeofkbblmjaa
