/- A ledger in memory, and the contracts of New, has, Len, Get, num.In. -/
import Derived.Test.YtfidihmiadjpjaaRows
import Derived.WalkKit
import Derived.WalkSpells
import Derived.WalkLawsBesides
import Derived.Handy
import Derived.Lib.Hide
import Derived.Test.YtfidihmiadjpjaaKit
import Derived.Test.YtfidihmiadjpjaaLifMath
set_option linter.unusedSimpArgs false
namespace Go.Proofs.Ytfidihmiadjpjaa
open Go.RowKit Go.Mem1 Go.LifMath

theorem rb {a b : Bool} (h : a = b) : Ending.returned (.bool a) = .returned (.bool b) := by rw [h]
theorem ri {k : IntKind} {a b : Int} (h : a = b) : Ending.returned (.int k a) = .returned (.int k b) := by rw [h]
def ent1 (e : Ent) : List Value := [.int .i64 e.en, .int .i64 e.fi, .int .i64 e.ca, .int .i64 e.op, .int .i64 e.ow, .int .i64 e.se, .int .i64 e.si]
theorem ent1_len (e : Ent) : (ent1 e).length = 7 := rfl
theorem ent1_one (e : Ent) : ∀ u ∈ ent1 e, u.oneCell' = true := by
  intro u hu
  simp [ent1] at hu
  rcases hu with rfl | rfl | rfl | rfl | rfl | rfl | rfl <;> rfl
/-- An entry as a value. -/
def entV (e : Ent) : Value := .agg #[.int .i64 e.en, .int .i64 e.fi, .int .i64 e.ca, .int .i64 e.op, .int .i64 e.ow, .int .i64 e.se, .int .i64 e.si]
/-- A ledger: its block, its row. -/
structure LedAt (w : World) (B g : Nat) (vE : Value) (L : List Ent) : Prop where
  box : Box w g 47 #[vE]
  low : B ≤ g
  row : w.ownsRow B 33 7 vE L.length (L.flatMap ent1)
  most : L.length ≤ 200
section
variable {w w' : World} {B g : Nat} {vE : Value} {L : List Ent}
theorem LedAt.carry (h : LedAt w B g vE L) (hb : Below w.heap.size w w') : LedAt w' B g vE L := ⟨h.box.kept_below hb h.box.there, h.low, own_keep h.row hb, h.most⟩
theorem LedAt.base (h : LedAt w B g vE L) : B < w.heap.size := Nat.lt_of_le_of_lt h.low h.box.there
theorem LedAt.there (h : LedAt w B g vE L) : g < w.heap.size := h.box.there
theorem LedAt.c0 (h : LedAt w B g vE L) : w.cell? ⟨g, 0, none⟩ = some vE := h.box.reads 0
theorem LedAt.form (h : LedAt w B g vE L) : ∃ A c, vE = .slice A L.length c := own_slice h.row
/-- An entry's cells. -/
theorem LedAt.ent (h : LedAt w B g vE L) {k : Nat} {e : Ent} (hk : L[k]? = some e) : ∃ b c, vE = .slice (some ⟨b, 0, none⟩) L.length c ∧ k < L.length ∧ b < w.heap.size ∧ B ≤ b ∧ b ≠ g ∧
    w.cell? ⟨b, k * 7, none⟩ = some (.int .i64 e.en) ∧ w.cell? ⟨b, k * 7 + 1, none⟩ = some (.int .i64 e.fi) ∧ w.cell? ⟨b, k * 7 + 2, none⟩ = some (.int .i64 e.ca) ∧ w.cell? ⟨b, k * 7 + 3, none⟩ = some (.int .i64 e.op) ∧
    w.cell? ⟨b, k * 7 + 4, none⟩ = some (.int .i64 e.ow) ∧ w.cell? ⟨b, k * 7 + 5, none⟩ = some (.int .i64 e.se) ∧ w.cell? ⟨b, k * 7 + 6, none⟩ = some (.int .i64 e.si) ∧ ∀ i, w.frozen? ⟨b, i, none⟩ = false := by
  have hl := at_lt hk
  rcases own_form h.row with ⟨_, h0⟩ | ⟨b, c, hv, hb, hlt, _⟩
  · omega
  · have hr := h.row
    have hbg := h.box.off_row h.row (by decide)
    subst hv
    exact ⟨b, c, rfl, hl, hlt, hb, (fun e => hbg (by rw [e]; rfl)), own_cell hr (flat_at ent1_len hk (i := 0) rfl), own_cell hr (flat_at ent1_len hk (i := 1) rfl), own_cell hr (flat_at ent1_len hk (i := 2) rfl), own_cell hr (flat_at ent1_len hk (i := 3) rfl), own_cell hr (flat_at ent1_len hk (i := 4) rfl), own_cell hr (flat_at ent1_len hk (i := 5) rfl), own_cell hr (flat_at ent1_len hk (i := 6) rfl), fun i => hr.frozenAt i⟩
/-- A number stored in an entry. -/
theorem LedAt.store (h : LedAt w B g vE L) {b c n : Nat} (hv : vE = .slice (some ⟨b, 0, none⟩) n c) {k : Nat} {e : Ent} (hk : L[k]? = some e) (e2 : Ent) (i : Nat) (u : Value) (hi : i < 7) (hf : ent1 e2 = (ent1 e).set i u) :
    LedAt (w.setCell ⟨b, k * 7 + i, none⟩ u) B g vE (L.set k e2) ∧ Chg (fun j => some j = vE.ownBlock) w (w.setCell ⟨b, k * 7 + i, none⟩ u) := by
  have hbl : vE.ownBlock = some b := by rw [hv]; rfl
  have hc : Chg (fun j => j = b) w (w.setCell ⟨b, k * 7 + i, none⟩ u) := Chg.setCell (S := fun j => j = b) (Chg.refl _ _) (p := ⟨b, k * 7 + i, none⟩) (fun _ => rfl) _
  have hgb : ¬ g = b := fun e => h.box.off_row h.row (by decide) (by rw [hbl, e])
  obtain ⟨A0, c0, hv0⟩ := own_slice h.row
  have hn : n = L.length := by rw [hv] at hv0; injection hv0
  subst hn
  have hr := h.row
  rw [hv] at hr
  refine ⟨⟨h.box.kept hc hgb, h.low, ?_, by simpa using h.most⟩, hc.mono (fun j _ e => by rw [hbl, e])⟩
  have hs := (hr.stored (k * 7 + i) u).1
  rw [flat_set (f := ent1) ent1_len hk (y := e2) hi hf] at hs
  rw [List.length_set, hv]
  exact hs
end
theorem in_any (v lo hi : Int) (w : World) :
    Calls Try.prog 16 #[.int .i64 v, .int .i64 lo, .int .i64 hi] w fun e w' => e = .returned (.bool (decide (lo ≤ v) && decide (v ≤ hi))) ∧ w = w' := by
  obtain ⟨b, hb⟩ : ∃ b, (decide (lo ≤ v) && decide (v ≤ hi)) = b := ⟨_, rfl⟩
  rw [hb]
  have HK := Lib.hid hb
  clear hb
  go_enter Try.func16, Try.ntmps16
  go_wp2_with fail
  all_goals
    go_ret
    exact ⟨rb (by rw [← HK.out]; simp_all <;> omega), rfl⟩
/-- New: nothing in it. -/
theorem new_any (w : World) : Calls Try.prog 7 #[] w fun e w' => e = .returned (.pointer (some ⟨w.heap.size, 0, none⟩)) ∧ LedAt w' w.heap.size w.heap.size (.slice none 0 0) [] ∧ Below w.heap.size w w' := by
  go_enter Try.func7, Try.ntmps7
  go_wp2_with fail
  go_ret
  exact ⟨rfl, ⟨Box.fresh w _ _ rfl, Nat.le_refl _, World.ownsRow_nil _ _ _ _, by simp⟩, bel_new _ _⟩
/-- Is there such an order? -/
def hasB (n : Nat) (id : Int) : Bool := decide (1 ≤ id) && decide (id ≤ (n : Int))
set_option maxHeartbeats 1000000 in
theorem has_any {w : World} {B g : Nat} {vE : Value} {L : List Ent} (h : LedAt w B g vE L) (id : Int) : Calls Try.prog 18 #[.pointer (some ⟨g, 0, none⟩), .int .i64 id] w fun e w' => e = .returned (.bool (hasB L.length id)) ∧ w = w' := by
  have c0 := h.c0
  obtain ⟨A, c, hv⟩ := h.form
  rw [hv] at c0
  have hm := h.most
  obtain ⟨n, hn⟩ : ∃ n, L.length = n := ⟨_, rfl⟩
  rw [hn] at c0 hm ⊢
  have HI := Lib.hid (in_any id 1 n)
  clear h hv hn
  go_enter Try.func18, Try.ntmps18
  go_wp2_with (go_at_call 16; refine (HI.out _).mono ?_; rintro e w' ⟨rfl, rfl⟩)
  go_ret
  exact ⟨rfl, rfl⟩
set_option maxHeartbeats 1000000 in
theorem len_any {w : World} {B g : Nat} {vE : Value} {L : List Ent} (h : LedAt w B g vE L) : Calls Try.prog 14 #[.pointer (some ⟨g, 0, none⟩)] w fun e w' => e = .returned (.int .i64 L.length) ∧ w = w' := by
  have c0 := h.c0
  obtain ⟨A, c, hv⟩ := h.form
  rw [hv] at c0
  have hm := h.most
  obtain ⟨n, hn⟩ : ∃ n, L.length = n := ⟨_, rfl⟩
  rw [hn] at c0 hm ⊢
  clear h hv hn
  go_enter Try.func14, Try.ntmps14
  go_wp2_with fail
  go_ret
  exact ⟨rfl, rfl⟩
/-- What Get answers. -/
def Got (w : World) (e : Ent) (b : Bool) (r : Ending) (w' : World) : Prop := r = .returned (.tuple #[entV e, .bool b]) ∧ Below w.heap.size w w'
set_option maxHeartbeats 1000000 in
theorem get_bad {w : World} {B g : Nat} {vE : Value} {L : List Ent} (h : LedAt w B g vE L) {id : Int} (hid : hasB L.length id = false) : Calls Try.prog 11 #[.pointer (some ⟨g, 0, none⟩), .int .i64 id] w (Got w ⟨0, 0, 0, 0, 0, 0, 0⟩ false) := by
  have HH := Lib.hid (fun w' (hb : Below w.heap.size w w') => has_any (h.carry hb) id)
  rw [hid] at HH
  clear h hid
  go_enter Try.func11, Try.ntmps11
  go_wp2_with (go_at_call 18; refine (HH.out _ (bel_new _ _)).mono ?_; rintro e w' ⟨rfl, rfl⟩)
  refine bodyPost_ret (v := .tuple #[entV ⟨0, 0, 0, 0, 0, 0, 0⟩, .bool false]) (by simp [results, Try.results11, go_sem, entV]) rfl ⟨rfl, bel_new _ _⟩
theorem has_at {n k : Nat} (h : k < n) : hasB n ((k : Int) + 1) = true := by unfold hasB; simp; omega
set_option maxHeartbeats 1000000 in
theorem get_ok {w : World} {B g : Nat} {vE : Value} {L : List Ent} (h : LedAt w B g vE L) {k : Nat} {e : Ent} (hk : L[k]? = some e) : Calls Try.prog 11 #[.pointer (some ⟨g, 0, none⟩), .int .i64 ((k : Int) + 1)] w (Got w e true) := by
  have HH := Lib.hid (fun w' (hb : Below w.heap.size w w') => has_any (h.carry hb) ((k : Int) + 1))
  rw [has_at (at_lt hk)] at HH
  have c0 := h.c0
  obtain ⟨b, c, hv, hlt, hb, _, _, k0, k1, k2, k3, k4, k5, k6, _⟩ := h.ent hk
  rw [hv] at c0
  have hm := h.most
  have hgr : g ≠ w.heap.size := by have := h.there; omega
  have hbr : b ≠ w.heap.size := by omega
  obtain ⟨n, hn⟩ : ∃ n, L.length = n := ⟨_, rfl⟩
  rw [hn] at c0 hm hlt
  obtain ⟨en, fi, ca, op, ow, se, si⟩ := e
  dsimp only at k0 k1 k2 k3 k4 k5 k6
  have i1 : (0 : Int) ≤ (k : Int) := by omega
  have i2 : (k : Int) < (n : Int) := by omega
  have up : ∀ (o : Obj) (p : Addr) (u : Value), p.block < w.heap.size → w.cell? p = some u → (w.alloc o).cell? p = some u := fun o p u hp hu => ((bel_new w o).cell hp).trans hu
  have hgl := h.there
  replace c0 := fun o => up o ⟨g, 0, none⟩ _ hgl c0
  replace k0 := fun o => up o ⟨b, k * 7, none⟩ _ hb k0
  replace k1 := fun o => up o ⟨b, k * 7 + 1, none⟩ _ hb k1
  replace k2 := fun o => up o ⟨b, k * 7 + 2, none⟩ _ hb k2
  replace k3 := fun o => up o ⟨b, k * 7 + 3, none⟩ _ hb k3
  replace k4 := fun o => up o ⟨b, k * 7 + 4, none⟩ _ hb k4
  replace k5 := fun o => up o ⟨b, k * 7 + 5, none⟩ _ hb k5
  replace k6 := fun o => up o ⟨b, k * 7 + 6, none⟩ _ hb k6
  clear h hk hn hv up
  go_enter Try.func11, Try.ntmps11
  go_wp2_with (go_at_call 18; refine (HH.out _ (bel_new _ _)).mono ?_; rintro e w' ⟨rfl, rfl⟩)
  refine bodyPost_ret (v := .tuple #[entV ⟨en, fi, ca, op, ow, se, si⟩, .bool true]) (by simp [results, Try.results11, go_sem, entV]) rfl ⟨rfl, bel_new _ _⟩
end Go.Proofs.Ytfidihmiadjpjaa
