/- The landed book of complex orders in memory: its block, its two rows; what a call of it keeps; New, Len, Takes, Ahead, mayWait, of. -/
import Derived.Test.YtekppjigckjgiaaCbkRef
import Derived.Deep.RegionLaw
import Derived.Deep.RegionHeld3
import Derived.BigQuiet
set_option linter.unusedSimpArgs false
namespace Go.Proofs.Ytekppjigckjgiaa
open Go.RowKit Go.Mem1 Go.CbkMath

/-- A book: its block, its two rows. -/
structure BkAt (w : World) (B g : Nat) (v1 v2 : Value) (D : Dk) : Prop where
  box : Box w g 67 #[v1, v2]
  low : B ≤ g
  b : w.ownsRow B 31 5 v1 D.1.length (D.1.flatMap co1)
  s : w.ownsRow B 31 5 v2 D.2.length (D.2.flatMap co1)
  two : ∀ j, v1.ownBlock = some j → v2.ownBlock ≠ some j
  inv : Inv D
/-- The blocks that are a book's own. -/
def BkO (g : Nat) (v1 v2 : Value) : Nat → Prop := fun j => j = g ∨ v1.ownBlock = some j ∨ v2.ownBlock = some j
section
variable {w w' : World} {B g : Nat} {v1 v2 : Value} {D : Dk}
theorem BkAt.kept (h : BkAt w B g v1 v2 D) {S : Nat → Prop} (hc : Chg S w w') (hS : ∀ j, BkO g v1 v2 j → ¬ S j) : BkAt w' B g v1 v2 D :=
  ⟨h.box.kept hc (hS g (.inl rfl)), h.low, own_chg h.b hc (fun j hj => hS j (.inr (.inl hj))), own_chg h.s hc (fun j hj => hS j (.inr (.inr hj))), h.two, h.inv⟩
theorem BkAt.carry (h : BkAt w B g v1 v2 D) (hb : Below w.heap.size w w') : BkAt w' B g v1 v2 D := h.kept (Chg.of_below hb (fun _ => False)) (fun _ _ e => e)
theorem BkAt.there (h : BkAt w B g v1 v2 D) : g < w.heap.size := h.box.there
theorem BkAt.base (h : BkAt w B g v1 v2 D) : B < w.heap.size := Nat.lt_of_le_of_lt h.low h.box.there
theorem BkAt.own_lt (h : BkAt w B g v1 v2 D) {j : Nat} (hj : BkO g v1 v2 j) : B ≤ j ∧ j < w.heap.size := by
  rcases hj with rfl | hj | hj
  · exact ⟨h.low, h.there⟩
  · exact World.ownsRow.lt h.b j hj
  · exact World.ownsRow.lt h.s j hj
theorem BkAt.off (h : BkAt w B g v1 v2 D) {j : Nat} {t : TypeId} {cs : Array Value} (hj : BkO g v1 v2 j) (hx : Box w j t cs) : t = 67 ∨ t = 31 := by
  by_cases ht : t = 67
  · exact .inl ht
  · by_cases ht2 : t = 31
    · exact .inr ht2
    · rcases hj with rfl | hj | hj
      · exact absurd rfl (hx.apart h.box ht)
      · exact absurd hj (hx.off_row h.b (Ne.symm ht2))
      · exact absurd hj (hx.off_row h.s (Ne.symm ht2))
theorem BkAt.apart (h : BkAt w B g v1 v2 D) : v1.ownBlock ≠ some g ∧ v2.ownBlock ≠ some g := ⟨h.box.off_row h.b (by decide), h.box.off_row h.s (by decide)⟩
theorem BkAt.c0 (h : BkAt w B g v1 v2 D) : w.cell? ⟨g, 0, none⟩ = some v1 := h.box.reads 0
theorem BkAt.c1 (h : BkAt w B g v1 v2 D) : w.cell? ⟨g, 1, none⟩ = some v2 := h.box.reads 1
end
theorem bbel_drewN (w : World) (q : Nat) : Below w.heap.size w (w.drewN q) := ⟨rfl, rfl, rfl, Nat.le_refl _, fun _ _ => rfl⟩
set_option maxHeartbeats 1000000 in
theorem bnew_any (w : World) : Calls Try.prog 8 #[] w fun e w' => e = .returned (.pointer (some ⟨w.heap.size, 0, none⟩)) ∧ BkAt w' w.heap.size w.heap.size (.slice none 0 0) (.slice none 0 0) ([], []) ∧ Below w.heap.size w w' := by
  go_enter Try.func8, Try.ntmps8
  go_wp2_with fail
  go_ret
  exact ⟨rfl, ⟨Box.fresh w _ _ rfl, Nat.le_refl _, World.ownsRow_nil _ _ _ _, World.ownsRow_nil _ _ _ _, fun j e => (by cases e), Inv.nil⟩, bel_new _ _⟩
set_option maxHeartbeats 1000000 in
theorem blen_any {w : World} {B g : Nat} {v1 v2 : Value} {D : Dk} (h : BkAt w B g v1 v2 D) :
    Calls Try.prog 25 #[.pointer (some ⟨g, 0, none⟩)] w fun e w' => e = .returned (.int .i64 ((D.1.length + D.2.length : Nat) : Int)) ∧ Below w.heap.size w w' := by
  have c0 := h.c0
  have c1 := h.c1
  have hm := h.inv.most
  obtain ⟨A1, k1, e1⟩ := own_slice h.b
  obtain ⟨A2, k2, e2⟩ := own_slice h.s
  rw [e1] at c0
  rw [e2] at c1
  obtain ⟨n1, hn1⟩ : ∃ n1, D.1.length = n1 := ⟨_, rfl⟩
  obtain ⟨n2, hn2⟩ : ∃ n2, D.2.length = n2 := ⟨_, rfl⟩
  rw [hn1] at c0 hm ⊢
  rw [hn2] at c1 hm ⊢
  clear h e1 e2 hn1 hn2
  go_enter Try.func25, Try.ntmps25
  go_wp2_with fail
  go_quiet (fail)
  go_wp2_with fail
  go_ret
  exact ⟨by go_num, bbel_drewN _ _⟩
theorem btakes_any {o : CO} (hs : o.si = 1 ∨ o.si = 2) (net : Int) (w : World) : Calls Try.prog 23 #[coV o, .int .i64 net] w fun e w' => e = .returned (.bool (takesC o net)) ∧ Below w.heap.size w w' := by
  obtain ⟨R, hR⟩ : ∃ R, takesC o net = R := ⟨_, rfl⟩
  rw [hR]
  obtain ⟨i1, o1, s1, n1, u1⟩ := o
  unfold takesC at hR
  dsimp only at hR hs
  rcases hs with rfl | rfl
  · rw [if_pos rfl] at hR
    have HR := Lib.hid hR
    clear hR
    unfold coV
    go_enter Try.func23, Try.ntmps23
    go_wp2_with fail
    go_ret
    exact ⟨rb HR.out, bel_new _ _⟩
  · rw [if_neg (by decide)] at hR
    have HR := Lib.hid hR
    clear hR
    unfold coV
    go_enter Try.func23, Try.ntmps23
    go_wp2_with fail
    go_ret
    exact ⟨rb HR.out, bel_new _ _⟩
set_option maxHeartbeats 1000000 in
theorem bahead_any {a b : CO} (hs : a.si = 1 ∨ a.si = 2) (w : World) : Calls Try.prog 21 #[coV a, coV b] w fun e w' => e = .returned (.bool (aheadC a b)) ∧ Below w.heap.size w w' := by
  have HT := Lib.hid (fun w' => btakes_any hs b.ne w')
  have hR : aheadC a b = if a.ne = b.ne then decide (a.id < b.id) else takesC a b.ne := by
    unfold aheadC takesC
    by_cases hn : a.ne = b.ne
    · rw [if_pos hn, if_pos hn]
    · rw [if_neg hn, if_neg hn]
      rcases hs with h | h
      · rw [h, if_pos rfl]
        by_cases h3 : b.ne < a.ne
        · simp [h3]; omega
        · simp [h3]; omega
      · rw [h, if_neg (by decide)]
        by_cases h3 : b.ne < a.ne
        · simp [h3]
        · simp [h3]; omega
  obtain ⟨R, hR2⟩ : ∃ R, aheadC a b = R := ⟨_, rfl⟩
  rw [hR2] at hR ⊢
  clear hR2 hs
  obtain ⟨i1, o1, s1, n1, u1⟩ := a
  obtain ⟨i2, o2, s2, n2, u2⟩ := b
  unfold coV at HT ⊢
  dsimp only at HT hR ⊢
  by_cases h : n1 = n2
  · rw [if_pos h] at hR
    subst h
    subst hR
    clear HT
    go_enter Try.func21, Try.ntmps21
    go_wp2_with fail
    go_ret
    exact ⟨rfl, (bel_alloc (bel_new _ _) _)⟩
  · rw [if_neg h] at hR
    rw [← hR] at HT
    clear hR
    go_enter Try.func21, Try.ntmps21
    go_wp2_with (go_at_call 23; refine (HT.out _).mono ?_; rintro e w2 ⟨rfl, hb2⟩; replace hb2 := Lib.hid hb2)
    go_ret
    exact ⟨rfl, bel_trans (bel_alloc (bel_new _ _) _) hb2.out⟩
set_option maxHeartbeats 1000000 in
theorem bmay_any (o : CO) (w : World) : Calls Try.prog 27 #[coV o] w fun e w' => e = .returned (.bool (decide (okC o))) ∧ Below w.heap.size w w' := by
  obtain ⟨R, hR⟩ : ∃ R, decide (okC o) = R := ⟨_, rfl⟩
  rw [hR]
  obtain ⟨i1, o1, s1, n1, u1⟩ := o
  have HR := Lib.hid hR
  clear hR
  unfold coV
  go_enter Try.func27, Try.ntmps27
  go_wp2_with fail
  all_goals
    go_ret
    refine ⟨rb ?_, bel_new _ _⟩
    rw [← HR.out]
    rw [Bool.eq_iff_iff, decide_eq_true_iff (p := okC _)]
    unfold okC
    dsimp only
    simp only [decide_eq_true_eq, Bool.false_eq_true, iff_false, false_iff]
    omega
/-- What of tells: where a side's row stands. -/
def OfPost (w : World) (B g : Nat) (v1 v2 : Value) (D : Dk) (s : Int) (e : Ending) (w' : World) : Prop :=
  ∃ p v, e = .returned (.pointer (some p)) ∧ Below w.heap.size w w' ∧ w'.cell? p = some v ∧ w'.ownsRow B 31 5 v (rowD s D).length ((rowD s D).flatMap co1) ∧ (s = 1 → p = ⟨g, 0, none⟩ ∧ v = v1) ∧ (s = 2 → p = ⟨g, 1, none⟩ ∧ v = v2)
theorem own_empty5 (w : World) (B b : Nat) (hb : B ≤ b) (hx : Box w b 31 #[]) : w.ownsRow B 31 5 (.slice (some ⟨b, 0, none⟩) 0 0) 0 [] :=
  ⟨rfl, .inr ⟨b, 0, #[], rfl, hb, hx, Nat.le_refl _, by unfold maxLen; omega, rfl, rfl⟩⟩
set_option maxHeartbeats 1000000 in
theorem bof_any {w : World} {B g : Nat} {v1 v2 : Value} {D : Dk} (h : BkAt w B g v1 v2 D) (s : Int) :
    Calls Try.prog 29 #[.pointer (some ⟨g, 0, none⟩), .int .i64 s] w (OfPost w B g v1 v2 D s) := by
  have c0 := h.c0
  have c1 := h.c1
  have HB := Lib.hid h.b
  have HS := Lib.hid h.s
  have HN := Lib.hid h.base
  clear h
  by_cases h1 : s = 1
  · subst h1
    go_enter Try.func29, Try.ntmps29
    go_wp2_with fail
    go_ret
    exact ⟨_, _, rfl, Below.refl _ _, c0, HB.out, fun _ => ⟨rfl, rfl⟩, fun e => (by cases e)⟩
  · by_cases h2 : s = 2
    · subst h2
      go_enter Try.func29, Try.ntmps29
      go_wp2_with fail
      go_ret
      exact ⟨_, _, rfl, Below.refl _ _, c1, HS.out, fun e => (by cases e), fun _ => ⟨rfl, rfl⟩⟩
    · have hr : rowD s D = [] := by unfold rowD; rw [if_neg h1, if_neg h2]
      go_enter Try.func29, Try.ntmps29
      go_wp2_with fail
      go_ret
      refine ⟨_, _, rfl, bel_alloc (bel_new _ _) _, (Box.fresh _ _ _ (by simp)).reads 0, ?_, fun e => absurd e h1, fun e => absurd e h2⟩
      rw [hr]
      exact own_empty5 _ _ _ (Nat.le_of_lt HN.out) ((Box.fresh w _ _ rfl).kept_below (bel_new _ _) (by simp))
end Go.Proofs.Ytekppjigckjgiaa
