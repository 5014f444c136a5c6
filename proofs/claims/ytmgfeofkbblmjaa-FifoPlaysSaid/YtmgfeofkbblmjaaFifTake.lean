/- The contract of an arena's take. -/
import Derived.Test.YtmgfeofkbblmjaaFifGive
import Derived.Maps.AppendAt
set_option linter.unusedSimpArgs false
namespace Go.Proofs.Ytmgfeofkbblmjaa
open Go.RowKit Go.Mem1 Go.FifMath

/-- What is kept by a call that writes into an arena: all below B, and of all else what is of no arena's type. -/
structure Keep (B : Nat) (w w' : World) : Prop where
  below : Below B w w'
  rows : ∀ (base : Nat) (e : TypeId) (size n : Nat) (v : Value) (xs : List Value), w.ownsRow base e size v n xs → e ≠ 52 → e ≠ 54 → e ≠ 56 → w'.ownsRow base e size v n xs
  boxes : ∀ (b : Nat) (t : TypeId) (cs : Array Value), Box w b t cs → t ≠ 52 → t ≠ 54 → t ≠ 56 → Box w' b t cs
theorem Keep.refl (B : Nat) (w : World) : Keep B w w := ⟨Below.refl _ _, fun _ _ _ _ _ _ h _ _ _ => h, fun _ _ _ h _ _ _ => h⟩
theorem Keep.trans {B : Nat} {a b c : World} (h : Keep B a b) (k : Keep B b c) : Keep B a c :=
  ⟨h.below.trans k.below, fun _ _ _ _ _ _ o h1 h2 h3 => k.rows _ _ _ _ _ _ (h.rows _ _ _ _ _ _ o h1 h2 h3) h1 h2 h3, fun _ _ _ o h1 h2 h3 => k.boxes _ _ _ (h.boxes _ _ _ o h1 h2 h3) h1 h2 h3⟩
section
variable {w : World} {B g : Nat} {vR vC : Value} {s : Aren}
theorem ArenaAt.keep (h : ArenaAt w B g vR vC s) {w' : World} (hc : Chg (ArS g vR vC) w w') : Keep B w w' := by
  refine ⟨hc.small (Nat.le_of_lt h.base) (fun i hi hs => ?_), fun base e size n v xs ho h1 h2 h3 => own_chg ho hc (fun k hk hs => ?_), fun b t cs hb h1 h2 h3 => hb.kept hc (fun hs => ?_)⟩
  · rcases hs with rfl | e | e
    · have := h.low; omega
    · have := (h.rowR.lt i e.symm).1; omega
    · have := (h.rowC.lt i e.symm).1; omega
  · rcases hs with rfl | e | e
    · exact h.box.off_row ho h1 hk
    · exact own_apart ho h.rowR h2 hk e.symm
    · exact own_apart ho h.rowC h3 hk e.symm
  · rcases hs with rfl | e | e
    · exact hb.apart h.box h1 rfl
    · exact hb.off_row h.rowR (Ne.symm h2) e.symm
    · exact hb.off_row h.rowC (Ne.symm h3) e.symm
theorem keep_below {B : Nat} {w w' : World} (hB : B ≤ w.heap.size) (hb : Below w.heap.size w w') : Keep B w w' :=
  ⟨hb.mono hB, fun _ _ _ _ _ _ ho _ _ _ => own_keep ho hb, fun _ _ _ hx _ _ _ => hx.kept_below hb hx.there⟩
/-- What take answers. -/
def Took (w : World) (B g : Nat) (vR : Value) (c : Nat) (s : Aren) (e : Ending) (w' : World) : Prop := e = .returned (.int .i64 c) ∧ ∃ vC', ArenaAt w' B g vR vC' s ∧ Keep B w w'
set_option maxHeartbeats 2000000 in
theorem take_old (h : ArenaAt w B g vR vC s) {c : Nat} (ht : s.top = c) {l : Lnk} (hl : s.cs[c]? = some l) (hf0 : 0 ≤ s.free) (hf1 : s.free ≤ 5000) :
    Calls Try.prog 17 #[.pointer (some ⟨g, 0, none⟩)] w (Took w B g vR c (takeOld s l.n)) := by
  have c1 := h.c1
  have c2 := h.c2
  have c3 := h.c3
  rw [ht] at c2
  obtain ⟨b, cc, hv, hk, hlt, _, hbg, k0, k1, k2, k3, hf⟩ := h.link hl
  have u2 := h.box.unmarked 2
  have u3 := h.box.unmarked 3
  have fin : ∀ w', w' = (w.setCell ⟨g, 3, none⟩ (.int .i64 (s.free - 1))).setCell ⟨g, 2, none⟩ (.int .i64 l.n) → ∃ vC', ArenaAt w' B g vR vC' (takeOld s l.n) ∧ Keep B w w' := by
    rintro w' rfl
    obtain ⟨h1, q1, _⟩ := h.storeFree (s.free - 1)
    obtain ⟨h2, q2, _⟩ := h1.storeTop l.n
    exact ⟨vC, h2, h.keep (q1.trans q2 (fun _ _ h => h) (fun _ _ h => h))⟩
  rw [hv] at c1
  have hm := h.mostC
  obtain ⟨n, hn⟩ : ∃ n, s.cs.length = n := ⟨_, rfl⟩
  rw [hn] at c1 hk hm
  have FIN := Lib.hid fin
  have t : ((c : Int) == -1) = false := by simp
  obtain ⟨fr, hfr⟩ : ∃ fr, s.free = fr := ⟨_, rfl⟩
  rw [hfr] at hf0 hf1 c3 FIN
  clear h hv hn hl hf fin hfr k0 k1 k2 ht
  go_enter Try.func17, Try.ntmps17
  go_wp2_with fail
  go_ret
  exact ⟨rfl, FIN.out _ rfl⟩
theorem link_info : (Try.prog.info? 56).map (fun i => (i.zero, i.size, i.bytes)) = some (some (.agg #[.int .i64 0, .int .i64 0, .int .i64 0, .int .i64 0]), 4, 32) := by kernel_rfl
theorem lnk1_one (x : Lnk) : ∀ u ∈ lnk1 x, u.oneCell' = true := by
  intro u hu
  simp [lnk1] at hu
  rcases hu with rfl | rfl | rfl | rfl <;> rfl
/-- One cell more. -/
theorem ArenaAt.grown {w7 : World} (h : ArenaAt w B g vR vC s) (x : Lnk) (v7 : Value) (hown : w7.ownsRow B 56 4 v7 (s.cs.length + 1) (s.cs.flatMap lnk1 ++ lnk1 x)) (hgr : w.grownBy w7 vC.ownBlock) (hL : s.cs.length < 4096) :
    ArenaAt (w7.setCell ⟨g, 1, none⟩ v7) B g vR v7 ⟨s.rs, s.cs ++ [x], s.top, s.free⟩ ∧ Keep B w (w7.setCell ⟨g, 1, none⟩ v7) ∧ w7.frozen? ⟨g, 1, none⟩ = false ∧ w7.cell? ⟨g, 1, none⟩ = some vC := by
  have hS := Chg.of_grown hgr
  have hgL : ¬ some g = vC.ownBlock := fun e => h.box.off_row h.rowC (by decide) e.symm
  have hb7 : Box w7 g _ _ := h.box.kept hS hgL
  have hv7 : v7.ownBlock ≠ some g := hb7.off_row hown (by decide)
  have hR7 := own_chg h.rowR hS (fun k hk e => own_apart h.rowR h.rowC (by decide) hk e.symm)
  refine ⟨⟨hb7.wrote 1 v7, h.low, own_set hR7 _ _ (hb7.off_row hR7 (by decide)), ?_, h.mostR, by simp; omega⟩, h.keep ?_, hb7.unmarked 1, hb7.reads 1⟩
  · have := own_set hown ⟨g, 1, none⟩ v7 hv7
    simpa using this
  · exact Chg.setCell (hS.mono (fun i _ e => .inr (.inr e))) (p := ⟨g, 1, none⟩) (fun _ => .inl rfl) v7
set_option maxRecDepth 100000 in
set_option maxHeartbeats 2000000 in
theorem take_new (h : ArenaAt w B g vR vC s) (ht : s.top = -1) (hL : s.cs.length < 4096) (hf0 : 0 ≤ s.free) (hf1 : s.free ≤ 5000) :
    Calls Try.prog 17 #[.pointer (some ⟨g, 0, none⟩)] w (Took w B g vR s.cs.length (takeNew s)) := by
  obtain ⟨i0, hi0, hz0, hz1, hz2⟩ := info_parts link_info
  have c1 := h.c1
  have c2 := h.c2
  have c3 := h.c3
  rw [ht] at c2
  obtain ⟨A, c, hv⟩ := h.formC
  have u3 := h.box.unmarked 3
  have hB := Nat.le_of_lt h.base
  have fin : ∀ w1, w1 = (w.setCell ⟨g, 3, none⟩ (.int .i64 (s.free - 1))).alloc (.cells #[.int .i64 0, .int .i64 0, .int .i64 0, .int .i64 0] 56) → w1.ownsRow B 56 4 vC s.cs.length (s.cs.flatMap lnk1) ∧
      ∀ v7 w7, w7.ownsRow B 56 4 v7 (s.cs.length + 1) (s.cs.flatMap lnk1 ++ lnk1 ⟨0, 0, 0, 0⟩) → w1.grownBy w7 vC.ownBlock → (ArenaAt (w7.setCell ⟨g, 1, none⟩ v7) B g vR v7 (takeNew s) ∧ Keep B w (w7.setCell ⟨g, 1, none⟩ v7)) ∧ w7.frozen? ⟨g, 1, none⟩ = false ∧ w7.cell? ⟨g, 1, none⟩ = some vC := by
    rintro w1 rfl
    obtain ⟨h1, q1, _⟩ := h.storeFree (s.free - 1)
    have h2 := h1.carry (bel_new _ (.cells #[.int .i64 0, .int .i64 0, .int .i64 0, .int .i64 0] 56))
    refine ⟨h2.rowC, fun v7 w7 ho hg => ?_⟩
    obtain ⟨a1, a2, a3, a4⟩ := h2.grown ⟨0, 0, 0, 0⟩ v7 ho hg hL
    exact ⟨⟨a1, ((h.keep q1).trans (keep_below (Nat.le_of_lt h1.base) (bel_new _ _))).trans a2⟩, a3, a4⟩
  have hfo := (fin _ rfl).1
  have hfi := (fin _ rfl).2
  rw [hv] at c1 hfo hfi
  obtain ⟨n, hn⟩ : ∃ n, s.cs.length = n := ⟨_, rfl⟩
  rw [hn] at c1 hL hfo hfi ⊢
  obtain ⟨fr, hfr⟩ : ∃ fr, s.free = fr := ⟨_, rfl⟩
  rw [hfr] at hf0 hf1 c3 hfo hfi
  have HOWN := Lib.hid hfo
  have FIN := Lib.hid hfi
  have HI0 := Lib.hid hi0
  have HI1 := Lib.hid hz0
  have HI2 := Lib.hid hz1
  have HI3 := Lib.hid hz2
  clear h hv hn fin hfr ht hfo hfi hi0 hz0 hz1 hz2
  go_enter Try.func17, Try.ntmps17
  go_wp2_with (at_builtin; refine Hid.out ?_)
  refine Lib.hid ?_
  refine wpList_append_own_at _ rfl (.tmp 21) (.tmp 23) _ rfl B 56 i0 _ 4 32 Try.underlying50 HI0.out HI1.out HI2.out HI3.out rfl (by omega) (.slice A n c) n _ rfl HOWN.out ⟨w.heap.size, 0, none⟩ 1 1 [.int .i64 0, .int .i64 0, .int .i64 0, .int .i64 0] rfl rfl (cells_new _ _ _ (by simp)) (lnk1_one ⟨0, 0, 0, 0⟩) (by simp only [maxLen]; omega) (by omega) (by simp; omega) ?_
  intro v7 w7 hown7 hgr7 _ _
  obtain ⟨A7, c7, rfl⟩ := own_slice hown7
  obtain ⟨hF, f7, g7⟩ := FIN.out _ w7 hown7 hgr7
  have c8 := hF.1.c1
  have HF := Lib.hid hF
  clear hown7 hgr7 FIN HOWN hF c1 c2 c3 u3
  go_wp2_with fail
  go_ret
  exact ⟨ri (by simp), _, HF.out⟩
end
end Go.Proofs.Ytmgfeofkbblmjaa
