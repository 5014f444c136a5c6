/- The contract of a ledger's Enter. -/
import Derived.Test.YtfidihmiadjpjaaLifMut
import Derived.Maps.AppendAt
set_option linter.unusedSimpArgs false
namespace Go.Proofs.Ytfidihmiadjpjaa
open Go.RowKit Go.Mem1 Go.LifMath

theorem entry_info : (Try.prog.info? 33).map (fun i => (i.zero, i.size, i.bytes)) = some (some (.agg #[.int .i64 0, .int .i64 0, .int .i64 0, .int .i64 0, .int .i64 0, .int .i64 0, .int .i64 0]), 7, 56) := by kernel_rfl
section
variable {w : World} {B g : Nat} {vE : Value} {L : List Ent}
theorem enter_bad {ow se si q : Int} (hq : ¬ (1 ≤ q ∧ q ≤ 1000000)) (w : World) (g : Nat) : Calls Try.prog 8 #[.pointer (some ⟨g, 0, none⟩), .int .i64 ow, .int .i64 se, .int .i64 si, .int .i64 q] w fun e w' => e = .returned (.tuple #[.int .i64 0, .int .i64 1]) ∧ w = w' := by
  have HI := Lib.hid (in_any q 1 1000000)
  rw [show (decide (1 ≤ q) && decide (q ≤ 1000000)) = false by simp; omega] at HI
  clear hq
  go_enter Try.func8, Try.ntmps8
  go_wp2_with (go_at_call 16; refine (HI.out _).mono ?_; rintro e w' ⟨rfl, rfl⟩)
  go_ret2
  exact ⟨rfl, rfl⟩
/-- One entry more. -/
theorem LedAt.grown {w7 : World} (h : LedAt w B g vE L) (x : Ent) (v7 : Value) (hown : w7.ownsRow B 33 7 v7 (L.length + 1) (L.flatMap ent1 ++ ent1 x)) (hgr : w.grownBy w7 vE.ownBlock) (hL : L.length < 200) :
    LedAt (w7.setCell ⟨g, 0, none⟩ v7) B g v7 (L ++ [x]) ∧ Chg (LedS g vE) w (w7.setCell ⟨g, 0, none⟩ v7) ∧ w7.frozen? ⟨g, 0, none⟩ = false ∧ w7.cell? ⟨g, 0, none⟩ = some vE := by
  have hS := Chg.of_grown hgr
  have hgL : ¬ some g = vE.ownBlock := fun e => h.box.off_row h.row (by decide) e.symm
  have hb7 : Box w7 g _ _ := h.box.kept hS hgL
  have hv7 : v7.ownBlock ≠ some g := hb7.off_row hown (by decide)
  refine ⟨⟨hb7.wrote 0 v7, h.low, ?_, by simp; omega⟩, ?_, hb7.unmarked 0, hb7.reads 0⟩
  · have := own_set hown ⟨g, 0, none⟩ v7 hv7
    simpa using this
  · exact Chg.setCell (hS.mono (fun i _ e => .inr e)) (p := ⟨g, 0, none⟩) (fun _ => .inl rfl) v7
set_option maxHeartbeats 2000000 in
theorem enter_ok (h : Led w B g vE L) {ow se si q : Int} (hq : 1 ≤ q ∧ q ≤ 1000000) (hL : L.length < 200) : Calls Try.prog 8 #[.pointer (some ⟨g, 0, none⟩), .int .i64 ow, .int .i64 se, .int .i64 si, .int .i64 q] w (Did w B g vE (L ++ [newE ow se si q]) (.tuple #[.int .i64 ((L.length : Int) + 1), .int .i64 0])) := by
  obtain ⟨i0, hi0, hz0, hz1, hz2⟩ := info_parts entry_info
  have HI0 := Lib.hid hi0
  have HI1 := Lib.hid hz0
  have HI2 := Lib.hid hz1
  have HI3 := Lib.hid hz2
  have HI := Lib.hid (in_any q 1 1000000)
  rw [show (decide (1 ≤ q) && decide (q ≤ 1000000)) = true by simp; omega] at HI
  have c0 := h.at_.c0
  obtain ⟨A, c, hv⟩ := h.at_.form
  have hB := Nat.le_of_lt h.at_.base
  have hlt := h.at_.there
  have hF := fair_snoc h.fair (fair_new (ow := ow) (se := se) (si := si) hq)
  have fin : ∀ w1, w1 = w.alloc (.cells #[.int .i64 q, .int .i64 0, .int .i64 0, .int .i64 q, .int .i64 ow, .int .i64 se, .int .i64 si] 33) → w1.ownsRow B 33 7 vE L.length (L.flatMap ent1) ∧
      ∀ v7 w7, w7.ownsRow B 33 7 v7 (L.length + 1) (L.flatMap ent1 ++ ent1 (newE ow se si q)) → w1.grownBy w7 vE.ownBlock → (v7.ownBlock = vE.ownBlock ∨ v7.ownBlock = some w1.heap.size) →
        (∃ vE', Led (w7.setCell ⟨g, 0, none⟩ v7) B g vE' (L ++ [newE ow se si q]) ∧ Chg (LedS g vE) w (w7.setCell ⟨g, 0, none⟩ v7) ∧ ∀ k, vE'.ownBlock = some k → vE.ownBlock = some k ∨ w.heap.size ≤ k) ∧
        (w7.setCell ⟨g, 0, none⟩ v7).cell? ⟨g, 0, none⟩ = some v7 ∧ w7.frozen? ⟨g, 0, none⟩ = false ∧ w7.cell? ⟨g, 0, none⟩ = some vE := by
    rintro w1 rfl
    have h2 := h.at_.carry (bel_new w (.cells #[.int .i64 q, .int .i64 0, .int .i64 0, .int .i64 q, .int .i64 ow, .int .i64 se, .int .i64 si] 33))
    refine ⟨h2.row, fun v7 w7 ho hg hbk => ?_⟩
    obtain ⟨a1, a2, a3, a4⟩ := h2.grown (newE ow se si q) v7 ho hg hL
    refine ⟨⟨v7, ⟨a1, hF⟩, (Chg.of_below (bel_new _ _) (LedS g vE)).trans a2 (fun _ _ h => h) (fun _ _ h => h), fun k hk => ?_⟩, a1.c0, a3, a4⟩
    rcases hbk with e | e
    · exact .inl (by rw [← e]; exact hk)
    · rw [e] at hk
      injection hk with hk
      exact .inr (by rw [← hk]; simp)
  have hfo := (fin _ rfl).1
  have hfi := (fin _ rfl).2
  rw [hv] at c0 hfo hfi
  obtain ⟨n, hn⟩ : ∃ n, L.length = n := ⟨_, rfl⟩
  rw [hn] at c0 hL hfo hfi ⊢
  have HOWN := Lib.hid hfo
  have FIN := Lib.hid hfi
  have HV := Lib.hid (hv.trans (by rw [hn]))
  clear h hv hn fin hfo hfi hi0 hz0 hz1 hz2 hF
  go_enter Try.func8, Try.ntmps8
  go_wp2_with ((first
    | (go_at_call 16; refine (HI.out _).mono ?_; rintro e w' ⟨rfl, rfl⟩)
    | (at_builtin; refine Hid.out ?_)))
  refine Lib.hid ?_
  refine wpList_append_own_at _ rfl (.tmp 19) (.tmp 26) _ rfl B 33 i0 _ 7 56 Try.underlying26 HI0.out HI1.out HI2.out HI3.out rfl (by omega) (.slice A n c) n _ rfl HOWN.out ⟨w.heap.size, 0, none⟩ 1 1 [.int .i64 q, .int .i64 0, .int .i64 0, .int .i64 q, .int .i64 ow, .int .i64 se, .int .i64 si] rfl rfl (cells_new _ _ _ (by simp)) (ent1_one (newE ow se si q)) (by simp only [maxLen]; omega) (by omega) (by simp; omega) ?_
  intro v7 w7 hown7 hgr7 _ hbk7
  obtain ⟨A7, c7, rfl⟩ := own_slice hown7
  obtain ⟨hF, c8, f7, g7⟩ := FIN.out _ w7 hown7 hgr7 hbk7
  have HF := Lib.hid hF
  clear hown7 hgr7 FIN HOWN hF c0 hbk7
  go_wp2_with fail
  go_ret2
  rw [HV.out]
  exact ⟨rfl, HF.out⟩
end
end Go.Proofs.Ytfidihmiadjpjaa
