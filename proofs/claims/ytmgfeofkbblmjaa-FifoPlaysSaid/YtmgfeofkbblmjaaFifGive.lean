/- The contracts of an arena's give and take. -/
import Derived.Test.YtmgfeofkbblmjaaFifMut
import Derived.StillTailTactics
set_option linter.unusedSimpArgs false
namespace Go.Proofs.Ytmgfeofkbblmjaa
open Go.RowKit Go.Mem1 Go.FifMath

section
variable {w : World} {B g : Nat} {vR vC : Value} {s : Aren}
theorem ArenaAt.drew (h : ArenaAt w B g vR vC s) : ArenaAt w.drew B g vR vC s := ⟨h.box, h.low, h.rowR, h.rowC, h.mostR, h.mostC⟩
/-- A cell stored whole. -/
theorem ArenaAt.storeWhole (h : ArenaAt w B g vR vC s) {b c n : Nat} (hv : vC = .slice (some ⟨b, 0, none⟩) n c) {k : Nat} {l : Lnk} (hk : s.cs[k]? = some l) (m : Lnk) :
    Wrote w B g vR vC (s.atCell k fun _ => m) ((((w.setCell ⟨b, k * 4, none⟩ (.int .i64 m.v)).setCell ⟨b, k * 4 + 1, none⟩ (.int .i64 m.r)).setCell ⟨b, k * 4 + 2, none⟩ (.int .i64 m.p)).setCell ⟨b, k * 4 + 3, none⟩ (.int .i64 m.n)) := by
  have h0 := h.storeC hv hk (fun l => ⟨m.v, l.r, l.p, l.n⟩) 0 (.int .i64 m.v) (by omega) rfl
  have k0 := mod_at (f := fun l : Lnk => (⟨m.v, l.r, l.p, l.n⟩ : Lnk)) hk
  have h1 := h0.1.storeC hv k0 (fun l => ⟨l.v, m.r, l.p, l.n⟩) 1 (.int .i64 m.r) (by omega) rfl
  have k1 := mod_at (f := fun l : Lnk => (⟨l.v, m.r, l.p, l.n⟩ : Lnk)) k0
  have h2 := h1.1.storeC hv k1 (fun l => ⟨l.v, l.r, m.p, l.n⟩) 2 (.int .i64 m.p) (by omega) rfl
  have k2 := mod_at (f := fun l : Lnk => (⟨l.v, l.r, m.p, l.n⟩ : Lnk)) k1
  have h3 := h2.1.storeC hv k2 (fun l => ⟨l.v, l.r, l.p, m.n⟩) 3 (.int .i64 m.n) (by omega) rfl
  have e : (((s.atCell k fun l => ⟨m.v, l.r, l.p, l.n⟩).atCell k fun l => ⟨l.v, m.r, l.p, l.n⟩).atCell k fun l => ⟨l.v, l.r, m.p, l.n⟩).atCell k (fun l => ⟨l.v, l.r, l.p, m.n⟩) = s.atCell k fun _ => m := by
    unfold Aren.atCell
    simp only [List.modify_modify_eq]
    rfl
  have := ((Wrote.then h0 h1).then h2).then h3
  rw [e] at this
  exact this
theorem Chg.drewBefore {S : Nat → Prop} {w w' : World} (h : Chg S w.drew w') : Chg S w w' := ⟨h.os, h.tape, h.output, h.size, h.block⟩
set_option maxHeartbeats 2000000 in
theorem give_any (h : ArenaAt w B g vR vC s) {k : Nat} {l : Lnk} (hl : s.cs[k]? = some l) (hf0 : 0 ≤ s.free) (hf1 : s.free ≤ 5000) :
    Calls Try.prog 20 #[.pointer (some ⟨g, 0, none⟩), .int .i64 k] w (Done w B g vR vC (give s k)) := by
  have c1 := h.c1
  have c2 := h.c2
  obtain ⟨b, c, hv, hk, hlt, _, hbg, _⟩ := h.link hl
  rw [hv] at c1
  have hm := h.mostC
  have tail : ∀ w2, w.drew = w2 → (w2.cell? ⟨b, k * 4, none⟩ = some (.int .i64 l.v) ∧ w2.cell? ⟨b, k * 4 + 1, none⟩ = some (.int .i64 l.r) ∧ w2.cell? ⟨b, k * 4 + 2, none⟩ = some (.int .i64 l.p) ∧ w2.cell? ⟨b, k * 4 + 3, none⟩ = some (.int .i64 l.n) ∧ ∀ i, w2.frozen? ⟨b, i, none⟩ = false) ∧
      w2.frozen? ⟨g, 2, none⟩ = false ∧ w2.frozen? ⟨g, 3, none⟩ = false ∧ w2.cell? ⟨g, 2, none⟩ = some (.int .i64 s.top) ∧ w2.cell? ⟨g, 3, none⟩ = some (.int .i64 s.free) ∧
      ∀ w3, w3 = ((((((w2.setCell ⟨b, k * 4, none⟩ (.int .i64 0)).setCell ⟨b, k * 4 + 1, none⟩ (.int .i64 (-1))).setCell ⟨b, k * 4 + 2, none⟩ (.int .i64 0)).setCell ⟨b, k * 4 + 3, none⟩ (.int .i64 s.top)).setCell ⟨g, 2, none⟩ (.int .i64 k)).setCell ⟨g, 3, none⟩ (.int .i64 (s.free + 1))) → Wrote w B g vR vC (give s k) w3 := by
    rintro w2 rfl
    obtain ⟨b', c', hv', _, _, _, _, k0, k1, k2, k3, hf⟩ := h.drew.link hl
    obtain rfl : b' = b := by rw [hv'] at hv; injection hv with hv; injection hv with hv; injection hv
    refine ⟨⟨k0, k1, k2, k3, hf⟩, h.drew.box.unmarked 2, h.drew.box.unmarked 3, h.drew.c2, h.drew.c3, ?_⟩
    rintro w3 rfl
    have h1 := h.drew.storeWhole hv hl ⟨0, -1, 0, s.top⟩
    obtain ⟨h2, q2, _⟩ := h1.1.storeTop (k : Int)
    obtain ⟨h3, q3, _⟩ := h2.storeFree (s.free + 1)
    exact ⟨h3, Chg.drewBefore ((h1.2.trans q2 (fun _ _ h => h) (fun _ _ h => h)).trans q3 (fun _ _ h => h) (fun _ _ h => h))⟩
  obtain ⟨n, hn⟩ : ∃ n, s.cs.length = n := ⟨_, rfl⟩
  rw [hn] at c1 hk hm
  have HT := Lib.hid tail
  clear hv hn hl h tail
  obtain ⟨fr, hfr⟩ : ∃ fr, s.free = fr := ⟨_, rfl⟩
  rw [hfr] at hf0 hf1 HT
  obtain ⟨tp, htp⟩ : ∃ tp, s.top = tp := ⟨_, rfl⟩
  rw [htp] at c2 HT
  clear hfr htp
  have i1 : (0 : Int) ≤ (k : Int) := by omega
  have i2 : (k : Int) < (n : Int) := by omega
  go_enter Try.func20, Try.ntmps20
  go_wp2_with fail
  go_still_tail 11, (by kernel_rfl)
  change wpList _ _ _ _ _ w.drew
  obtain ⟨w2, hw2⟩ : ∃ w2, w.drew = w2 := ⟨_, rfl⟩
  obtain ⟨⟨k0, k1, k2, k3, hf⟩, u2, u3, e2, e3, HF⟩ := HT.out w2 hw2
  rw [hw2]
  have f0 := hf (k * 4)
  have f1 := hf (k * 4 + 1)
  have f2 := hf (k * 4 + 2)
  have f3 := hf (k * 4 + 3)
  have HFIN := Lib.hid HF
  clear hf HF HT c1 c2 hw2
  go_wp2_with fail
  go_end0
  exact ⟨rfl, HFIN.out _ rfl⟩
end
end Go.Proofs.Ytmgfeofkbblmjaa
