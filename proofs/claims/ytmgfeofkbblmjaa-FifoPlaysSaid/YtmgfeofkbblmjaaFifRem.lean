/- The contract of an arena's Remove. -/
import Derived.Test.YtmgfeofkbblmjaaFifPush
set_option linter.unusedSimpArgs false
namespace Go.Proofs.Ytmgfeofkbblmjaa
open Go.RowKit Go.Mem1 Go.FifMath

section
variable {w : World} {B g : Nat} {vR vC : Value} {s : Aren}
set_option maxHeartbeats 1000000 in
theorem remove_bad (h : ArenaAt w B g vR vC s) {c : Int} (hr : tkB s c = false) :
    Calls Try.prog 9 #[.pointer (some ⟨g, 0, none⟩), .int .i64 c] w fun e w' => e = .returned (.bool false) ∧ w = w' := by
  have HK := Lib.hid (taken_any h c)
  rw [hr] at HK
  clear h hr
  go_enter Try.func9, Try.ntmps9
  go_wp2_with (go_at_call 19; refine HK.out.mono ?_; rintro e w' ⟨rfl, rfl⟩)
  go_ret
  exact ⟨rfl, rfl⟩
/-- What Remove answers where there is such a cell. -/
def Removed (w : World) (B g : Nat) (vR vC : Value) (s : Aren) (e : Ending) (w' : World) : Prop := e = .returned (.bool true) ∧ ArenaAt w' B g vR vC s ∧ Keep B w w'
set_option maxRecDepth 100000 in
set_option maxHeartbeats 2000000 in
theorem remove_at (h : ArenaAt w B g vR vC s) {k row : Nat} {l : Lnk} (hl : s.cs[k]? = some l) (hlr : l.r = row) {e : Tip} (he : s.rs[row]? = some e) (hp : NumOf s l.p) (hn : NumOf s l.n) (hk0 : 0 < e.k) (hk1 : e.k ≤ 5000) (hf0 : 0 ≤ s.free) (hf1 : s.free ≤ 5000) :
    Calls Try.prog 9 #[.pointer (some ⟨g, 0, none⟩), .int .i64 k] w (Removed w B g vR vC (out s k row l)) := by
  have HT := Lib.hid (taken_any h (k : Int))
  rw [tkB_at hl, show (!(l.r == -1)) = true by rw [hlr]; simp] at HT
  obtain ⟨b, cc, hv, hkl, hlt, _, hbg, j0, j1, j2, j3, _⟩ := h.link hl
  have c1 := h.c1
  rw [hv] at c1
  have HJ := Lib.hid (fun (w1 : World) (hA : ArenaAt w1 B g vR vC s) => join_any hA he hp hn)
  obtain ⟨a2, z2, he2⟩ := join_row s row l.p l.n he
  have HE := Lib.hid (fun (w1 : World) (hA : ArenaAt w1 B g vR vC (join s row l.p l.n)) => hA.ends he2)
  have HF := Lib.hid (fun (w1 : World) (hA : ArenaAt w1 B g vR vC (join s row l.p l.n)) (b cc n : Nat) (hv : vR = .slice (some ⟨b, 0, none⟩) n cc) => hA.storeR hv he2 (addK (-1)) 2 (.int .i64 (e.k - 1)) (by omega) rfl)
  have hlen : ((join s row l.p l.n).atRow row (addK (-1))).cs.length = s.cs.length := (join_len s row l.p l.n).1
  have hlR : (join s row l.p l.n).rs.length = s.rs.length := (join_len s row l.p l.n).2
  obtain ⟨l2, hl2⟩ : ∃ l2, ((join s row l.p l.n).atRow row (addK (-1))).cs[k]? = some l2 := ⟨_, List.getElem?_eq_getElem (by rw [hlen]; exact hkl)⟩
  have hfr : ((join s row l.p l.n).atRow row (addK (-1))).free = s.free := (join_free s row l.p l.n).1
  have HG := Lib.hid (fun (w1 : World) (hA : ArenaAt w1 B g vR vC ((join s row l.p l.n).atRow row (addK (-1)))) => give_any hA hl2 (by rw [hfr]; exact hf0) (by rw [hfr]; exact hf1))
  have hm := h.mostC
  have hmR := h.mostR
  obtain ⟨n, hnn⟩ : ∃ n, s.cs.length = n := ⟨_, rfl⟩
  rw [hnn] at c1 hkl hm
  have hA0 := h.carry (bel_new w (.cells #[.int .i64 l.v, .int .i64 l.r, .int .i64 l.p, .int .i64 l.n] 56))
  have hK0 : Keep B w (w.alloc (.cells #[.int .i64 l.v, .int .i64 l.r, .int .i64 l.p, .int .i64 l.n] 56)) := keep_below (Nat.le_of_lt h.base) (bel_new _ _)
  have hrow : row < s.rs.length := by
    rcases Nat.lt_or_ge row s.rs.length with h' | h'
    · exact h'
    · rw [List.getElem?_eq_none h'] at he; cases he
  rw [hlr] at hA0 hK0 j1
  have HB0 := Lib.hid (fun (w3 : World) (hc : Chg (ArS g vR vC) (w.alloc (.cells #[.int .i64 l.v, .int .i64 row, .int .i64 l.p, .int .i64 l.n] 56)) w3) => (Box.fresh w 56 #[.int .i64 l.v, .int .i64 row, .int .i64 l.p, .int .i64 l.n] rfl).kept hc (fun hs => by
    rcases hs with e | e | e
    · have := h.there; omega
    · have := (h.rowR.lt _ e.symm).2; omega
    · have := (h.rowC.lt _ e.symm).2; omega))
  have HA0 := Lib.hid hA0
  have HK0 := Lib.hid hK0
  obtain ⟨nR, hnR⟩ : ∃ n, s.rs.length = n := ⟨_, rfl⟩
  rw [hnR] at hlR hrow hmR
  have HLR := Lib.hid hlR
  have hout : out s k row l = give ((join s row l.p l.n).atRow row (addK (-1))) k := rfl
  rw [hout]
  obtain ⟨lv, lr, lp, ln⟩ := l
  dsimp only at *
  obtain ⟨ek, hek⟩ : ∃ ek, e.k = ek := ⟨_, rfl⟩
  rw [hek] at HE HF hk0 hk1
  generalize hs3 : join s row lp ln = s3 at *
  clear h hl hlr he hp hn hf0 hf1 hv he2 hlen hlR hl2 hfr hnn hA0 hK0 hnR hout hek hs3
  go_enter Try.func9, Try.ntmps9
  go_wp2_with ((first
    | (go_at_call 19; refine HT.out.mono ?_; rintro e w' ⟨rfl, rfl⟩)
    | (go_at_call 18; refine Hid.out ?_)))
  refine Lib.hid ?_
  refine (HJ.out _ HA0.out).mono ?_
  rintro _ w3 ⟨rfl, hW3⟩
  obtain ⟨bR, cR, hvR, _, hltR, _, hbgR, k0, k1, k2, hfR⟩ := HE.out w3 hW3.1
  have d0 := hW3.1.c0
  have hx := HB0.out w3 hW3.2
  have x1 : w3.cell? ⟨w.heap.size, 1, none⟩ = some (.int .i64 row) := hx.reads 1
  have tail : ∀ w4, w3.drew = w4 → w4.cell? ⟨bR, row * 3 + 2, none⟩ = some (.int .i64 ek) ∧ w4.frozen? ⟨bR, row * 3 + 2, none⟩ = false ∧ Wrote w3 B g vR vC (s3.atRow row (addK (-1))) (w4.setCell ⟨bR, row * 3 + 2, none⟩ (.int .i64 (ek - 1))) := by
    rintro w4 rfl
    have hst := HF.out w3.drew hW3.1.drew bR cR _ hvR
    exact ⟨k2, hfR _, hst.1, Chg.drewBefore hst.2⟩
  rw [hvR, HLR.out] at d0
  have HTL := Lib.hid tail
  have HW3 := Lib.hid hW3
  have i1 : (0 : Int) ≤ (row : Int) := by omega
  have i2 : (row : Int) < (nR : Int) := by omega
  have i3 : IntKind.i64.wrap (ek - 1) = ek - 1 := by rw [IntKind.wrap_i64]; omega
  clear hW3 hx tail hvR k0 k1 hfR HB0 HE HF c1 j0 j1 j2 j3
  go_wp2_with fail
  go_still_tail 12, (by kernel_rfl)
  change wpList _ _ _ _ _ w3.drew
  obtain ⟨w4, hw4⟩ : ∃ w4, w3.drew = w4 := ⟨_, rfl⟩
  obtain ⟨q2, f2, hW4⟩ := HTL.out w4 hw4
  rw [hw4]
  have HW4 := Lib.hid hW4
  clear HTL hW4 hw4 d0 x1 k2 i3
  go_wp2_with (go_at_call 20; refine Hid.out ?_)
  refine Lib.hid ?_
  refine (HG.out _ HW4.out.1).mono ?_
  rintro _ w5 ⟨rfl, hW5⟩
  have HFIN := Lib.hid (And.intro hW5.1 (HK0.out.trans (HA0.out.keep ((HW3.out.then HW4.out).then hW5).2)))
  clear hW5
  go_wp2_with fail
  go_ret
  exact ⟨rfl, HFIN.out⟩
end
end Go.Proofs.Ytmgfeofkbblmjaa
