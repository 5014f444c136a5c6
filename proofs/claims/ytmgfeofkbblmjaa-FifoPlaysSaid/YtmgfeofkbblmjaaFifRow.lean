/- The contract of an arena's Row. -/
import Derived.Test.YtmgfeofkbblmjaaFifTake
import Derived.Laws.MakeOwn
set_option linter.unusedSimpArgs false
namespace Go.Proofs.Ytmgfeofkbblmjaa
open Go.RowKit Go.Mem1 Go.FifMath

/-- A row's values as cells. -/
def vals (L : List (Nat × Int)) : List Value := L.map fun x => .int .i64 x.2
theorem vals_one (x : Int) : ∀ u ∈ [Value.int .i64 x], u.oneCell' = true := by
  intro u hu
  rw [List.mem_singleton.1 hu]; rfl
theorem vals_len (L : List (Nat × Int)) : (vals L).length = L.length := by simp [vals]
theorem vals_snoc {L : List (Nat × Int)} {k : Nat} {x : Nat × Int} (h : L[k]? = some x) : vals (L.take (k + 1)) = vals (L.take k) ++ [.int .i64 x.2] := by
  have hk : k < L.length := by
    rcases Nat.lt_or_ge k L.length with h' | h'
    · exact h'
    · rw [List.getElem?_eq_none h'] at h; cases h
  rw [List.getElem?_eq_getElem hk] at h
  injection h with h
  rw [List.take_succ_eq_append_getElem hk, h]
  simp [vals]
/-- The cell at a place of a row; 0 behind its end. -/
def cur (L : List (Nat × Int)) (k : Nat) : Int := match L[k]? with
  | none => 0
  | some x => x.1
theorem fnd_cur (L : List (Nat × Int)) (k : Nat) : fnd (hd (L.drop k) (-1)) = .tuple #[.int .i64 (cur L k), .bool (decide (k < L.length))] := by
  rcases Nat.lt_or_ge k L.length with h | h
  · rw [List.drop_eq_getElem_cons h, decide_eq_true h]
    show fnd ((L[k].1 : Nat) : Int) = _
    rw [fnd_some]
    unfold cur
    rw [List.getElem?_eq_getElem h]
  · rw [List.drop_eq_nil_of_le h, decide_eq_false (by omega)]
    show fnd (-1) = _
    rw [fnd_none]
    unfold cur
    rw [List.getElem?_eq_none h]
theorem seg_place {cs : List Lnk} {r : Int} {L : List (Nat × Int)} (h : Seg cs r (-1) L (-1)) {k : Nat} {x : Nat × Int} (hx : L[k]? = some x) : ∃ p, cs[x.1]? = some ⟨x.2, r, p, hd (L.drop (k + 1)) (-1)⟩ := by
  have hk : k < L.length := by
    rcases Nat.lt_or_ge k L.length with h' | h'
    · exact h'
    · rw [List.getElem?_eq_none h'] at hx; cases hx
  rw [List.getElem?_eq_getElem hk] at hx
  injection hx with hx
  rw [← List.take_append_drop k L, List.drop_eq_getElem_cons hk, hx] at h
  exact ⟨_, (seg_append.1 h).2.1⟩
theorem int64_info : (Try.prog.info? 2).map (fun i => (i.zero, i.size, i.bytes)) = some (some (.int .i64 0), 1, 8) := by kernel_rfl
/-- What Row answers. -/
def RowAns (L : List (Nat × Int)) (w : World) (e : Ending) (w' : World) : Prop := ∃ A c, e = .returned (.slice A L.length c) ∧ w'.ownsRow w.heap.size 2 1 (.slice A L.length c) L.length (vals L) ∧ Below w.heap.size w w'
/-- At the head of a round. -/
def RowJ (w : World) (B g : Nat) (vR vC : Value) (s : Aren) (L : List (Nat × Int)) (v : Value) (k : Nat) (wr : World) : Prop := wr.ownsRow w.heap.size 2 1 v k (vals (L.take k)) ∧ Below w.heap.size w wr ∧ ArenaAt wr B g vR vC s
def lenV : Value → Nat
  | .slice _ n _ => n
  | _ => 0
section
variable {w : World} {B g : Nat} {vR vC : Value} {s : Aren}
theorem make_row (n : Nat) (hn : n ≤ 4096) (W : World) : ∃ W', (Instr.makeSlice 37 (.int .i64 0) (.int .i64 (n : Int))).run Try.prog W = .ok (.slice (some ⟨W.heap.size, 0, none⟩) 0 n) W' ∧ W'.ownsRow W.heap.size 2 1 (.slice (some ⟨W.heap.size, 0, none⟩) 0 n) 0 [] ∧ Below W.heap.size W W' := by
  obtain ⟨i0, hi0, hz0, hz1, hz2⟩ := info_parts int64_info
  obtain ⟨W', h1, h2, h3⟩ := run_make_own (P := Try.prog) W W.heap.size 37 2 i0 _ 1 Try.underlying37 hi0 hz0 hz1 .i64 .i64 n (by rw [hz2]; omega) (by simp only [maxLen]; omega) (Nat.le_refl _)
  exact ⟨W', h1, h2, (Chg.of_grown h3).small (Nat.le_refl _) (fun i _ e => by cases e)⟩
set_option maxRecDepth 100000 in
set_option maxHeartbeats 2000000 in
theorem row_any (h : ArenaAt w B g vR vC s) {row : Nat} {L : List (Nat × Int)} (hL : RowOk s.rs s.cs row L) (hm : L.length ≤ 4096) :
    Calls Try.prog 10 #[.pointer (some ⟨g, 0, none⟩), .int .i64 row] w (RowAns L w) := by
  obtain ⟨i0, hi0, hz0, hz1, hz2⟩ := info_parts int64_info
  obtain ⟨h1, h2⟩ := hL
  have HLEN := Lib.hid (len_any h h1)
  obtain ⟨n, hn⟩ : ∃ n, L.length = n := ⟨_, rfl⟩
  rw [hn] at hm
  have HFR := Lib.hid (fun (w1 : World) (hb : Below w.heap.size w w1) => front_any (h.carry hb) h1)
  obtain ⟨W1, hmk, hown, hbel⟩ := make_row n hm w
  have HJ0 : Hid (RowJ w B g vR vC s L (.slice (some ⟨w.heap.size, 0, none⟩) 0 n) 0 W1) := Lib.hid ⟨hown, hbel, h.carry hbel⟩
  have f0 := fnd_cur L 0
  rw [List.drop_zero] at f0
  have HF := Lib.hid (HFR.out W1 hbel)
  have hrow : (row : Int) ≠ -1 := by omega
  -- what a round needs
  have HX := Lib.hid (fun (k : Nat) (x : Nat × Int) (hx : L[k]? = some x) (w1 : World) (hA : ArenaAt w1 B g vR vC s) => by
    obtain ⟨p, hp⟩ := seg_place h2 hx
    obtain ⟨b, c, e1, e2, e3, _, e4, e5, _⟩ := hA.link hp
    have hne := next_any hA hp hrow
    dsimp only at hne e5
    rw [fnd_cur] at hne
    exact (⟨b, c, e1, e2, e3, e4, e5, hA.c1, hne⟩ : ∃ b c, vC = .slice (some ⟨b, 0, none⟩) s.cs.length c ∧ x.1 < s.cs.length ∧ b < w1.heap.size ∧ b ≠ g ∧ w1.cell? ⟨b, x.1 * 4, none⟩ = some (.int .i64 x.2) ∧ w1.cell? ⟨g, 1, none⟩ = some vC ∧
      Calls Try.prog 13 #[.pointer (some ⟨g, 0, none⟩), .int .i64 x.1] w1 fun e' w' => e' = .returned (.tuple #[.int .i64 (cur L (k + 1)), .bool (decide (k + 1 < L.length))]) ∧ w1 = w'))
  dsimp only at HLEN HF
  rw [f0] at HF
  rw [hn] at HLEN HF HX
  have HI0 := Lib.hid hi0
  have HI1 := Lib.hid hz0
  have HI2 := Lib.hid hz1
  have HI3 := Lib.hid hz2
  have HN := Lib.hid hn
  have hmC := h.mostC
  obtain ⟨nC, hnC⟩ : ∃ nC, s.cs.length = nC := ⟨_, rfl⟩
  rw [hnC] at hmC
  have HNC := Lib.hid hnC
  clear h h1 h2 hn HFR hown hbel f0 hi0 hz0 hz1 hz2 hnC hrow
  go_enter Try.func10, Try.ntmps10
  go_wp2_with ((first
    | (go_at_call 14; refine HLEN.out.mono ?_; rintro e w' ⟨rfl, rfl⟩)
    | (go_at_call 11; refine HF.out.mono ?_; rintro e w' ⟨rfl, rfl⟩)))
  clear hmk HLEN HF
  go_loopw [5, 6, 7] (fun v5 v6 v7 wr => ∃ k : Nat, k ≤ n ∧ v6 = .int .i64 (cur L k) ∧ v7 = .bool (decide (k < n)) ∧ Hid (RowJ w B g vR vC s L v5 k wr)) (fun v5 _ _ _ => n - lenV v5)
  case atStart => exact ⟨0, by omega, rfl, rfl, HJ0⟩
  case round =>
    obtain ⟨k, hk, rfl, rfl, hJ⟩ := hrel
    clear HJ0
    obtain ⟨A5, c5, rfl⟩ := own_slice hJ.out.1
    by_cases hlt : k < n
    · obtain ⟨x, hx⟩ : ∃ x, L[k]? = some x := ⟨_, List.getElem?_eq_getElem (by rw [HN.out]; exact hlt)⟩
      obtain ⟨b, c, rfl, hxl, hb, hbg, k0, c1, hNX⟩ := HX.out k x hx wr hJ.out.2.2
      have hcur : cur L k = x.1 := by unfold cur; rw [hx]
      have t1 : decide (k < n) = true := by simpa using hlt
      rw [HNC.out] at c1 hxl
      rw [hcur, t1]
      have hsn := vals_snoc hx
      obtain ⟨xc, xv⟩ := x
      dsimp only at hxl k0 hNX hsn
      have HFIN := Lib.hid (fun (v7 : Value) (w7 : World) (ho : w7.ownsRow w.heap.size 2 1 v7 (k + 1) (vals (L.take k) ++ [.int .i64 xv])) (hg : (wr.alloc (.cells #[.int .i64 xv] 2)).grownBy w7 (Value.slice A5 k c5).ownBlock) => show RowJ w B g vR (.slice (some ⟨b, 0, none⟩) s.cs.length c) s L v7 (k + 1) w7 from by
        obtain ⟨r1, r2, r3⟩ := hJ.out
        have ha := own_alloc r1 (.cells #[.int .i64 xv] 2)
        have hbl : Below wr.heap.size wr (wr.alloc (.cells #[.int .i64 xv] 2)) := bel_new _ _
        have hc := Chg.of_grown hg
        refine ⟨by rw [hsn]; exact ho, ?_, ?_⟩
        · refine (r2.trans (hbl.mono r2.size)).trans (hc.small (Nat.le_trans r2.size hbl.size) (fun i hi e => ?_))
          have := (r1.lt i e.symm).1
          omega
        · have r4 := r3.carry hbl
          exact ⟨r4.box.kept hc (fun e => r4.box.off_row ha (by decide) e.symm), r4.low, own_chg r4.rowR hc (fun j hj e => own_apart r4.rowR ha (by decide) hj e.symm), own_chg r4.rowC hc (fun j hj e => own_apart r4.rowC ha (by decide) hj e.symm), r4.mostR, r4.mostC⟩)
      have HOWN := Lib.hid (own_alloc hJ.out.1 (.cells #[.int .i64 xv] 2))
      have HNX := Lib.hid (fun (w7 : World) (h7 : ArenaAt w7 B g vR (.slice (some ⟨b, 0, none⟩) s.cs.length c) s) => (HX.out k (xc, xv) hx w7 h7))
      have HSZ := Lib.hid (show w.heap.size ≤ wr.heap.size from hJ.out.2.1.size)
      clear hsn hx hNX hcur HX hJ
      have i1 : (0 : Int) ≤ (xc : Int) := by omega
      have i2 : (xc : Int) < (nC : Int) := by omega
      go_wp2_with (at_builtin; refine Hid.out ?_)
      refine Lib.hid ?_
      refine wpList_append_own_at _ rfl (.tmp 25) (.tmp 34) _ rfl w.heap.size 2 i0 _ 1 8 Try.underlying37 HI0.out HI1.out HI2.out HI3.out rfl (by omega) (.slice A5 k c5) k _ rfl HOWN.out ⟨wr.heap.size, 0, none⟩ 1 1 [.int .i64 xv] rfl rfl (cells_new _ _ _ rfl) (vals_one xv) (by simp only [maxLen]; omega) (by omega) (by have := HSZ.out; simp; omega) ?_
      intro v7 w7 hown7 hgr7 _ _
      have hJ7 := HFIN.out v7 w7 hown7 hgr7
      obtain ⟨A7, c7, rfl⟩ := own_slice hown7
      obtain ⟨_, _, _, _, _, _, _, _, hNX7⟩ := HNX.out w7 hJ7.2.2
      have HNX7 := Lib.hid hNX7
      have HJ7 := Lib.hid hJ7
      clear hown7 hgr7 HFIN HOWN HNX hNX7 hJ7 k0 c1
      go_wp2_with (go_at_call 13; refine HNX7.out.mono ?_; rintro e w' ⟨rfl, rfl⟩)
      go_roundw
      case rel => exact ⟨k + 1, by omega, rfl, rfl, HJ7⟩
      case measure => simp [lenV]; omega
    · obtain rfl : k = n := by omega
      have t1 : decide (k < k) = false := by simp
      rw [t1]
      clear HX
      go_wp2_with fail
      go_ret
      obtain ⟨r1, r2, _⟩ := hJ.out
      rw [List.take_of_length_le (by rw [HN.out]; omega)] at r1
      refine ⟨A5, c5, ?_, ?_, r2⟩
      · rw [HN.out]; rfl
      · rw [HN.out]; exact r1
end
end Go.Proofs.Ytmgfeofkbblmjaa
