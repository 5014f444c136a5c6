/- The contract of the directory's List. -/
import Derived.Test.YtoilgeahfdbhlaaDirWrong
set_option linter.unusedSimpArgs false
namespace Go.Proofs.Ytoilgeahfdbhlaa
open Go.RowKit Go.Mem1 Go.GridMath Go.DirMath

theorem listed_info : (Try.prog.info? 58).map (fun i => (i.zero, i.size, i.bytes)) = some (some (.agg #[.string ⟨#[]⟩, .int .i64 0, .int .i64 0, .int .i64 0, .int .i64 0]), 5, 48) := by kernel_rfl
theorem lst1_one (x : Lst) : ∀ u ∈ lst1 x, u.oneCell' = true := by
  intro u hu
  simp [lst1] at hu
  rcases hu with rfl | rfl | rfl | rfl | rfl <;> rfl
theorem DirAt.apartC {w : World} {B g : Nat} {vC vL : Value} {cs : List Cl} {L : List Lst} {day : Int} (h : DirAt w B g vC vL cs L day) {k : Nat} (hk : vC.ownBlock = some k) : vL.ownBlock ≠ some k := own_apart h.rowC h.rowL (by decide) hk
/-- One more is listed. -/
theorem DirAt.listed {w w7 : World} {B g : Nat} {vC vL : Value} {cs : List Cl} {L : List Lst} {day : Int} (h : DirAt w B g vC vL cs L day) (x : Lst) (v7 : Value)
    (hown : w7.ownsRow B 58 5 v7 (L.length + 1) (L.flatMap lst1 ++ lst1 x)) (hgr : w.grownBy w7 vL.ownBlock) (hL : L.length < 64) :
    DirAt (w7.setCell ⟨g, 1, none⟩ v7) B g vC v7 cs (L ++ [x]) day ∧ Below B w (w7.setCell ⟨g, 1, none⟩ v7) ∧ w7.frozen? ⟨g, 1, none⟩ = false ∧ w7.cell? ⟨g, 1, none⟩ = some vL := by
  have hS := Chg.of_grown hgr
  have hgL : ¬ some g = vL.ownBlock := fun e => h.box.off_row h.rowL (by decide) e.symm
  have hb7 : Box w7 g _ _ := h.box.kept hS hgL
  have hv7 : v7.ownBlock ≠ some g := hb7.off_row hown (by decide)
  have hC7 := own_chg h.rowC hS (fun k hk e => h.apartC hk e.symm)
  refine ⟨⟨hb7.wrote 1 v7, h.low, own_set hC7 _ _ (hb7.off_row hC7 (by decide)), ?_, ?_, h.mostC, by simp; omega⟩, ?_, hb7.unmarked 1, hb7.reads 1⟩
  · have := own_set hown ⟨g, 1, none⟩ v7 hv7
    simpa using this
  · intro c hc
    obtain ⟨ht, hk⟩ := h.tabs c hc
    have h7 := own_chg ht hS (fun k hk e => own_apart ht h.rowL (by decide) hk e.symm)
    exact ⟨own_set h7 _ _ (hb7.off_row h7 (by decide)), hk⟩
  · have hc : Chg (fun k => some k = vL.ownBlock ∨ k = g) w (w7.setCell ⟨g, 1, none⟩ v7) := Chg.setCell (S := fun k => some k = vL.ownBlock ∨ k = g) (hS.mono (fun i _ h => Or.inl h)) (p := ⟨g, 1, none⟩) (fun _ => Or.inr rfl) v7
    refine hc.small (Nat.le_of_lt h.base) (fun i hi hs => ?_)
    rcases hs with e | e
    · obtain ⟨h1, _⟩ := h.rowL.lt i e.symm; omega
    · have := h.low; omega
def seriesB : ByteArray := ⟨#[115, 101, 114, 105, 101, 115]⟩
/-- What List answers. -/
def ListBad (n : Nat) (code : Int) (w : World) (e : Ending) (w' : World) : Prop :=
  ∃ b, e = .returned (.tuple #[.int .i64 0, .iface 69 (.pointer (some ⟨b, 0, none⟩))]) ∧ Box w' b 71 #[.string seriesB, .int .i64 (n : Int), .iface 55 (.int .i64 code)] ∧ Below w.heap.size w w'
def ListOk (w : World) (B g : Nat) (vC : Value) (cs : List Cl) (L : List Lst) (day : Int) (s : Ser) (e : Ending) (w' : World) : Prop :=
  e = .returned (.tuple #[.int .i64 ((L.length : Int) + 1), .nilIface]) ∧ ∃ vL', DirAt w' B g vC vL' cs (L ++ [(s, 1)]) day ∧ Below B w w'
set_option maxRecDepth 100000 in
set_option maxHeartbeats 1000000 in
theorem list_bad {w : World} {B g : Nat} {vC vL : Value} {cs : List Cl} {L : List Lst} {day : Int} (h : DirAt w B g vC vL cs L day) (s : Ser) (hs : s.cls.size ≤ 1000000) (hz : wS cs L day s ≠ 0) :
    Calls Try.prog 7 #[.pointer (some ⟨g, 0, none⟩), serV s] w (ListBad L.length (wS cs L day s) w) := by
  have HW := Lib.hid (fun w' (hb : Below w.heap.size w w') => dwrong_any (h.carry hb) s hs)
  have HD := Lib.hid (fun w' (hb : Below w.heap.size w w') => h.carry hb)
  obtain ⟨R, hR⟩ : ∃ R, wS cs L day s = R := ⟨_, rfl⟩
  rw [hR] at HW hz ⊢
  have hz' : (R != 0) = true := by simpa using hz
  obtain ⟨A, c, hv⟩ := h.formL
  have hc1 := fun w' (hb : Below w.heap.size w w') => (h.carry hb).c1
  rw [hv] at hc1
  have hm := h.mostL
  obtain ⟨n, hn⟩ : ∃ n, L.length = n := ⟨_, rfl⟩
  rw [hn] at hc1 hm ⊢
  have HC := Lib.hid hc1
  obtain ⟨sc, se, st, sr⟩ := s
  clear h hs hR hz hv hn hc1
  have B0 := fun o => bel_new w o
  go_enter Try.func7, Try.ntmps7
  go_wp2_with (go_at_call 18; refine Hid.out ?_)
  refine Lib.hid ?_
  refine (HW.out _ (B0 _)).mono ?_
  rintro e w1 ⟨rfl, hb1⟩
  have HB1 := Lib.hid (bel_trans (B0 _) hb1)
  have c1 := HC.out w1 HB1.out
  clear hb1 B0
  go_wp2_with (go_at_call 15; refine (dfault_any _ _ _ _).mono ?_; rintro e w' ⟨rfl, rfl⟩)
  go_ret2
  exact ⟨_, rfl, Box.fresh _ _ _ rfl, bel_alloc HB1.out _⟩
set_option maxRecDepth 100000 in
set_option maxHeartbeats 1000000 in
theorem list_ok {w : World} {B g : Nat} {vC vL : Value} {cs : List Cl} {L : List Lst} {day : Int} (h : DirAt w B g vC vL cs L day) (s : Ser) (hs : s.cls.size ≤ 1000000) (hz : wS cs L day s = 0) (hL : L.length < 64) :
    Calls Try.prog 7 #[.pointer (some ⟨g, 0, none⟩), serV s] w (ListOk w B g vC cs L day s) := by
  obtain ⟨i0, hi0, hz0, hz1, hz2⟩ := info_parts listed_info
  have HI0 := Lib.hid hi0
  have HI1 := Lib.hid hz0
  have HI2 := Lib.hid hz1
  have HI3 := Lib.hid hz2
  have HW := Lib.hid (fun w' (hb : Below w.heap.size w w') => dwrong_any (h.carry hb) s hs)
  rw [hz] at HW
  have HD := Lib.hid (fun w' (hb : Below w.heap.size w w') => h.carry hb)
  have hBw : B ≤ w.heap.size := Nat.le_of_lt h.base
  obtain ⟨A, c, hv⟩ := h.formL
  obtain ⟨n, hn⟩ : ∃ n, L.length = n := ⟨_, rfl⟩
  have HV := Lib.hid hv
  have HN := Lib.hid hn
  rw [hn] at hL
  obtain ⟨sc, se, st, sr⟩ := s
  have HCl := Lib.hid (fun w' => sclone_any sc w' hs)
  clear h hz hi0 hz0 hz1 hz2 hs hv hn
  have B0 := fun o => bel_new w o
  go_enter Try.func7, Try.ntmps7
  go_wp2_with (go_at_call 18; refine Hid.out ?_)
  refine Lib.hid ?_
  obtain ⟨W0, hW0⟩ : ∃ W0, w.alloc (.cells #[.string sc, .int .i64 se, .int .i64 st, .int .i64 sr] 36) = W0 := ⟨_, rfl⟩
  have X0 : Box W0 w.heap.size 36 #[.string sc, .int .i64 se, .int .i64 st, .int .i64 sr] := by rw [← hW0]; exact Box.fresh w _ _ rfl
  have B00 : Below w.heap.size w W0 := by rw [← hW0]; exact B0 _
  rw [hW0]
  clear hW0 B0
  refine (HW.out _ B00).mono ?_
  rintro e w1 ⟨rfl, hb1⟩
  have HB1 := Lib.hid (bel_trans B00 hb1)
  have HX1 := Lib.hid (X0.kept_below hb1 X0.there)
  have k0 : w1.cell? ⟨w.heap.size, 0, none⟩ = some (.string sc) := HX1.out.reads 0
  clear hb1 B00 X0 HW
  go_wp2_with (go_at_call 16; refine Hid.out ?_)
  refine Lib.hid ?_
  refine (HCl.out w1).mono ?_
  rintro e w2 ⟨rfl, hb2⟩
  have hx2 := HX1.out.kept_below hb2 HX1.out.there
  have hB2 := bel_trans HB1.out hb2
  have f0 : w2.frozen? ⟨w.heap.size, 0, none⟩ = false := hx2.unmarked 0
  have e0 : w2.cell? ⟨w.heap.size, 0, none⟩ = some (.string sc) := hx2.reads 0
  obtain ⟨W3, hW3⟩ : ∃ W3, w2.setCell ⟨w.heap.size, 0, none⟩ (.string sc) = W3 := ⟨_, rfl⟩
  have X3 : Box W3 w.heap.size 36 #[.string sc, .int .i64 se, .int .i64 st, .int .i64 sr] := by rw [← hW3]; exact hx2.wrote 0 _
  have B3 : Below w.heap.size w W3 := by rw [← hW3]; exact hB2.setCell (Nat.le_refl _) _
  clear hb2 HX1 HB1 k0 hx2 hB2
  have D3 := HD.out W3 B3
  have q1 := D3.c1
  rw [HV.out, HN.out] at q1
  have j0 : W3.cell? ⟨w.heap.size, 0, none⟩ = some (.string sc) := X3.reads 0
  have j1 : W3.cell? ⟨w.heap.size, 1, none⟩ = some (.int .i64 se) := X3.reads 1
  have j2 : W3.cell? ⟨w.heap.size, 2, none⟩ = some (.int .i64 st) := X3.reads 2
  have j3 : W3.cell? ⟨w.heap.size, 3, none⟩ = some (.int .i64 sr) := X3.reads 3
  have HD3 := Lib.hid D3
  have HB3 := Lib.hid B3
  have HX3 := Lib.hid X3
  clear D3 B3 X3 HD
  go_wp2_with fail
  clear hW3 e0 f0
  have hd4 := HD3.out.carry (Below.refl _ _).drew
  have hst := fun (W4 : World) (hW4 : Below W3.heap.size W3 W4) (v7 : Value) (w7 : World) (hown7 : w7.ownsRow B 58 5 v7 (n + 1) (L.flatMap lst1 ++ lst1 (⟨sc, se, st, sr⟩, 1))) (hgr7 : W4.grownBy w7 (Value.slice A n c).ownBlock) =>
    DirAt.listed (HD3.out.carry hW4) (⟨sc, se, st, sr⟩, 1) v7 (by rw [HN.out]; exact hown7) (by rw [HV.out, HN.out]; exact hgr7) (by rw [HN.out]; exact hL)
  have HST := Lib.hid hst
  have hrow := fun o => ((HD3.out.carry (bel_new W3 o)).rowL).drew
  rw [HV.out, HN.out] at hrow
  have HROW := Lib.hid hrow
  have hBw4 : B ≤ W3.heap.size := Nat.le_trans hBw HB3.out.size
  have q1' : ∀ o, (W3.alloc o).cell? ⟨g, 1, none⟩ = some (.slice A n c) := fun o => ((HD3.out.carry (bel_new W3 o)).c1).trans (by rw [HV.out, HN.out])
  clear hst hrow hd4
  go_region_law (refine step_append_at rfl (.tmp 28) (.tmp 31) _ rfl B 58 i0 _ 5 48 Try.underlying47 HI0.out HI1.out HI2.out HI3.out rfl (by omega) (.slice A n c) n _ rfl (HROW.out _) ⟨W3.heap.size, 0, none⟩ 1 1 (lst1 (⟨sc, se, st, sr⟩, 1)) rfl rfl (cells_new _ _ _ rfl) (lst1_one _) (by simp only [maxLen]; omega) (by omega) (by simp; omega) ?_; intro v7 w7 hown7 hgr7 _; obtain ⟨A7, c7, rfl⟩ := own_slice hown7; obtain ⟨hfin, hbl, f7, g7⟩ := HST.out _ ((bel_new W3 (.cells #[.string sc, .int .i64 se, .int .i64 st, .int .i64 sr, .int .i64 1] 58)).drew) _ w7 hown7 hgr7; have hc8 := hfin.c1; have HF := Lib.hid hfin; have HBL := Lib.hid hbl; clear hown7 hgr7 hfin hbl)
  all_goals
    clear f7 g7
    go_wp2_with fail
    go_ret2
    unfold ListOk
    rw [HN.out]
    exact ⟨by first | rfl | simp, _, HF.out, ((HB3.out.mono hBw).trans ((bel_new W3 _).drew.mono hBw4)).trans HBL.out⟩
end Go.Proofs.Ytoilgeahfdbhlaa
