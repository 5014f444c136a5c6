/- The contract of the directory's Day. -/
import Derived.Test.YtoilgeahfdbhlaaGreatDoorDirSet
set_option linter.unusedSimpArgs false
namespace Go.Proofs.YtoilgeahfdbhlaaGreatDoor
open Go.RowKit Go.Mem1 Go.GridMath Go.DirMath

theorem DirAt.dayed {w : World} {B g : Nat} {vC vL : Value} {cs : List Cl} {L : List Lst} {day : Int} (h : DirAt w B g vC vL cs L day) (d : Int) :
    DirAt (w.setCell ⟨g, 2, none⟩ (.int .i64 d)) B g vC vL cs L d ∧ Chg (fun j => j = g) w (w.setCell ⟨g, 2, none⟩ (.int .i64 d)) ∧ w.frozen? ⟨g, 2, none⟩ = false :=
  ⟨⟨h.box.wrote 2 _, h.low, own_set h.rowC _ _ (h.box.off_row h.rowC (by decide)), own_set h.rowL _ _ (h.box.off_row h.rowL (by decide)), fun c hc => ⟨own_set (h.tabs c hc).1 _ _ (h.box.off_row (h.tabs c hc).1 (by decide)), (h.tabs c hc).2⟩, h.mostC, h.mostL⟩,
    Chg.setCell (S := fun j => j = g) (Chg.refl _ _) (p := ⟨g, 2, none⟩) (fun _ => rfl) _, h.box.unmarked 2⟩
/-- Numbers as cells. -/
def ints (l : List Int) : List Value := l.map (.int .i64)
theorem ints_one (l : List Int) : ∀ u ∈ ints l, u.oneCell' = true := by
  intro u hu
  obtain ⟨x, _, rfl⟩ := List.mem_map.1 hu
  rfl
theorem int_info : (Tryz.prog.info? 3).map (fun i => (i.zero, i.size, i.bytes)) = some (some (.int .i64 0), 1, 8) := by kernel_rfl
/-- The list, gone over up to k. -/
def upTo_ (d : Int) (L : List Lst) (k : Nat) : List Lst := gone d (L.take k) ++ L.drop k
theorem upTo_len (d : Int) (L : List Lst) (k : Nat) : (upTo_ d L k).length = L.length := by simp [upTo_, gone_len]; omega
theorem upTo_at {d : Int} {L : List Lst} {k : Nat} {x : Lst} (h : L[k]? = some x) : (upTo_ d L k)[k]? = some x := by
  have hk : k < L.length := by
    rcases Nat.lt_or_ge k L.length with h' | h'
    · exact h'
    · rw [List.getElem?_eq_none h'] at h; cases h
  unfold upTo_
  rw [List.getElem?_append_right (by rw [gone_len]; simp; omega), gone_len, List.length_take, Nat.min_eq_left (by omega), Nat.sub_self, List.getElem?_drop, Nat.add_zero]
  exact h
theorem upTo_succ {d : Int} {L : List Lst} {k : Nat} {x : Lst} (h : L[k]? = some x) : upTo_ d L (k + 1) = (upTo_ d L k).set k (if goes d x then (x.1, 4) else x) := by
  have hk : k < L.length := by
    rcases Nat.lt_or_ge k L.length with h' | h'
    · exact h'
    · rw [List.getElem?_eq_none h'] at h; cases h
  have e : L[k] = x := by rw [List.getElem?_eq_getElem hk] at h; injection h
  unfold upTo_
  rw [List.take_succ_eq_append_getElem hk, gone_snoc, List.set_append_right _ _ (by rw [gone_len]; simp; omega), gone_len, List.length_take, Nat.min_eq_left (by omega), Nat.sub_self, List.drop_eq_getElem_cons hk, List.set_cons_zero, e, List.append_assoc]
  rfl
theorem upTo_zero (d : Int) (L : List Lst) : upTo_ d L 0 = L := by simp [upTo_, gone]
theorem upTo_all (d : Int) (L : List Lst) : upTo_ d L L.length = gone d L := by simp [upTo_]
theorem ids_succ {d : Int} {L : List Lst} {k : Nat} {x : Lst} (h : L[k]? = some x) : goneIds d (L.take (k + 1)) = goneIds d (L.take k) ++ if goes d x then [(k : Int) + 1] else [] := by
  have hk : k < L.length := by
    rcases Nat.lt_or_ge k L.length with h' | h'
    · exact h'
    · rw [List.getElem?_eq_none h'] at h; cases h
  have e : L[k] = x := by rw [List.getElem?_eq_getElem hk] at h; injection h
  rw [List.take_succ_eq_append_getElem hk, goneIds_snoc, e, List.length_take, Nat.min_eq_left (by omega)]
theorem ids_len (d : Int) (L : List Lst) (k : Nat) : (goneIds d (L.take k)).length ≤ k := by
  unfold goneIds
  rw [List.length_map]
  refine Nat.le_trans (List.length_filter_le _ _) ?_
  rw [List.length_zipIdx, List.length_take]
  omega
/-- What a day that is behind the last one does. -/
def DayOk (w : World) (B g : Nat) (vC vL : Value) (cs : List Cl) (L : List Lst) (d : Int) (e : Ending) (w' : World) : Prop :=
  ∃ A c, e = .returned (.slice A (goneIds d L).length c) ∧ w'.ownsRow w.heap.size 3 1 (.slice A (goneIds d L).length c) (goneIds d L).length (ints (goneIds d L)) ∧ DirAt w' B g vC vL cs (gone d L) d ∧ Chg (fun j => j = g ∨ some j = vL.ownBlock) w w'
set_option maxHeartbeats 1000000 in
theorem day_none {w : World} {B g : Nat} {vC vL : Value} {cs : List Cl} {L : List Lst} {day : Int} (h : DirAt w B g vC vL cs L day) (d : Int) (hd : d ≤ day) :
    Calls Tryz.prog 18 #[.pointer (some ⟨g, 0, none⟩), .int .i64 d] w fun e w' => e = .returned (.slice none 0 0) ∧ w = w' := by
  have c2 := h.c2
  have t : decide (d ≤ day) = true := by simpa using hd
  clear h hd
  go_enter Tryz.func18, Tryz.ntmps18
  go_wp2_with fail
  go_ret
  exact ⟨rfl, rfl⟩
/-- At the head of a round of Day. -/
def DayJ (w : World) (B g : Nat) (vC vL : Value) (cs : List Cl) (L : List Lst) (d : Int) (k : Nat) (v : Value) (wr : World) : Prop :=
  wr.ownsRow w.heap.size 3 1 v (goneIds d (L.take k)).length (ints (goneIds d (L.take k))) ∧ DirAt wr B g vC vL cs (upTo_ d L k) d ∧ Chg (fun j => j = g ∨ some j = vL.ownBlock) w wr
theorem DayJ.skip {w wr : World} {B g : Nat} {vC vL : Value} {cs : List Cl} {L : List Lst} {d : Int} {k : Nat} {v : Value} {x : Lst} (h : DayJ w B g vC vL cs L d k v wr) (hx : L[k]? = some x) (hg : goes d x = false) (o : Obj) :
    DayJ w B g vC vL cs L d (k + 1) v (wr.alloc o) := by
  obtain ⟨h1, h2, h3⟩ := h
  have e1 : upTo_ d L (k + 1) = upTo_ d L k := by
    rw [upTo_succ hx, hg]
    have := upTo_at (d := d) hx
    apply List.ext_getElem?
    intro j
    rw [List.getElem?_set]
    by_cases hj : k = j
    · subst hj
      rw [if_pos rfl, this]
      have hk : k < (upTo_ d L k).length := by
        rcases Nat.lt_or_ge k (upTo_ d L k).length with h' | h'
        · exact h'
        · rw [List.getElem?_eq_none h'] at this; cases this
      rw [if_pos hk]; rfl
    · rw [if_neg hj]
  have e2 : goneIds d (L.take (k + 1)) = goneIds d (L.take k) := by rw [ids_succ hx, hg]; simp
  unfold DayJ
  rw [e1, e2]
  exact ⟨own_alloc h1 o, h2.carry (bel_new _ _), h3.alloc o⟩
/-- A directory is kept where a row of another type grows or changes. -/
theorem DirAt.other {w w' : World} {B g : Nat} {vC vL : Value} {cs : List Cl} {L : List Lst} {day : Int} (h : DirAt w B g vC vL cs L day) {base size n : Nat} {e : TypeId} {v : Value} {xs : List Value} (ho : w.ownsRow base e size v n xs)
    (h1 : e ≠ 79) (h2 : e ≠ 95) (h3 : e ≠ 104) (h4 : e ≠ 74) (hc : Chg (fun k => some k = v.ownBlock) w w') : DirAt w' B g vC vL cs L day :=
  ⟨h.box.kept hc (fun e => h.box.off_row ho h1 e.symm), h.low, own_chg h.rowC hc (fun _ hk e => own_apart h.rowC ho (Ne.symm h2) hk e.symm), own_chg h.rowL hc (fun _ hk e => own_apart h.rowL ho (Ne.symm h3) hk e.symm),
    fun c hcs => ⟨own_chg (h.tabs c hcs).1 hc (fun _ hk e => own_apart (h.tabs c hcs).1 ho (Ne.symm h4) hk e.symm), (h.tabs c hcs).2⟩, h.mostC, h.mostL⟩
theorem DayJ.step {w wr : World} {B g b c : Nat} {vC vL : Value} {cs : List Cl} {L : List Lst} {d : Int} {k : Nat} {v : Value} {x : Lst} (h : DayJ w B g vC vL cs L d k v wr) (hv : vL = .slice (some ⟨b, 0, none⟩) L.length c) (hx : L[k]? = some x) (hg : goes d x = true) (o : Obj) :
    (wr.alloc o).frozen? ⟨b, k * 5 + 4, none⟩ = false ∧ (wr.alloc o).cell? ⟨b, k * 5 + 4, none⟩ = some (.int .i64 x.2) ∧
    (∀ o2, (((wr.setCell ⟨b, k * 5 + 4, none⟩ (.int .i64 4)).alloc o).alloc o2).ownsRow w.heap.size 3 1 v (goneIds d (L.take k)).length (ints (goneIds d (L.take k)))) ∧
    ∀ o2 v' w7, w7.ownsRow w.heap.size 3 1 v' ((goneIds d (L.take k)).length + 1) (ints (goneIds d (L.take k)) ++ [.int .i64 ((k : Int) + 1)]) → (((wr.setCell ⟨b, k * 5 + 4, none⟩ (.int .i64 4)).alloc o).alloc o2).grownBy w7 v.ownBlock → DayJ w B g vC vL cs L d (k + 1) v' w7 := by
  obtain ⟨h1, h2, h3⟩ := h
  obtain ⟨_, _, f2, q2⟩ := (h2.carry (bel_new wr o)).stored (by rw [upTo_len]; exact hv) (upTo_at hx) 4
  obtain ⟨D3, C3, _, _⟩ := h2.stored (by rw [upTo_len]; exact hv) (upTo_at hx) 4
  have hbl : vL.ownBlock = some b := by rw [hv]; rfl
  have r3 : (wr.setCell ⟨b, k * 5 + 4, none⟩ (.int .i64 4)).ownsRow w.heap.size 3 1 v (goneIds d (L.take k)).length (ints (goneIds d (L.take k))) :=
    own_chg h1 C3 (fun j hj e => own_apart h1 h2.rowL (by decide) hj (by rw [hbl, e]))
  refine ⟨f2, q2, fun o2 => own_alloc (own_alloc r3 o) o2, fun o2 v' w7 hown hgr => ?_⟩
  have hC := Chg.of_grown hgr
  have e1 : upTo_ d L (k + 1) = (upTo_ d L k).set k (x.1, 4) := by rw [upTo_succ hx, hg]; rfl
  have e2 : goneIds d (L.take (k + 1)) = goneIds d (L.take k) ++ [(k : Int) + 1] := by rw [ids_succ hx, hg]; rfl
  unfold DayJ
  rw [e1, e2]
  refine ⟨by simpa [ints] using hown, (D3.carry (bel_alloc (bel_new _ o) o2)).other (own_alloc (own_alloc r3 o) o2) (by decide) (by decide) (by decide) (by decide) hC, ?_⟩
  have c1 : Chg (fun j => j = g ∨ some j = vL.ownBlock) w (((wr.setCell ⟨b, k * 5 + 4, none⟩ (.int .i64 4)).alloc o).alloc o2) := ((h3.then C3 (fun i _ e => Or.inr (by rw [hbl, e]))).alloc o).alloc o2
  exact c1.then hC (fun i hi e => by
    have := (r3.lt i e.symm).1
    omega)
set_option maxRecDepth 100000 in
set_option maxHeartbeats 2000000 in
theorem day_any {w : World} {B g : Nat} {vC vL : Value} {cs : List Cl} {L : List Lst} {day : Int} (h : DirAt w B g vC vL cs L day) (d : Int) (hd : day < d) :
    Calls Tryz.prog 18 #[.pointer (some ⟨g, 0, none⟩), .int .i64 d] w (DayOk w B g vC vL cs L d) := by
  obtain ⟨i0, hi0, hz0, hz1, hz2⟩ := info_parts int_info
  have c2 := h.c2
  have t : decide (d ≤ day) = false := by simpa using hd
  obtain ⟨hD, hC, hf⟩ := h.dayed d
  obtain ⟨A, c, hv⟩ := h.formL
  have c1 := hD.c1
  rw [hv] at c1
  have hm := h.mostL
  have hwB := Nat.le_of_lt h.base
  obtain ⟨n, hn⟩ : ∃ n, L.length = n := ⟨_, rfl⟩
  rw [hn] at c1 hm
  obtain ⟨W1, hW1⟩ : ∃ W1, w.setCell ⟨g, 2, none⟩ (.int .i64 d) = W1 := ⟨_, rfl⟩
  rw [hW1] at hD hC c1
  have hsz : w.heap.size = W1.heap.size := by rw [← hW1]; simp [World.setCell]
  have HJ0 : Hid (DayJ w B g vC vL cs L d 0 (.slice none 0 0) W1) := ⟨by simp [goneIds, ints]; exact World.ownsRow_nil _ _ _ _, by rw [upTo_zero]; exact hD, hC.mono (fun _ _ h => Or.inl h)⟩
  have HV := Lib.hid hv
  have HN := Lib.hid hn
  have HI0 := Lib.hid hi0
  have HI1 := Lib.hid hz0
  have HI2 := Lib.hid hz1
  have HI3 := Lib.hid hz2
  have HSZ := Lib.hid hsz
  clear h hd hD hC hv hn hi0 hz0 hz1 hz2 hsz
  go_enter Tryz.func18, Tryz.ntmps18
  go_wp2_with fail
  clear hW1 c1 c2 hf t
  go_loopw [5, 23] (fun v5 v23 wr => ∃ k : Nat, k ≤ n ∧ v23 = .int .i64 k ∧ Hid (DayJ w B g vC vL cs L d k v5 wr)) (fun _ v23 _ => n - (intOf v23).toNat)
  case atStart => exact ⟨0, by omega, rfl, HJ0⟩
  case round =>
    obtain ⟨k, hk, rfl, hJ⟩ := hrel
    by_cases hlt : k < n
    · obtain ⟨x, hx⟩ : ∃ x, L[k]? = some x := ⟨_, List.getElem?_eq_getElem (by rw [HN.out]; exact hlt)⟩
      obtain ⟨hR, hD, hC⟩ := hJ.out
      obtain ⟨b, c', e1, hb, _, k0, k1, k2, k3, k4⟩ := hD.lst (upTo_at hx)
      have hv2 := HV.out
      rw [e1] at hv2
      injection hv2 with e2 _ e3
      subst e2; subst e3
      have d0 : ∀ o, (wr.alloc o).cell? ⟨b, k * 5, none⟩ = some (.string x.1.cls) := fun o => ((bel_new wr o).cell (p := ⟨b, _, none⟩) hb).trans k0
      have g1 : wr.cell? ⟨g, 1, none⟩ = some (.slice (some ⟨b, 0, none⟩) n c') := by rw [hD.c1, HV.out, HN.out]
      have g2 : ∀ o, (wr.alloc o).cell? ⟨g, 1, none⟩ = some (.slice (some ⟨b, 0, none⟩) n c') := fun o => ((bel_new wr o).cell (p := ⟨g, 1, none⟩) hD.there).trans g1
      obtain ⟨A5, c5, e5⟩ := own_slice hR
      subst e5
      obtain ⟨m, hm2⟩ : ∃ m, (goneIds d (L.take k)).length = m := ⟨_, rfl⟩
      have hmk : m ≤ k := by rw [← hm2]; exact ids_len d L k
      have HSK := Lib.hid (fun (hg : goes d x = false) o => hJ.out.skip hx hg o)
      have HST := Lib.hid (fun (hg : goes d x = true) o => hJ.out.step HV.out hx hg o)
      rw [hm2] at HST HSK
      have HM2 := Lib.hid hm2
      have hgo : goes d x = (decide (x.1.ex ≤ d) && (x.2 != 4)) := rfl
      have HGO := Lib.hid hgo
      obtain ⟨⟨xc, xe, xs, xr⟩, xst⟩ := x
      dsimp only at k0 k1 k2 k3 k4 d0 HGO
      have i1 : (0 : Int) ≤ (k : Int) := by omega
      have i2 : (k : Int) < (n : Int) := by omega
      have HWB := Lib.hid (show w.heap.size ≤ wr.heap.size from hC.size)
      clear hx hR hD hC e1 hgo hm2
      by_cases hle : xe ≤ d
      · have t1 : decide (xe ≤ d) = true := by simpa using hle
        by_cases h4 : xst = 4
        · subst h4
          have HK := HSK.out (by rw [HGO.out]; simp) (.cells #[.string xc, .int .i64 xe, .int .i64 xs, .int .i64 xr, .int .i64 4] 104)
          have HK2 := Lib.hid HK
          rw [HM2.out] at *
          clear HST HSK HK hle
          go_wp2_with fail
          go_roundw
          case rel => exact ⟨k + 1, by omega, by go_num, HK2⟩
          case measure => simp [intOf]; omega
        · have t4 : (xst != 4) = true := by simpa using h4
          obtain ⟨f3, q3, r3, fin⟩ := HST.out (by rw [HGO.out]; simp [hle, h4]) (.cells #[.string xc, .int .i64 xe, .int .i64 xs, .int .i64 xr, .int .i64 xst] 104)
          have HR3 := Lib.hid r3
          have HF := Lib.hid fin
          clear HST HSK hle h4 r3 fin
          rw [HM2.out] at *
          go_wp2_with (at_builtin; refine Hid.out ?_)
          refine Lib.hid ?_
          refine wpList_append_own_at _ rfl (.tmp 45) (.tmp 48) _ rfl w.heap.size 3 i0 _ 1 8 Tryz.underlying29 HI0.out HI1.out HI2.out HI3.out rfl (by omega) (.slice A5 m c5) m _ rfl (HR3.out _) ⟨_, 0, none⟩ 1 1 [.int .i64 ((k : Int) + 1)] rfl rfl (cells_new _ _ _ (by simp)) (ints_one [(k : Int) + 1]) (by simp only [maxLen]; omega) (by omega) (by have := HWB.out; simp; omega) ?_
          intro v7 w7 hown7 hgr7 _ _
          have HK2 := Lib.hid (HF.out _ _ _ hown7 hgr7)
          clear hown7 hgr7 HF HR3
          go_wp2_with fail
          go_roundw
          case rel => exact ⟨k + 1, by omega, by go_num, HK2⟩
          case measure => simp [intOf]; omega
      · have t1 : decide (xe ≤ d) = false := by simpa using hle
        have HK := HSK.out (by rw [HGO.out]; simp [hle]) (.cells #[.string xc, .int .i64 xe, .int .i64 xs, .int .i64 xr, .int .i64 xst] 104)
        have HK2 := Lib.hid HK
        rw [HM2.out] at *
        clear HST HSK HK hle
        go_wp2_with fail
        go_roundw
        case rel => exact ⟨k + 1, by omega, by go_num, HK2⟩
        case measure => simp [intOf]; omega
    · obtain rfl : k = n := by omega
      obtain ⟨hR, hD, hC⟩ := hJ.out
      obtain ⟨A5, c5, e5⟩ := own_slice hR
      subst e5
      have etk : L.take k = L := List.take_of_length_le (by rw [HN.out]; exact Nat.le_refl _)
      have eup : upTo_ d L k = gone d L := by rw [← HN.out, upTo_all]
      rw [etk] at hR hJ ⊢
      rw [eup] at hD
      have HK : Hid (DayOk w B g vC vL cs L d (.returned (.slice A5 (goneIds d L).length c5)) wr) := ⟨A5, c5, rfl, hR, hD, hC⟩
      obtain ⟨m, hm2⟩ : ∃ m, (goneIds d L).length = m := ⟨_, rfl⟩
      rw [hm2] at HK ⊢
      clear hR hD hC hm2
      go_wp2_with fail
      go_ret
      exact HK.out
end Go.Proofs.YtoilgeahfdbhlaaGreatDoor
