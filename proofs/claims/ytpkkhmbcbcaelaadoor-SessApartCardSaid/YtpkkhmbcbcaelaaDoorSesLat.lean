/- The landed desk's contracts: Late. -/
import Derived.Test.YtpkkhmbcbcaelaaDoorSesSil
set_option linter.unusedSimpArgs false
namespace Go.Proofs.YtpkkhmbcbcaelaaDoor
open Go.RowKit Go.Mem1 Go.SesMath
/-- The desk where those of a list that are too late are off. -/
def offD (D : Sk) (T now : Int) (L : List Int) : Sk := fun j => if decide (j ∈ L) && tooLate T now (D j) then ⟨false, (D j).nx, (D j).out, (D j).last⟩ else D j
theorem offD_nil (D : Sk) (T now : Int) : offD D T now [] = D := by
  funext j
  unfold offD
  simp
theorem offD_last (D : Sk) (T now : Int) (L : List Int) (s : Int) : (offD D T now L s).last = (D s).last := by
  unfold offD
  split <;> rfl
theorem offD_not (D : Sk) (T now : Int) (L : List Int) {s : Int} (h : tooLate T now (D s) = false) : offD D T now (L ++ [s]) = offD D T now L := by
  funext j
  unfold offD
  by_cases hj : j = s
  · subst hj; rw [h]; simp
  · have : decide (j ∈ L ++ [s]) = decide (j ∈ L) := by rw [decide_eq_decide]; simp [hj]
    rw [this]
theorem offD_yes (D : Sk) (T now : Int) (L : List Int) {s : Int} (h : tooLate T now (D s) = true) : offD D T now (L ++ [s]) = updS (offD D T now L) s ⟨false, (offD D T now L s).nx, (offD D T now L s).out, (offD D T now L s).last⟩ := by
  funext j
  unfold updS
  by_cases hj : j = s
  · subst hj
    rw [if_pos rfl]
    unfold offD
    rw [h]
    by_cases hl : j ∈ L <;> simp [hl]
  · rw [if_neg hj]
    unfold offD
    have : decide (j ∈ L ++ [s]) = decide (j ∈ L) := by rw [decide_eq_decide]; simp [hj]
    rw [this]
theorem offD_all (D : Sk) (T now : Int) {s : Int} (hs : s ∈ ids) : offD D T now (liveL D) s = lateD D T now s := by
  unfold offD lateD
  have : (decide (s ∈ liveL D) && tooLate T now (D s)) = tooLate T now (D s) := by
    cases h : tooLate T now (D s) with
    | false => simp
    | true =>
      have ho : (D s).on = true := by unfold tooLate at h; simp at h; exact h.1
      have : s ∈ liveL D := by unfold liveL; rw [List.mem_filter]; exact ⟨hs, ho⟩
      simp [this]
  rw [this]
theorem deskC_ext (T : Int) {D E : Sk} (h : ∀ s ∈ ids, D s = E s) : deskC T D = deskC T E := by
  unfold deskC
  have : ids.map D = ids.map E := List.map_congr_left h
  rw [this]
theorem lateL_live (D : Sk) (T now : Int) : (liveL D).filter (fun s => tooLate T now (D s)) = lateL D T now := by
  unfold liveL lateL
  rw [List.filter_filter]
  congr 1
  funext s
  unfold tooLate
  cases (D s).on <;> simp
theorem live_in {D : Sk} {k : Nat} {s : Int} (h : (liveL D)[k]? = some s) : (D s).on = true ∧ ∃ i : Nat, i < 64 ∧ s = (i : Int) + 1 := by
  have := List.mem_of_getElem? h
  unfold liveL at this
  rw [List.mem_filter] at this
  obtain ⟨h1, h2⟩ := this
  refine ⟨h2, ?_⟩
  unfold ids at h1
  rw [List.mem_map] at h1
  obtain ⟨i, hi, rfl⟩ := h1
  exact ⟨i, List.mem_range.1 hi, rfl⟩
section
variable {w w' : World} {B g : Nat} {T : Int} {D : Sk} {O : Nat → Prop} {n : Int}
/-- Those of the first k that are on who are too late. -/
def lateK (D : Sk) (T now : Int) (k : Nat) : List Int := ((liveL D).take k).filter fun s => tooLate T now (D s)
theorem lateK_len (D : Sk) (T now : Int) (k : Nat) : (lateK D T now k).length ≤ k := by
  unfold lateK
  exact Nat.le_trans (List.length_filter_le _ _) (by rw [List.length_take]; omega)
theorem take_next {L : List Int} {k : Nat} {s : Int} (h : L[k]? = some s) : L.take (k + 1) = L.take k ++ [s] := by rw [List.take_add_one, h]; rfl
theorem lateK_yes {D : Sk} {T now : Int} {k : Nat} {s : Int} (h : (liveL D)[k]? = some s) (ht : tooLate T now (D s) = true) : lateK D T now (k + 1) = lateK D T now k ++ [s] := by
  unfold lateK
  rw [take_next h, List.filter_append]
  simp [ht]
theorem lateK_not {D : Sk} {T now : Int} {k : Nat} {s : Int} (h : (liveL D)[k]? = some s) (ht : tooLate T now (D s) = false) : lateK D T now (k + 1) = lateK D T now k := by
  unfold lateK
  rw [take_next h, List.filter_append]
  simp [ht]
/-- Late's state at the head of a round: w1 is the world behind Live. -/
def LateJ (w1 : World) (B g : Nat) (T : Int) (O : Nat → Prop) (D : Sk) (now : Int) (k : Nat) (v : Value) (wr : World) : Prop :=
  SdAt wr B g T (offD D T now ((liveL D).take k)) O ∧ wr.ownsRow w1.heap.size 3 1 v (lateK D T now k).length ((lateK D T now k).map idN) ∧ Chg O w1 wr
theorem LateJ.other {w1 wr : World} {now : Int} {k : Nat} {v : Value} (h : LateJ w1 B g T O D now k v wr) (hg : g < w1.heap.size) : v.ownBlock ≠ some g := fun e => by
  have := (h.2.1.lt g e).1
  omega
theorem LateJ.step {w1 wr w7 : World} {now : Int} {k i : Nat} {v v' : Value} (h : LateJ w1 B g T O D now k v wr) (hg : g < w1.heap.size) (hi : i < 64) (hs : (liveL D)[k]? = some ((i : Int) + 1)) (ht : tooLate T now (D ((i : Int) + 1)) = true) (o : Obj)
    (hown : w7.ownsRow w1.heap.size 3 1 v' ((lateK D T now k).length + 1) ((lateK D T now k).map idN ++ [.int .i64 ((i : Int) + 1)])) (hgr : ((wr.setCell ⟨g, 1 + i * 4, none⟩ (.bool false)).alloc o).grownBy w7 v.ownBlock) : LateJ w1 B g T O D now (k + 1) v' w7 := by
  have hne := h.other hg
  obtain ⟨hd, hr, hc⟩ := h
  have hlt : ∀ j, v.ownBlock = some j → w1.heap.size ≤ j := fun j e => (hr.lt j e).1
  have hd2 := hd.wrote hi 0 (by decide) (.bool false) (y := ⟨false, (offD D T now ((liveL D).take k) ((i : Int) + 1)).nx, (offD D T now ((liveL D).take k) ((i : Int) + 1)).out, (offD D T now ((liveL D).take k) ((i : Int) + 1)).last⟩) rfl
  rw [← offD_yes D T now _ ht, ← take_next hs] at hd2
  have hO := (hd.2.2.1)
  refine ⟨?_, ?_, ?_⟩
  · refine SdAt.kept (SdAt.carry hd2 (bel_new _ o)) (Chg.of_grown hgr) (fun j hj e => ?_)
    rw [(hO j).1 hj] at e
    exact hne e.symm
  · rw [lateK_yes hs ht]
    simpa [idN] using hown
  · refine Chg.grown ((Chg.trans (U := O) hc (hd.turned (1 + i * 4) (.bool false)) (fun _ _ e => e) (fun _ _ e => e)).alloc o) hgr (fun j hj e => ?_)
    have := hlt j e.symm
    omega
theorem LateJ.skip {w1 wr : World} {now : Int} {k : Nat} {v : Value} {s : Int} (h : LateJ w1 B g T O D now k v wr) (hs : (liveL D)[k]? = some s) (ht : tooLate T now (D s) = false) : LateJ w1 B g T O D now (k + 1) v wr := by
  obtain ⟨hd, hr, hc⟩ := h
  refine ⟨?_, ?_, hc⟩
  · rw [take_next hs, offD_not D T now _ ht]
    exact hd
  · rw [lateK_not hs ht]
    exact hr
theorem LateJ.done {w1 wr : World} {now : Int} {v : Value} (hb : Below w.heap.size w w1) (h : LateJ w1 B g T O D now (liveL D).length v wr) : SdLate w B g T O (lateD D T now) (lateL D T now) (.returned v) wr := by
  obtain ⟨hd, hr, hc⟩ := h
  have hk : lateK D T now (liveL D).length = lateL D T now := by
    unfold lateK
    rw [List.take_length, lateL_live]
  rw [hk] at hr
  rw [List.take_length] at hd
  obtain ⟨d1, d2, d3, d4⟩ := hd
  rw [deskC_ext T (fun s hs => offD_all D T now hs)] at d1
  exact ⟨v, rfl, own_wider hr hb.size, O, ⟨d1, d2, d3, d4⟩, Chg.trans (U := O) (Chg.of_below hb O) hc (fun _ _ e => e) (fun _ _ e => e), fun _ hj => .inl hj⟩
set_option maxRecDepth 100000 in
set_option maxHeartbeats 1000000 in
theorem sd_late (h : SdAt w B g T D O) (hm : Mild n D) (hn : n ≤ 1000) (now : Int) (h0 : 0 ≤ now) (h1 : now ≤ 1099511627776) : Calls Tryd.prog 14 #[.pointer (some ⟨g, 0, none⟩), .int .i64 now] w (SdLate w B g T O (lateD D T now) (lateL D T now)) := by
  have HL := Lib.hid (sd_live h hm hn)
  have hT0 := h.2.2.2.1
  have hT1 := h.2.2.2.2
  have hgw := h.1.there
  have HO := Lib.hid h.2.2.1
  have hlast := hm.last
  have H := Lib.hid h
  obtain ⟨i0, hi0, hz0, hz1, hz2⟩ := info_parts int_info
  have HI0 := Lib.hid hi0
  have HI1 := Lib.hid hz0
  have HI2 := Lib.hid hz1
  have HI3 := Lib.hid hz2
  clear hi0 hz0 hz1 hz2 h hm
  go_enter Tryd.func14, Tryd.ntmps14
  go_wp2_with (go_at_call 17; refine HL.out.mono ?_; rintro _ w1 ⟨vR, rfl, hR, hb1⟩; obtain ⟨AR, cR, eR⟩ := own_slice hR; subst eR)
  have HB1 := Lib.hid hb1
  have hg1 : g < w1.heap.size := Nat.lt_of_lt_of_le hgw hb1.size
  have HJ0 : Hid (LateJ w1 B g T O D now 0 (.slice none 0 0) w1) := by
    refine ⟨?_, World.ownsRow_nil _ _ _ _, Chg.refl _ _⟩
    rw [List.take_zero, offD_nil]
    exact H.out.carry hb1
  have HR : Hid (∀ wr, Chg O w1 wr → wr.ownsRow w.heap.size 3 1 (.slice AR (liveL D).length cR) (liveL D).length ((liveL D).map idN)) := Lib.hid fun wr hc => own_chg hR hc (fun k e ho => by
    have := (hR.lt k e).1
    rw [(HO.out k).1 ho] at this
    omega)
  have hlen : (liveL D).length ≤ 64 := by
    unfold liveL
    exact Nat.le_trans (List.length_filter_le _ _) (by rw [ids_len]; omega)
  obtain ⟨nR, hnR⟩ : ∃ nR, (liveL D).length = nR := ⟨_, rfl⟩
  have HN := Lib.hid hnR
  rw [hnR] at hlen HR ⊢
  clear hb1 hR hnR hgw
  go_loopw [5, 12] (fun v5 v12 wr => ∃ k : Nat, k ≤ nR ∧ v12 = .int .i64 (k : Int) ∧ Hid (LateJ w1 B g T O D now k v5 wr)) (fun _ v12 _ => nR - (intOf v12).toNat)
  case atStart => exact ⟨0, by omega, rfl, HJ0⟩
  case round =>
    obtain ⟨k, hk, rfl, hJ⟩ := hrel
    by_cases hlt : k < nR
    · have i1 : (0 : Int) ≤ (k : Int) := by omega
      have i2 : (k : Int) < (nR : Int) := by omega
      obtain ⟨s, hs⟩ : ∃ s, (liveL D)[k]? = some s := ⟨_, List.getElem?_eq_getElem (by rw [HN.out]; exact hlt)⟩
      obtain ⟨hon, i, hi, rfl⟩ := live_in hs
      have HS := Lib.hid hs
      rcases own_form (HR.out _ hJ.out.2.2) with ⟨_, e0⟩ | ⟨gR, c0, e0, _, hgR, _⟩
      · omega
      · injection e0 with e1 _ e2
        subst e1; subst e2
        have cs := own_cell (j := k) (u := .int .i64 ((i : Int) + 1)) (HR.out _ hJ.out.2.2) (by rw [List.getElem?_map, hs]; rfl)
        have ct := hJ.out.1.top
        obtain ⟨x, hx⟩ : ∃ x, (D ((i : Int) + 1)).last = x := ⟨_, rfl⟩
        have cl := hJ.out.1.cell hi (i := 1) (u := .int .i64 x) (by unfold seC; rw [offD_last, hx]; rfl)
        have hx2 := hlast ((i : Int) + 1)
        rw [hx] at hx2
        have HSI := Lib.hid (silent_any (w := wr) (g := g) (p := 1 + i * 4) cl hx2.1 hx2.2 h0 h1 hT0 hT1)
        have HK := Lib.hid (line_some (w := wr) (g := g) hi)
        have htl : tooLate T now (D ((i : Int) + 1)) = decide (x ≤ now - T) := by unfold tooLate; rw [hon, hx]; simp
        cases hb : decide (x ≤ now - T) with
        | false =>
          rw [hb] at htl HSI
          have HJ2 : Hid (LateJ w1 B g T O D now (k + 1) _ wr) := Lib.hid (hJ.out.skip hs htl)
          clear hs hx hb htl hon cl
          go_wp2_with ((first
            | (go_at_call 18; refine HK.out.mono ?_; rintro e w2 ⟨rfl, rfl⟩)
            | (go_at_call 26; refine HSI.out.mono ?_; rintro e w2 ⟨rfl, rfl⟩)))
          go_roundw
          case rel => exact ⟨k + 1, by omega, by go_num, HJ2⟩
          case measure => simp [intOf]; omega
        | true =>
          rw [hb] at htl HSI
          have c0 := hJ.out.1.cell0 hi
          have f0 := hJ.out.1.unmarked (1 + i * 4)
          generalize (offD D T now ((liveL D).take k) ((i : Int) + 1)).on = b0 at c0
          obtain ⟨A5, c5, e5⟩ := own_slice hJ.out.2.1
          subst e5
          have HST := Lib.hid (fun o v' w7 hown hgr => LateJ.step (v' := v') (w7 := w7) hJ.out hg1 hi hs htl o hown hgr)
          have HRW := Lib.hid (fun o => own_alloc (own_set hJ.out.2.1 ⟨g, 1 + i * 4, none⟩ (.bool false) (hJ.out.other hg1)) o)
          have hll := lateK_len D T now k
          have hsz := hJ.out.2.2.size
          generalize (lateK D T now k).length = m at HST HRW hll
          clear hs hx hb htl hon cl hJ
          go_wp2_with ((first
            | (go_at_call 18; refine HK.out.mono ?_; rintro e w2 ⟨rfl, rfl⟩)
            | (go_at_call 26; refine HSI.out.mono ?_; rintro e w2 ⟨rfl, rfl⟩)
            | (at_builtin; refine Hid.out ?_)))
          refine Lib.hid ?_
          refine wpList_append_own_at _ rfl (.tmp 29) (.tmp 31) _ rfl w1.heap.size 3 i0 _ 1 8 Tryd.underlying47 HI0.out HI1.out HI2.out HI3.out rfl (by omega) (.slice A5 m c5) m _ rfl (HRW.out _) ⟨_, 0, none⟩ 1 1 [.int .i64 ((i : Int) + 1)] rfl rfl (cells_new _ _ _ (by simp)) (id_one _) (by simp only [maxLen]; omega) (by omega) (by simp; omega) ?_
          intro v7 w7 hown7 hgr7 _ _
          have HK2 := Lib.hid (HST.out _ _ _ hown7 hgr7)
          clear hown7 hgr7 HST HRW
          go_wp2_with fail
          go_roundw
          case rel => exact ⟨k + 1, by omega, by go_num, HK2⟩
          case measure => simp [intOf]; omega
    · obtain rfl : k = nR := by omega
      have HD : Hid (SdLate w B g T O (lateD D T now) (lateL D T now) _ wr) := Lib.hid (LateJ.done HB1.out (by have := hJ.out; rw [← HN.out] at this; exact this))
      go_wp2_with fail
      go_ret
      exact HD.out
end
end Go.Proofs.YtpkkhmbcbcaelaaDoor
