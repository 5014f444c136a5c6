/- The landed desk's contracts: Live, Late. -/
import Derived.Test.YtpkkhmbcbcaelaaDoorSesIn
import Derived.Test.YtpkkhmbcbcaelaaDoorStepAt
set_option linter.unusedSimpArgs false
namespace Go.Proofs.YtpkkhmbcbcaelaaDoor
open Go.RowKit Go.Mem1 Go.SesMath
/-- Of the first k sessions those of which f says so. -/
def firstL (f : Int → Bool) (k : Nat) : List Int := ((List.range k).map fun (j : Nat) => (j : Int) + 1).filter f
theorem int_info : (Tryd.prog.info? 3).map (fun i => (i.zero, i.size, i.bytes)) = some (some (.int .i64 0), 1, 8) := by kernel_rfl
theorem id_one (s : Int) : ∀ u ∈ [Value.int .i64 s], u.oneCell' = true := by
  intro u hu
  simp at hu
  subst hu
  rfl
theorem firstL_all (f : Int → Bool) : firstL f 64 = ids.filter f := rfl
theorem firstL_one {f : Int → Bool} {k : Nat} (h : f ((k : Int) + 1) = true) : firstL f (k + 1) = firstL f k ++ [(k : Int) + 1] := by
  unfold firstL
  rw [List.range_succ, List.map_append, List.filter_append]
  simp [h]
theorem firstL_not {f : Int → Bool} {k : Nat} (h : f ((k : Int) + 1) = false) : firstL f (k + 1) = firstL f k := by
  unfold firstL
  rw [List.range_succ, List.map_append, List.filter_append]
  simp [h]
theorem firstL_len (f : Int → Bool) (k : Nat) : (firstL f k).length ≤ k := by
  unfold firstL
  exact Nat.le_trans (List.length_filter_le _ _) (by simp)
section
variable {w w' : World} {B g : Nat} {T : Int} {D : Sk} {O : Nat → Prop} {n : Int}
/-- Live's state at the head of a round. -/
def LiveJ (w : World) (f : Int → Bool) (k : Nat) (v : Value) (wr : World) : Prop := wr.ownsRow w.heap.size 3 1 v (firstL f k).length ((firstL f k).map idN) ∧ Below w.heap.size w wr
theorem LiveJ.step {w wr w1 w7 : World} {f : Int → Bool} {k : Nat} {v v' : Value} (h : LiveJ w f k v wr) (hf : f ((k : Int) + 1) = true) (hb : Below wr.heap.size wr w1) (o : Obj) (hown : w7.ownsRow w.heap.size 3 1 v' ((firstL f k).length + 1) ((firstL f k).map idN ++ [.int .i64 ((k : Int) + 1)])) (hgr : (w1.alloc o).grownBy w7 v.ownBlock) : LiveJ w f (k + 1) v' w7 := by
  obtain ⟨h1, h2⟩ := h
  have hb1 : Below wr.heap.size wr (w1.alloc o) := bel_alloc hb o
  have r1 := own_keep h1 hb1
  have hC := Chg.of_grown hgr
  refine ⟨?_, ?_⟩
  · rw [firstL_one hf]
    simpa [idN] using hown
  · exact Chg.toBelow (bel_trans h2 hb1) hC (by have := hb1.size; have := h2.size; omega) (fun i hi e => by have := (r1.lt i e.symm).1; omega)
set_option maxRecDepth 100000 in
set_option maxHeartbeats 1000000 in
theorem sd_live (h : SdAt w B g T D O) (hm : Mild n D) (hn : n ≤ 1000) : Calls Tryd.prog 17 #[.pointer (some ⟨g, 0, none⟩)] w (SdLive w (liveL D)) := by
  have HO := Lib.hid (fun w' (hb : Below w.heap.size w w') s => sd_on (h.carry hb) hm hn s)
  clear h hm hn
  obtain ⟨i0, hi0, hz0, hz1, hz2⟩ := info_parts int_info
  have HI0 := Lib.hid hi0
  have HI1 := Lib.hid hz0
  have HI2 := Lib.hid hz1
  have HI3 := Lib.hid hz2
  have HJ0 : Hid (LiveJ w (onD D) 0 (.slice none 0 0) w) := ⟨World.ownsRow_nil _ _ _ _, Below.refl _ _⟩
  clear hi0 hz0 hz1 hz2
  go_enter Tryd.func17, Tryd.ntmps17
  go_wp2_with fail
  go_loopw [3, 4] (fun v3 v4 wr => ∃ k : Nat, k ≤ 64 ∧ v4 = .int .i64 ((k : Int) + 1) ∧ Hid (LiveJ w (onD D) k v3 wr)) (fun _ v4 _ => 65 - (intOf v4).toNat)
  case atStart => exact ⟨0, by omega, rfl, HJ0⟩
  case round =>
    obtain ⟨k, hk, rfl, hJ⟩ := hrel
    by_cases hlt : k < 64
    · have i1 : decide ((k : Int) + 1 ≤ 64) = true := by simp; omega
      have hb := hJ.out.2
      have HOk := Lib.hid (HO.out _ hb ((k : Int) + 1))
      cases hf : onD D ((k : Int) + 1) with
      | false =>
        rw [hf] at HOk
        have HN : Hid (∀ w1, Below _ _ w1 → LiveJ w (onD D) (k + 1) _ w1) := Lib.hid (fun w1 hb1 => ⟨by rw [firstL_not hf]; exact own_keep hJ.out.1 hb1, bel_trans hb hb1⟩)
        clear hf hb
        go_wp2_with (go_at_call 15; refine HOk.out.mono ?_; rintro e w1 ⟨rfl, hb1⟩; replace hb1 := Lib.hid hb1)
        go_roundw
        case rel => exact ⟨k + 1, by omega, by go_num, HN.out _ hb1.out⟩
        case measure => simp [intOf]; omega
      | true =>
        rw [hf] at HOk
        obtain ⟨A5, c5, e5⟩ := own_slice hJ.out.1
        subst e5
        have HST := Lib.hid (fun w1 (hb : Below wr.heap.size wr w1) o v' w7 hown hgr => LiveJ.step (w1 := w1) (w7 := w7) (v' := v') hJ.out hf hb o hown hgr)
        have HR := Lib.hid (fun w1 (hb : Below wr.heap.size wr w1) o => own_alloc (own_keep hJ.out.1 hb) o)
        have hlen := firstL_len (onD D) k
        generalize (firstL (onD D) k).length = m at HST HR hlen hJ
        have hsz := hb.size
        clear hf hb hJ
        go_wp2_with (go_at_call 15; refine HOk.out.mono ?_; rintro e w1 ⟨rfl, hb1⟩; replace hb1 := Lib.hid hb1; go_wp2_with (at_builtin; refine Hid.out ?_))
        refine Lib.hid ?_
        refine wpList_append_own_at _ rfl (.tmp 12) (.tmp 14) _ rfl w.heap.size 3 i0 _ 1 8 Tryd.underlying47 HI0.out HI1.out HI2.out HI3.out rfl (by omega) (.slice A5 m c5) m _ rfl (HR.out _ hb1.out _) ⟨_, 0, none⟩ 1 1 [.int .i64 ((k : Int) + 1)] rfl rfl (cells_new _ _ _ (by simp)) (id_one _) (by simp only [maxLen]; omega) (by omega) (by have := hb1.out.size; simp; omega) ?_
        intro v7 w7 hown7 hgr7 _ _
        have HK2 := Lib.hid (HST.out _ hb1.out _ _ _ hown7 hgr7)
        clear hown7 hgr7 HST HR
        go_wp2_with fail
        go_roundw
        case rel => exact ⟨k + 1, by omega, by go_num, HK2⟩
        case measure => simp [intOf]; omega
    · obtain rfl : k = 64 := by omega
      have i1 : decide ((((64 : Nat) : Int)) + 1 ≤ 64) = false := by decide
      go_wp2_with fail
      go_ret
      exact ⟨_, rfl, hJ.out.1, hJ.out.2⟩
end
end Go.Proofs.YtpkkhmbcbcaelaaDoor
