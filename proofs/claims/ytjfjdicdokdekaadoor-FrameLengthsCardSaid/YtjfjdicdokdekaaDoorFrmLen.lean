/- straddlelaw5.FrameLengths returns true. -/
import Derived.Test.YtjfjdicdokdekaaDoorFrmTell
set_option linter.unusedSimpArgs false
namespace Go.Proofs.YtjfjdicdokdekaaDoor
open Go.RowKit Go.Mem1

set_option maxRecDepth 100000 in
set_option maxHeartbeats 1000000 in
theorem len_early (x : Int) (w : World) (hg : ErrType w) (hT : Halves w) (h : x < 1000 ∨ 1050 < x) :
    Calls Tryd.prog 6 #[.int .i64 x] w fun e w' => e = .returned (.bool true) ∧ Below w.heap.size w w' := by
  have HK := Lib.hid (fknown_ok w hg hT)
  clear hg hT
  by_cases h1 : x < 1000
  · clear h
    go_enter Tryd.func6, Tryd.ntmps6
    go_wp2_with (go_at_call 9; refine HK.out.mono ?_; rintro e w1 ⟨rfl, hb1⟩)
    go_ret
    exact ⟨rfl, hb1⟩
  · have h2 : 1050 < x := h.resolve_left h1
    clear h
    go_enter Tryd.func6, Tryd.ntmps6
    go_wp2_with (go_at_call 9; refine HK.out.mono ?_; rintro e w1 ⟨rfl, hb1⟩)
    go_ret
    exact ⟨rfl, hb1⟩
set_option maxRecDepth 100000 in
set_option maxHeartbeats 1000000 in
theorem len_long (n : Nat) (w : World) (hg : ErrType w) (hT : Halves w) (h1 : 1024 < n) (h2 : n ≤ 1050) :
    Calls Tryd.prog 6 #[.int .i64 (n : Int)] w fun e w' => e = .returned (.bool true) ∧ Below w.heap.size w w' := by
  obtain ⟨i0, hi0, hz0, hz1, hz2⟩ := info_parts u8_info
  have hgl := hg.lt
  have HK := Lib.hid (fknown_ok w hg hT)
  have HG := Lib.hid hg
  clear hg hT
  have i1 : ¬ (n : Int) < 1000 := by omega
  have i2 : ¬ (1050 : Int) < (n : Int) := by omega
  have i3 : (1024 : Int) < (n : Int) := by omega
  go_enter Tryd.func6, Tryd.ntmps6
  go_wp2_with (first
    | (go_at_call 9; refine HK.out.mono ?_; rintro e w1 ⟨rfl, B1⟩)
    | (at_make
       refine wpList_make_full _ rfl _ _ 22 rfl w1.heap.size 5 i0 (.int .u8 0) 1 Tryd.underlying22 hi0 hz0 hz1 .i64 .i64 _ _ n rfl rfl rfl rfl (by rw [hz2]; omega) (by unfold maxLen; omega) (Nat.le_refl _) ?_
       intro w2 hown2 hg2
       have B2 : Below w1.heap.size w1 w2 := (Below.refl _ _).grown hg2 (Nat.le_refl _) (by simp)
       clear hown2 hg2)
    | (go_at_call 20; refine Hid.out ?_))
  refine Lib.hid ?_
  refine (wrap_long _ n _ (List.replicate n 0) w2 (by omega) (by simp)).mono ?_
  rintro e w3 ⟨B3, ⟨hno, _⟩ | ⟨_, b, rfl, hE⟩⟩
  · simp at hno; omega
  have B03 : Below w.heap.size w w3 := bel_trans (bel_trans B1 B2) B3
  have HE := Lib.hid hE
  clear hE B1 B2 B3
  go_wp2_with fail
  refine (fAt_any _ _ _ _).mono ?_
  rintro e w4 ⟨A4, n4, c4, rfl, hp4, B4⟩
  have B04 := bel_trans B03 B4
  have hE4 := (HE.out.carry B4).wider B4.size
  have htl := tells_frame 0 4 A4 n4 c4 b w4 ((B04.cell (p := ⟨0, 0, none⟩) hgl).trans HG.out) hE4 hp4 (by decide) (by decide) (by decide)
  have HTL := Lib.hid htl
  clear hp4 hE4 htl B4
  go_wp2_with (go_at_call 15; refine Hid.out ?_)
  refine Lib.hid ?_
  refine HTL.out.mono ?_
  rintro e w5 ⟨rfl, B5⟩
  have HB := Lib.hid (bel_trans B04 B5)
  go_wp2_with fail
  go_ret
  exact ⟨rfl, HB.out⟩
theorem made_zero (n : Nat) : (madeCells #[Value.int .u8 0] (n * 1)).toList = (List.replicate n 0).map bv := by
  rw [Nat.mul_one, toList_madeCells_one, List.map_replicate]; rfl
set_option maxRecDepth 100000 in
set_option maxHeartbeats 1000000 in
theorem len_ok (n : Nat) (w : World) (hg : ErrType w) (hT : Halves w) (h1 : 1000 ≤ n) (h2 : n ≤ 1024) :
    Calls Tryd.prog 6 #[.int .i64 (n : Int)] w fun e w' => e = .returned (.bool true) ∧ Below w.heap.size w w' := by
  obtain ⟨i0, hi0, hz0, hz1, hz2⟩ := info_parts u8_info
  have hgl := hg.lt
  have HK := Lib.hid (fknown_ok w hg hT)
  have HG := Lib.hid hg
  have HT := Lib.hid hT
  clear hg hT
  have i1 : ¬ (n : Int) < 1000 := by omega
  have i2 : ¬ (1050 : Int) < (n : Int) := by omega
  have i3 : ¬ (1024 : Int) < (n : Int) := by omega
  go_enter Tryd.func6, Tryd.ntmps6
  go_wp2_with (first
    | (go_at_call 9; refine HK.out.mono ?_; rintro e w1 ⟨rfl, B1⟩)
    | (at_make
       refine wpList_make_full _ rfl _ _ 22 rfl w1.heap.size 5 i0 (.int .u8 0) 1 Tryd.underlying22 hi0 hz0 hz1 .i64 .i64 _ _ n rfl rfl rfl rfl (by rw [hz2]; omega) (by unfold maxLen; omega) (Nat.le_refl _) ?_
       intro w2 hown2 hg2
       have B2 : Below w1.heap.size w1 w2 := (Below.refl _ _).grown hg2 (Nat.le_refl _) (by simp)
       have hy2 : Byt w2 w2.heap.size (some ⟨w1.heap.size, 0, none⟩) n (List.replicate n 0) := Byt.ofOwn (by rw [← made_zero]; exact hown2) (fun x hx => by have := List.eq_of_mem_replicate hx; omega)
       have HY2 := Lib.hid hy2
       clear hown2 hg2 hy2)
    | (go_at_call 20; refine Hid.out ?_))
  refine Lib.hid ?_
  have B02 : Below w.heap.size w w2 := bel_trans B1 B2
  refine (wrap_any _ n _ _ w2 (HT.out.below B02) (by intro h; cases h) HY2.out).mono ?_
  rintro e w3 ⟨B3, ⟨_, A3, c3, rfl, hc3, hy3⟩ | ⟨hno, _⟩⟩
  rotate_left
  · simp at hno; omega
  have hll : (List.replicate n 0).length = n := by simp
  have B03 : Below w.heap.size w w3 := bel_trans B02 B3
  have hrun := FM.run_wrap (s := FM.fs0) rfl rfl (l := List.replicate n 0) (by rw [hll]; exact h2)
  have hall := all_ok A3 _ c3 _ [List.replicate n 0] w3 ((B03.cell (p := ⟨0, 0, none⟩) hgl).trans HG.out) (HT.out.below B03) (by rw [hll]; omega) hc3 hy3 (by rw [hrun]; rfl) (by rw [hrun]; rfl) (by rw [hrun]; rfl)
  rw [hll] at hall ⊢
  have HA := Lib.hid hall
  clear hall hrun hy3 hc3 B1 B2 B3 B02 HY2 hll
  go_wp2_with (go_at_call 18; refine Hid.out ?_)
  refine Lib.hid ?_
  refine HA.out.mono ?_
  rintro e w4 ⟨B4, A4, c4, rfl, hc4, hp4⟩
  obtain ⟨b5, o5, A5, n5, c5, l5, rfl, hb5, hl5, hcell5, _, hy5⟩ := hp4.at_ (k := 0) (by simp)
  rw [Nat.add_zero] at hcell5
  have hn5 : n5 = n := by
    have h1 := hy5.len
    have h2 : l5 = List.replicate n 0 := (Option.some.inj hl5).symm
    rw [h2] at h1; simpa using h1.symm
  subst hn5
  have HB := Lib.hid (bel_trans B03 B4)
  clear hy5 hp4 hl5 B4 B03 HA
  go_wp2_with fail
  go_ret
  exact ⟨rfl, HB.out⟩
end Go.Proofs.YtjfjdicdokdekaaDoor
