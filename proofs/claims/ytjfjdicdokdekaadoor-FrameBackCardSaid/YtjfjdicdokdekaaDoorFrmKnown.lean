/- The frames of straddlelaw5's known; texts. -/
import Derived.Test.YtjfjdicdokdekaaDoorFrmAll
set_option linter.unusedSimpArgs false
namespace Go.Proofs.YtjfjdicdokdekaaDoor
open Go.RowKit Go.Mem1

set_option maxRecDepth 100000 in
theorem FM.ab3 : (FM.wrapL [97, 98]).take 3 = [2, 0, 97] := by unfold FM.wrapL; simp
theorem FM.run_ab3 (k : Nat) (out : List (List Nat)) (p : List (ByteArray × Int)) : FM.run ⟨[], k, out, 0, p⟩ [2, 0, 97] = ⟨[2, 0, 97], k, out, 0, p⟩ := by
  simp [FM.run, FM.step, FM.look, FM.size]
theorem FM.known1 {W : List Nat} (hW : W = FM.wrapL [97, 98]) : FM.run { FM.fs0 with out := [] } (W ++ W.take 3) = ⟨[2, 0, 97], 1, [[97, 98]], 0, []⟩ := by
  have h := FM.run_wrap (s := { FM.fs0 with out := [] }) rfl rfl (l := [97, 98]) (by decide)
  rw [← hW] at h
  rw [FM.run_append, h, hW, FM.ab3]
  exact FM.run_ab3 _ _ _
theorem FM.known2 {W : List Nat} (hW : W = FM.wrapL [97, 98]) : FM.run ⟨[2, 0, 97], 1, [], 0, []⟩ (W.drop 3) = ⟨[], 2, [[97, 98]], 0, []⟩ := by
  have h := FM.run_wrap (s := ⟨[], 1, [], 0, []⟩) rfl rfl (l := [97, 98]) (by decide)
  rw [← hW] at h
  have h2 := FM.run_append ⟨[], 1, [], 0, []⟩ (W.take 3) (W.drop 3)
  rw [List.take_append_drop, h, hW, FM.ab3, FM.run_ab3] at h2
  rw [hW]
  exact h2.symm
theorem bods_rest {w5 w7 : World} {base n B g : Nat} {R : Option Nat} {v : Value} {vs : List Value} {ls : List (List Nat)} {s : FM.FS} (ho : w5.ownsRow base 22 1 v n vs) (hg : g < base) (hb : BodsAt w5 vs ls (StrSet g R)) (hS : StrAt w5 B g R s) (hC : Chg (StrSet g R) w5 w7) :
    w7.ownsRow base 22 1 v n vs ∧ BodsAt w7 vs ls (StrSet g R) := by
  refine ⟨own_chg ho hC (fun k hk hs => ?_), hb.kept hC (fun _ _ _ hs => hs)⟩
  rcases hs with hs | hs
  · have := (ho.lt k hk).1; omega
  · obtain ⟨A, c, v, hr, _, hox, _⟩ := hS
    exact own_apart ho hox (by decide) k hk (by rw [← hr, ← hs])
set_option maxRecDepth 100000 in
set_option maxHeartbeats 1000000 in
theorem fknown_ok (w : World) (hg : ErrType w) (hT : Halves w) :
    Calls Tryd.prog 9 #[] w fun e w' => e = .returned (.bool true) ∧ Below w.heap.size w w' := by
  obtain ⟨i0, hi0, hz0, hz1, hz2⟩ := info_parts u8_info
  have hgl := hg.lt
  have htl := hT.lt
  have HG := Lib.hid hg
  have HT := Lib.hid hT
  have kc := conv_const
  clear hg hT
  obtain ⟨W, hW⟩ : ∃ W, W = FM.wrapL [97, 98] := ⟨_, rfl⟩
  have hWl : W.length = 8 := by rw [hW]; rfl
  have HWe := Lib.hid hW
  go_enter Tryd.func9, Tryd.ntmps9
  go_wp2_with fail
  refine (wrap_any _ 2 _ [97, 98] _ (HT.out.alloc _) (by intro h; cases h) (Byt.made w _ _ 2 [97, 98] rfl rfl (by decide) rfl)).mono ?_
  rintro e w1 ⟨hbel1, ⟨_, A1, c1, rfl, hc1, hy1⟩ | ⟨hno, _⟩⟩
  rotate_left
  · simp at hno
  have B1 : Below w.heap.size w w1 := bel_trans (bel_new _ _) hbel1
  rw [← hW] at hy1
  have hy1' : Byt w1 w1.heap.size A1 8 W := hy1
  have hc1' : 8 ≤ c1 := hc1
  obtain ⟨b1, o1, rfl, hb1, _⟩ := hy1'.rd.cells (by omega)
  have HY1 := Lib.hid hy1'
  have hc3 : ¬ c1 = 3 := by omega
  have i8 : (8 : Int) ≤ (c1 : Int) := by omega
  clear hbel1 hy1 hc1 hy1'
  go_wp2_with (go_at_call 10; refine Hid.out ?_)
  refine Lib.hid ?_
  refine (frmNew w1).mono ?_
  rintro e w2 ⟨rfl, hS2, B2⟩
  have HS2 := Lib.hid hS2
  have ht2 := hS2.there.2
  clear hS2
  go_wp2_with fail
  have hyc := fun (w' : World) (h : Below w1.heap.size w1 w') => HY1.out.carry h
  have HYC := Lib.hid hyc
  have hnc := HY1.out.nil_cap (c := c1) (by omega)
  have i3 : (3 : Int) ≤ (c1 : Int) := by omega
  have B2d : Below w1.heap.size w1 w2.drew := B2.drew
  have own0 := World.ownsRow_made (e := 5) (base := w2.heap.size) (size := 1) w2.drew #[] 0 (Nat.le_refl _) (by simp [maxLen]) rfl
  have b2n := bel_new w2.drew (.cells #[] 5)
  have OW0 := Lib.hid own0
  have hf1 := fun (w' : World) (A : Option Addr) (c : Nat) (hb : Below w2.heap.size w2 w') (ho : w'.ownsRow w2.heap.size 5 1 (.slice A (0 + 8 + 3) c) (0 + 8 + 3) ([] ++ W.map bv ++ (W.take 3).map bv)) =>
    strFeed A 11 c (W ++ W.take 3) (w := w') (B := w1.heap.size) (g := w1.heap.size) (R := none) (s := FM.fs0) (((bel_trans (bel_trans B1 B2) hb).cell (p := ⟨0, 0, none⟩) hgl).trans HG.out) (HT.out.below (bel_trans (bel_trans B1 B2) hb)) (HS2.out.carry hb) (.inl FM.fs0_live) (by omega) (own_cap ho) (by simp [FM.fs0]) ⟨Nat.lt_of_lt_of_le htl B1.size, Nat.lt_of_lt_of_le hgl B1.size⟩
      (Byt.ofOwn (by simpa using ho) (by intro x hx; rcases List.mem_append.1 hx with h | h; exact HY1.out.bnd x h; exact HY1.out.bnd x (List.mem_of_mem_take h)))
      (fun b o e hn hs => by
        have hlt := (ho.lt b (by rw [e]; rfl)).1
        rcases hs with hs | hs
        · have := HS2.out.there; omega
        · cases hs)
  rw [FM.known1 hW] at hf1
  have HF1 := Lib.hid hf1
  clear hf1
  have HBN := Lib.hid b2n
  clear hyc own0 b2n
  go_region_law (first
    | (refine step_append rfl (.tmp 31) (.tmp 32) _ rfl w2.heap.size 5 i0 _ 1 Tryd.underlying22 hi0 hz0 hz1 hz2 rfl (.slice (some ⟨w2.heap.size, 0, none⟩) 0 0) 0 [] rfl OW0.out (some ⟨b1, o1, none⟩) 8 c1 hnc (W.map bv) rfl (HYC.out _ (bel_trans B2d HBN.out)).rd (oneCell_bv _) (by simp only [maxLen]; omega) (by omega) (by simp) ?_; intro v3 w3 hown3 hgr3 _; obtain ⟨A3, c3, rfl⟩ := own_slice hown3; have HO3 := Lib.hid hown3; have hb3 : Below w2.heap.size w2 w3 := (show Below w2.heap.size w2 _ from (Below.refl _ _).drew.trans HBN.out).grown hgr3 (by simp) (by simp [Value.ownBlock]); have HB3 := Lib.hid hb3; clear hown3 hgr3 hb3)
    | (refine step_append rfl (.tmp 33) (.tmp 35) _ rfl w2.heap.size 5 i0 _ 1 Tryd.underlying22 hi0 hz0 hz1 hz2 rfl (.slice A3 (0 + 8) c3) (0 + 8) _ rfl HO3.out (some ⟨b1, o1, none⟩) 3 c1 hnc ((W.take 3).map bv) rfl ((HYC.out _ (bel_trans B2 HB3.out)).head (by omega)).rd (oneCell_bv _) (by simp only [maxLen]; omega) (by omega) HB3.out.size ?_; intro v4 w4 hown4 hgr4 _; obtain ⟨A4, c4, rfl⟩ := own_slice hown4; have HO4 := Lib.hid hown4; have hb4 : Below w2.heap.size w2 w4 := HB3.out.grown hgr4 HB3.out.size (fun k hk => (HO3.out.lt k hk).1); have HB4 := Lib.hid hb4; clear hown4 hgr4 hb4)
    | (go_simp; go_at_call 12; refine (HF1.out w4 A4 c4 HB4.out HO4.out).mono ?_; rintro e w5 ⟨A5, c5, ev5, rfl, hI5, hE5⟩; have HI5 := Lib.hid hI5; have HE5 := Lib.hid hE5; clear hI5 hE5; dsimp only))
  all_goals
    obtain ⟨R5, hS5, hRo5, hC5, vs5, hown5, hbods5⟩ := HI5.out
    obtain rfl := HE5.out.1 rfl
    have hW1 : Below w1.heap.size w1 w4 := bel_trans B2 HB4.out
    have hoff5 : ∀ i, i < w1.heap.size → ¬ StrSet w1.heap.size R5 i := fun i hi hs => by
      rcases hs with hs | hs
      · omega
      · have := (hS5.row i hs.symm).1; omega
    have hb45 : Below w1.heap.size w4 w5 := hC5.small hW1.size (fun i hi hs => by
      rcases hs with hs | hs
      · omega
      · cases hs)
    have B15 : Below w1.heap.size w1 w5 := hW1.trans hb45
    have hf2 := strFeed (some ⟨b1, o1 + 3, none⟩) 5 (c1 - 3) (W.drop 3) (w := w5) (B := w1.heap.size) (g := w1.heap.size) (R := R5) (s := ⟨[2, 0, 97], 1, [[97, 98]], 0, []⟩) (((bel_trans B1 B15).cell (p := ⟨0, 0, none⟩) hgl).trans HG.out) (HT.out.below (bel_trans B1 B15)) hS5 (.inl ⟨rfl, fun _ => by simp [FM.size]⟩) (by omega) (by omega) (by simp) ⟨Nat.lt_of_lt_of_le htl B1.size, Nat.lt_of_lt_of_le hgl B1.size⟩
      (((HY1.out.carry B15).cut (k := 3) (by omega)).wider B15.size) (fun b o e _ => by injection e with e; injection e with e1 _; subst e1; exact hoff5 _ hb1)
    rw [FM.known2 hW] at hf2
    have HF2 := Lib.hid hf2
    have HH5 := Lib.hid (strHeld hS5)
    have HS5 := Lib.hid hS5
    have HOW5 := Lib.hid hown5
    have HBD5 := Lib.hid hbods5
    have HC5 := Lib.hid hC5
    clear hf2 hS5 hown5 hbods5 hC5 hRo5 HI5 HE5 HF1 HO4 HO3 HBN OW0
    go_wp2_with fail
    refine HH5.out.mono ?_
    rintro e w6 ⟨rfl, rfl⟩
    go_wp2_with fail
    refine HF2.out.mono ?_
    rintro e w7 ⟨A7, c7, ev7, rfl, hI7, hE7⟩
    obtain rfl := hE7.1 rfl
    obtain ⟨R7, hS7, hRo7, hC7, vs7, hown7, hbods7⟩ := hI7
    obtain ⟨ho7, hb7⟩ := bods_rest HOW5.out (show w1.heap.size < w4.heap.size from Nat.lt_of_lt_of_le ht2 HB4.out.size) HBD5.out HS5.out hC7
    have hb57 : Below w1.heap.size w5 w7 := hC7.small B15.size hoff5
    have B17 : Below w1.heap.size w1 w7 := B15.trans hb57
    have hp7 : Parts w7 w7.heap.size A5 1 [[97, 98]] := hb7.parts (Rd.ofOwn ho7)
    have HP7 := Lib.hid hp7
    have HS7 := Lib.hid hS7
    clear hE7 hS7 hRo7 hC7 hown7 hbods7 ho7 hb7 hp7 HOW5 HBD5 HS5 hb57 HF2 HH5
    go_wp2_with (first
      | (at_make
         refine wpList_make_full _ rfl _ _ 22 rfl w7.heap.size 5 i0 (.int .u8 0) 1 Tryd.underlying22 hi0 hz0 hz1 .i64 .i64 _ _ 1025 rfl rfl rfl rfl (by rw [hz2]; omega) (by unfold maxLen; omega) (Nat.le_refl _) ?_
         intro w8 hown8 hg8
         have hb8 : Below w7.heap.size w7 w8 := (Below.refl _ _).grown hg8 (Nat.le_refl _) (by simp)
         clear hown8 hg8)
      | (go_at_call 20; refine Hid.out ?_))
    refine Lib.hid ?_
    refine (wrap_long _ 1025 _ (List.replicate 1025 0) w8 (by omega) (by simp)).mono ?_
    rintro e w9 ⟨hb89, ⟨hno, _⟩ | ⟨_, b9, rfl, _⟩⟩
    · simp at hno
    have hb79 : Below w7.heap.size w7 w9 := bel_trans hb8 hb89
    have hp9 : Parts w9 w9.heap.size A5 1 [[97, 98]] := by
      obtain ⟨vs, h1, h2, h3⟩ := (HP7.out.carry hb79).ex
      exact ⟨vs, h1.wider hb79.size, h2, fun i v l hv hl => by
        obtain ⟨A1, n1, c1, e, h4, h5⟩ := h3 i v l hv hl
        exact ⟨A1, n1, c1, e, h4, h5.wider hb79.size⟩⟩
    obtain ⟨bx, ox, Ax, nx, cx, lx, rfl, hbx, hlx, hcx, _, hyx⟩ := hp9.at_ (k := 0) (by omega)
    obtain rfl : lx = [97, 98] := (Option.some.inj hlx).symm
    have ks := fun (w' : World) (hb : Below w9.heap.size w9 w') => conv_str (hyx.carry hb) cx
    rw [show strOf [97, 98] = ⟨#[97, 98]⟩ from rfl] at ks
    have hS9 := HS7.out.carry hb79
    have B19 : Below w.heap.size w w9 := (bel_trans B1 B17).trans (hb79.mono (bel_trans B1 B17).size)
    have hge : ErrType w9 := (B19.cell (p := ⟨0, 0, none⟩) hgl).trans HG.out
    rw [Nat.add_zero] at hcx
    have HS9 := Lib.hid hS9
    have HGE := Lib.hid hge
    have HB19 := Lib.hid B19
    have ks9 := ks w9 (Below.refl _ _)
    clear hp9 hyx hS9 B19 hge HP7 HS7 hb8 hb89 hb79 ks
    go_wp2_with (go_at_call 17; refine Hid.out ?_)
    refine Lib.hid ?_
    refine (strHeld HS9.out).mono ?_
    rintro e w10 ⟨rfl, rfl⟩
    go_wp2_with (go_at_call 16; refine Hid.out ?_)
    refine Lib.hid ?_
    refine (strErr HGE.out HS9.out).mono ?_
    rintro e w11 ⟨B11, ev, rfl, hO⟩
    obtain rfl := hO.1 rfl
    have HB11 := Lib.hid (bel_trans HB19.out B11)
    clear hO B11
    go_wp2_with fail
    go_ret
    exact ⟨rfl, HB11.out⟩
end Go.Proofs.YtjfjdicdokdekaaDoor
