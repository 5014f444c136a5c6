/- straddlelaw5.FrameDead returns true. -/
import Derived.Test.YtjfjdicdokdekaaDoorFrmTell
set_option linter.unusedSimpArgs false
namespace Go.Proofs.YtjfjdicdokdekaaDoor
open Go.RowKit Go.Mem1

set_option maxRecDepth 100000 in
set_option maxHeartbeats 1000000 in
theorem dead_early (A A2 : Option Addr) (n c n2 c2 : Nat) (w : World) (hg : ErrType w) (hT : Halves w) (h : 10 < n ∨ 300 < n2) :
    Calls Tryd.prog 5 #[.slice A n c, .slice A2 n2 c2] w fun e w' => e = .returned (.bool true) ∧ Below w.heap.size w w' := by
  have HK := Lib.hid (fknown_ok w hg hT)
  clear hg hT
  by_cases h1 : 10 < n
  · clear h
    go_enter Tryd.func5, Tryd.ntmps5
    go_wp2_with (go_at_call 9; refine HK.out.mono ?_; rintro e w1 ⟨rfl, hb1⟩)
    go_ret
    exact ⟨rfl, hb1⟩
  · have h2 : 300 < n2 := h.resolve_left h1
    clear h
    go_enter Tryd.func5, Tryd.ntmps5
    go_wp2_with (go_at_call 9; refine HK.out.mono ?_; rintro e w1 ⟨rfl, hb1⟩)
    go_ret
    exact ⟨rfl, hb1⟩
/-- The bytes of so many frames, in a row of the law's own. -/
def RowI (w0 : World) (ls : List (List Nat)) (k : Nat) (v : Value) (wr : World) : Prop :=
  ∃ A m c, v = .slice A m c ∧ wr.ownsRow w0.heap.size 5 1 (.slice A m c) m (((ls.take k).flatMap FM.wrapL).map bv) ∧ Below w0.heap.size w0 wr ∧ (∀ l ∈ ls.take k, l.length ≤ 300) ∧ m ≤ 306 * k
theorem wraps_bnd {ls : List (List Nat)} (h : ∀ l ∈ ls, ∀ x ∈ l, x < 256) : ∀ x ∈ ls.flatMap FM.wrapL, x < 256 := by
  intro x hx
  obtain ⟨l, hl, hx⟩ := List.mem_flatMap.1 hx
  exact FM.wrapL_bnd (h l hl) x hx
theorem wraps_step {ls : List (List Nat)} {k : Nat} {l : List Nat} (h : ls[k]? = some l) : (ls.take (k + 1)).flatMap FM.wrapL = (ls.take k).flatMap FM.wrapL ++ FM.wrapL l := by
  obtain ⟨hk, rfl⟩ := List.getElem?_eq_some_iff.1 h
  rw [List.take_succ_eq_append_getElem hk, List.flatMap_append]
  simp
theorem Parts.bnd {w : World} {B : Nat} {A : Option Addr} {n : Nat} {ls : List (List Nat)} (h : Parts w B A n ls) : ∀ l ∈ ls, ∀ x ∈ l, x < 256 := by
  obtain ⟨vs, _, hlen, hat⟩ := h.ex
  intro l hl x hx
  obtain ⟨i, hi, rfl⟩ := List.getElem_of_mem hl
  obtain ⟨_, _, _, _, _, hb⟩ := hat i (vs[i]'(by omega)) ls[i] (List.getElem?_eq_getElem _) (List.getElem?_eq_getElem _)
  exact hb.bnd x hx
theorem Parts.wider {w : World} {B B' : Nat} {A : Option Addr} {n : Nat} {ls : List (List Nat)} (h : Parts w B A n ls) (hB : B ≤ B') : Parts w B' A n ls := by
  obtain ⟨vs, h1, h2, h3⟩ := h.ex
  exact ⟨vs, h1.wider hB, h2, fun i v l hv hl => by
    obtain ⟨A1, n1, c1, e, h4, h5⟩ := h3 i v l hv hl
    exact ⟨A1, n1, c1, e, h4, h5.wider hB⟩⟩
set_option maxHeartbeats 400000 in
/-- A dead stream takes nothing; all is as it was. -/
theorem feed_dead (A : Option Addr) (n c : Nat) {w : World} {B g : Nat} {R : Option Nat} {s : FM.FS} (hg : ErrType w) (h : StrAt w B g R s) (he : s.e ≠ 0) :
    Calls Tryd.prog 12 #[.pointer (some ⟨g, 0, none⟩), .slice A n c] w fun e w' => Below w.heap.size w w' ∧ ∃ ev, e = .returned (.tuple #[.slice none 0 0, ev]) ∧ ErrOf w' s ev := by
  have hE := strErr hg h
  obtain ⟨A0, c0, v, hr, hb, ho, hx, hB, hl, h0, h1⟩ := h
  have c2 := (hb.reads 2).trans (show _ = some v from rfl)
  have HE := Lib.hid hE
  obtain ⟨b, rfl, _⟩ := h1 he
  clear hr hb ho hx hB hl h0 h1 hg hE he
  rcases Nat.eq_zero_or_pos n with hz | hz
  · subst hz
    clear c2
    go_enter Tryd.func12, Tryd.ntmps12
    go_wp2_with fail
    refine wp_loop_rounds 1 ?_
    rw [rounds_succ]
    go_wp2_with fail
    refine HE.out.mono ?_
    rintro e w1 ⟨B1, ev, rfl, hO⟩
    have HO := Lib.hid hO
    clear hO
    go_wp2_with fail
    go_ret2
    exact ⟨B1, ev, rfl, HO.out⟩
  · go_enter Tryd.func12, Tryd.ntmps12
    go_wp2_with fail
    refine wp_loop_rounds 1 ?_
    rw [rounds_succ]
    go_wp2_with fail
    refine HE.out.mono ?_
    rintro e w1 ⟨B1, ev, rfl, hO⟩
    have HO := Lib.hid hO
    clear hO
    go_wp2_with fail
    go_ret2
    exact ⟨B1, ev, rfl, HO.out⟩
theorem StrAt.keptOff {w w' : World} {B g : Nat} {R : Option Nat} {s : FM.FS} {S : Nat → Prop} (h : StrAt w B g R s) (he : s.e = 0) (hc : Chg S w w') (hg : ¬ S g) (hR : ∀ k, R = some k → ¬ S k) : StrAt w' B g R s := by
  obtain ⟨A, c, v, hr, hb, ho, hx, hB, hl, h0, h1⟩ := h
  exact ⟨A, c, v, hr, hb.kept hc hg, own_chg ho hc (fun k hk => hR k (hr.trans hk)), hx, hB, hl, h0, fun h => absurd he h⟩
theorem FM.run_dead_end {ls : List (List Nat)} (h : ∀ l ∈ ls, l.length ≤ 300) : FM.run { FM.fs0 with out := [] } (ls.flatMap FM.wrapL ++ [255, 255]) = ⟨[], ls.length, ls, 4, [(frameBytes, (ls.length : Int))]⟩ := by
  rw [FM.run_append, FM.run_wraps (s := { FM.fs0 with out := [] }) rfl rfl ls (fun l hl => by have := h l hl; omega), FM.run_ff (s := { ({ FM.fs0 with out := [] } : FM.FS) with k := _, out := _ }) rfl rfl]
  simp [FM.fs0]
set_option maxRecDepth 100000 in
set_option maxHeartbeats 2000000 in
theorem dead_main (A A2 : Option Addr) (n c n2 c2 : Nat) (ls : List (List Nat)) (l2 : List Nat) (w : World) (hg : ErrType w) (hT : Halves w) (hn : n ≤ 10) (hn2 : n2 ≤ 300) (h : Parts w w.heap.size A n ls) (h2 : Byt w w.heap.size A2 n2 l2) :
    Calls Tryd.prog 5 #[.slice A n c, .slice A2 n2 c2] w fun e w' => e = .returned (.bool true) ∧ Below w.heap.size w w' := by
  obtain ⟨i0, hi0, hz0, hz1, hz2⟩ := info_parts u8_info
  have hgl := hg.lt
  have HK := Lib.hid (fknown_ok w hg hT)
  have HG := Lib.hid hg
  have HT := Lib.hid hT
  have H := Lib.hid h
  have H2 := Lib.hid h2
  have HLL := Lib.hid h.len
  have i1 : ¬ (10 : Int) < (n : Int) := by omega
  have i2 : ¬ (300 : Int) < (n2 : Int) := by omega
  clear hg hT h h2
  go_enter Tryd.func5, Tryd.ntmps5
  go_wp2_with (go_at_call 9; refine HK.out.mono ?_; rintro e w1 ⟨rfl, B1⟩)
  have HI : Hid (RowI w1 ls 0 (.slice none 0 0) w1) := Lib.hid ⟨none, 0, 0, rfl, World.ownsRow_nil _ _ _ _, Below.refl _ _, fun l hl => by simp at hl, Nat.le_refl _⟩
  clear HK
  go_loopw [5, 6] (fun v3 v4 wr => ∃ k : Nat, k ≤ n ∧ v4 = .int .i64 k ∧ Hid (RowI w1 ls k v3 wr)) (fun _ v4 _ => n - (intOf v4).toNat)
  case atStart => exact ⟨0, Nat.zero_le _, rfl, HI⟩
  case round =>
    obtain ⟨k, hk, rfl, hR⟩ := hrel
    obtain ⟨A3, m, c3, rfl, hown, hB, hle, hm⟩ := hR.out
    have B01 : Below w.heap.size w wr := bel_trans B1 hB
    by_cases hlt : k < n
    · obtain ⟨b1, o1, Ax, nx, cx, lx, rfl, hb1, hlx, hcx, hnx, hyx⟩ := H.out.at_ hlt
      have hcr := (B01.cell (p := ⟨b1, o1 + k, none⟩) hb1).trans hcx
      have hyr := (hyx.carry B01).wider B01.size
      have hlxl := hyx.len
      by_cases h3 : 300 < nx
      · have i3 : (300 : Int) < (nx : Int) := by omega
        have HB := Lib.hid B01
        clear hown hB hle hm hyr hyx hlx hcx hnx hlxl HI hR H2 H HT HG B01
        go_wp2_with fail
        go_ret
        exact ⟨rfl, HB.out⟩
      · have i3 : ¬ (300 : Int) < (nx : Int) := by omega
        have HW := Lib.hid (wrap_any Ax nx cx lx wr (HT.out.below B01) hnx hyr)
        have hst := wraps_step hlx
        have HST := Lib.hid hst
        have HOW := Lib.hid hown
        have HB := Lib.hid hB
        have HLE := Lib.hid hle
        have HLX := Lib.hid hlx
        clear hown hB hle hyr hyx hlx hcx hnx HI hR hst
        go_wp2_with (go_at_call 20; refine Hid.out ?_)
        refine Lib.hid ?_
        refine HW.out.mono ?_
        rintro e w2 ⟨B2, ⟨_, A5, c5, rfl, hc5, hy5⟩ | ⟨hno, _⟩⟩
        rotate_left
        · omega
        have hz : w1.heap.size ≤ w2.heap.size := Nat.le_trans HB.out.size B2.size
        have ho2 := own_chg HOW.out (Chg.of_below B2 (fun _ => False)) (fun _ _ h => h)
        have HO2 := Lib.hid ho2
        have HY5 := Lib.hid hy5
        have HB2 := Lib.hid (bel_trans HB.out B2)
        clear ho2 hy5 B2
        rw [hlxl] at HY5 ⊢
        go_wp2_with (at_builtin; refine wpList_append rfl (.tmp 47) (.tmp 48) _ rfl w1.heap.size 5 i0 _ 1 Tryd.underlying22 hi0 hz0 hz1 hz2 rfl (.slice A3 m c3) m _ rfl HO2.out A5 (nx + 6) c5 (HY5.out.nil_cap (by omega)) _ rfl HY5.out.rd (oneCell_bv _) (by simp only [maxLen]; omega) (by omega) hz ?_; intro v6 w6 hown6 hgr6 _; obtain ⟨A6, c6, rfl⟩ := own_slice hown6; have hb6 : Below w1.heap.size w1 w6 := HB2.out.grown hgr6 hz (fun k hk => (HO2.out.lt k hk).1); have H6 := Lib.hid hown6; have HB6 := Lib.hid hb6; clear hown6 hgr6 hb6)
        go_roundw
        case rel =>
          refine ⟨k + 1, by omega, by go_num, Lib.hid ⟨A6, _, c6, rfl, ?_, HB6.out, ?_, by omega⟩⟩
          · rw [HST.out, List.map_append]; exact H6.out
          · intro l hl
            obtain ⟨hk', e⟩ := List.getElem?_eq_some_iff.1 HLX.out
            rw [List.take_succ_eq_append_getElem hk', e] at hl
            rcases List.mem_append.1 hl with h | h
            · exact HLE.out l h
            · obtain rfl := List.mem_singleton.1 h
              omega
        case measure => simp [intOf]; omega
    · obtain rfl : k = n := by omega
      have htk : ls.take k = ls := List.take_of_length_le (by have := HLL.out; omega)
      rw [htk] at hown hle
      have hyb : Byt wr wr.heap.size A3 m (ls.flatMap FM.wrapL) := Byt.ofOwn hown (wraps_bnd H.out.bnd)
      have HOW := Lib.hid hown
      have HB := Lib.hid hB
      have HLE := Lib.hid hle
      have HYB := Lib.hid hyb
      clear hown hB hle hyb htk HI hR
      go_wp2_with (go_at_call 10; refine Hid.out ?_)
      refine Lib.hid ?_
      refine (frmNew wr).mono ?_
      rintro e w2 ⟨rfl, hS2, B2⟩
      have HS2 := Lib.hid hS2
      have ht2 := hS2.there.2
      clear hS2
      have hgt1 : 0 < wr.heap.size := Nat.lt_of_lt_of_le hgl B01.size
      have hgt2 : 1 < wr.heap.size := Nat.lt_of_lt_of_le HT.out.lt B01.size
      have hwr : w1.heap.size ≤ wr.heap.size := HB.out.size
      have ho2 := own_alloc (own_chg HOW.out (Chg.of_below B2 (fun _ => False)) (fun _ _ h => h)) (.cells #[.int .u8 255, .int .u8 255] 5)
      have hlt3 : ∀ j, (Value.slice A3 m c3).ownBlock = some j → j < wr.heap.size := fun j hj => (HOW.out.lt j hj).2
      have hm2 : m ≤ 3060 := by omega
      have hf := fun (w' : World) (A' : Option Addr) (c' : Nat) (hb : Below w1.heap.size w1 w') (hs : StrAt w' wr.heap.size wr.heap.size none FM.fs0) (ho : w'.ownsRow w1.heap.size 5 1 (.slice A' (m + 2) c') (m + 2) ((ls.flatMap FM.wrapL ++ [255, 255]).map bv)) (hat : ∀ j, (Value.slice A' (m + 2) c').ownBlock = some j → j ≠ wr.heap.size) =>
        strFeed A' (m + 2) c' (ls.flatMap FM.wrapL ++ [255, 255]) (w := w') (B := wr.heap.size) (g := wr.heap.size) (R := none) (s := FM.fs0) (((bel_trans B1 hb).cell (p := ⟨0, 0, none⟩) hgl).trans HG.out) (HT.out.below (bel_trans B1 hb)) hs (.inl FM.fs0_live) (by omega) (own_cap ho) (by simp [FM.fs0]) ⟨hgt2, hgt1⟩
          (Byt.ofOwn ho (by intro x hx; rcases List.mem_append.1 hx with h | h; exact wraps_bnd H.out.bnd x h; simp at h; omega))
          (fun b o e hn hs => by
            rcases hs with hs | hs
            · exact hat b (by rw [e]; rfl) hs
            · cases hs)
      rw [FM.run_dead_end HLE.out, HLL.out] at hf
      have HF := Lib.hid hf
      have HO2 := Lib.hid ho2
      have HB2 := Lib.hid B2
      clear hf ho2 B2
      go_wp2_with (at_builtin; refine wpList_append rfl (.tmp 53) (.tmp 54) _ rfl w1.heap.size 5 i0 _ 1 Tryd.underlying22 hi0 hz0 hz1 hz2 rfl (.slice A3 m c3) m _ rfl HO2.out (some ⟨w2.heap.size, 0, none⟩) 2 2 (by intro h; cases h) _ rfl (Rd.made w2 #[.int .u8 255, .int .u8 255] 5 2 rfl) (by intro u hu; simp at hu; subst hu; rfl) (by simp only [maxLen]; omega) (by omega) (by simp; omega) ?_; intro v7 w7 hown7 hgr7 hat7; obtain ⟨A7, c7, rfl⟩ := own_slice hown7; have hc7 : Chg (fun j => some j = (Value.slice A3 m c3).ownBlock) w2 w7 := ((Chg.refl _ w2).alloc _).grown hgr7 (fun _ _ e => e); have H7 := Lib.hid hown7; have HC7 := Lib.hid hc7; have HAT := Lib.hid hat7; clear hown7 hgr7 hc7 hat7)
      have hb7 : Below w1.heap.size w1 w7 := (bel_trans HB.out HB2.out).trans (HC7.out.small (by have := HB2.out.size; omega) (fun i hi e => by have := (HOW.out.lt i e.symm).1; omega))
      have hS7 := HS2.out.keptOff rfl HC7.out (fun e => by have := hlt3 _ e.symm; omega) (fun k hk => by cases hk)
      have hH7 := H7.out
      rw [show List.map bv (List.flatMap FM.wrapL ls) ++ (#[Value.int .u8 255, Value.int .u8 255] : Array Value).toList = (ls.flatMap FM.wrapL ++ [255, 255]).map bv by rw [List.map_append]; rfl] at hH7
      have hff := HF.out w7 A7 c7 hb7 hS7 hH7 (fun j hj e => by
        rcases HAT.out with h | h
        · rw [hj] at h; have := hlt3 j h.symm; omega
        · rw [hj] at h; injection h with h; simp at h; omega)
      have HFF := Lib.hid hff
      have HB7 := Lib.hid hb7
      have hz7 : wr.heap.size ≤ w7.heap.size := Nat.le_trans (Nat.le_of_lt ht2) HC7.out.size
      clear hff hb7 hS7 hH7 HF HAT H7 HC7 HO2 HS2 HB2
      refine HFF.out.mono ?_
      rintro e w8 ⟨A8, c8, ev8, rfl, hI8, hE8⟩
      obtain ⟨p8, k8, r8, b8, ep8, rfl, hE8'⟩ := hE8.2 (show (4 : Nat) ≠ 0 by decide)
      have hp8 := hI8.parts
      obtain ⟨R8, hS8, hRo8, hC8, _⟩ := hI8
      have hb78 : Below wr.heap.size w7 w8 := hC8.small hz7 (fun i hi hs => by
        rcases hs with hs | hs
        · omega
        · cases hs)
      have HP8 := Lib.hid hp8.1
      have HS8 := Lib.hid hS8
      have HE8 := Lib.hid hE8'
      have hb8 : Below w.heap.size w w8 := (bel_trans B1 HB7.out).trans (hb78.mono (by have := B01.size; omega))
      have HB8 := Lib.hid hb8
      clear hE8 hE8' ep8 hp8 hS8 hRo8 hC8 hb78 hb8 HFF
      dsimp only at HE8 HP8
      rw [HLL.out] at HP8 ⊢
      go_wp2_with fail
      refine (fAt_any _ _ _ _).mono ?_
      rintro e w9 ⟨A9, n9, c9, rfl, hp9, B9⟩
      have HP9 := Lib.hid hp9
      have HB9 := Lib.hid B9
      clear hp9 B9
      go_wp2_with (go_at_call 14; refine Hid.out ?_)
      refine Lib.hid ?_
      have B910 := bel_new w9 (.cells #[.slice A9 n9 c9, .int .i64 4] 29)
      have hbw : Box (w9.alloc (.cells #[.slice A9 n9 c9, .int .i64 4] 29)) w9.heap.size 29 #[.slice A9 n9 c9, .int .i64 4] := Box.fresh w9 _ _ rfl
      generalize (w9.alloc (.cells #[.slice A9 n9 c9, .int .i64 4] 29)) = W at *
      have B8W : Below w8.heap.size w8 W := bel_trans HB9.out B910
      have BwW : Below w.heap.size w W := bel_trans HB8.out B8W
      have hpW := (HP8.out.carry B8W).wider B8W.size
      have hpW2 := (H.out.carry BwW).wider BwW.size
      have hS := HS8.out.carry B8W
      have hEW := (HE8.out.carry B8W).wider B8W.size
      have hpp := (HP9.out.carry B910).wide B910.size
      have hgW : ErrType W := (BwW.cell (p := ⟨0, 0, none⟩) hgl).trans HG.out
      have htl : ∀ (w' : World) (hb : Below W.heap.size W w') (b : Nat) (hE : IsErr w' w'.heap.size [(frameBytes, (k : Int))] 4 (.iface 78 (.pointer (some ⟨b, 0, none⟩)))), Calls Tryd.prog 15 #[.iface 78 (.pointer (some ⟨b, 0, none⟩)), .agg #[.slice A9 n9 c9, .int .i64 4]] w' fun r w'' => r = .returned (.bool true) ∧ Below w'.heap.size w' w'' := fun (w' : World) (hb : Below W.heap.size W w') (b : Nat) (hE : IsErr w' w'.heap.size [(frameBytes, (k : Int))] 4 (.iface 78 (.pointer (some ⟨b, 0, none⟩)))) => tells_frame k 4 A9 n9 c9 b w' ((hb.cell (p := ⟨0, 0, none⟩) hgW.lt).trans hgW) hE ((hpp.carry hb).wide hb.size) (by omega) (by decide) (by decide)
      have HTL := Lib.hid htl
      have HBW := Lib.hid hbw
      have HSW := Lib.hid hS
      have HEW := Lib.hid hEW
      have HGW := Lib.hid hgW
      have HWW := Lib.hid BwW
      have htx := texts_same A8 A k k c8 c ls W W.heap.size (by omega) hpW hpW2
      have HTX := Lib.hid htx
      clear htl hbw hS hEW hgW BwW htx hpW hpW2 hpp B8W B910 HP8 HS8 HE8 HB8 HP9 HB9
      refine HTX.out.mono ?_
      rintro e w11 ⟨rfl, B11⟩
      have b0 := ((HBW.out.kept_below B11 HBW.out.there).reads 0).trans (show _ = some (Value.slice A9 n9 c9) from rfl)
      have b1 := ((HBW.out.kept_below B11 HBW.out.there).reads 1).trans (show _ = some (Value.int .i64 4) from rfl)
      go_wp2_with (go_at_call 15; refine Hid.out ?_)
      refine Lib.hid ?_
      refine (HTL.out w11 B11 b8 ((HEW.out.carry B11).wider B11.size)).mono ?_
      rintro e w12 ⟨rfl, B12⟩
      have B12' := bel_trans B11 B12
      clear b0 b1 B11 B12
      go_wp2_with (go_at_call 17; refine Hid.out ?_)
      refine Lib.hid ?_
      refine (strHeld (HSW.out.carry B12')).mono ?_
      rintro e w13 ⟨rfl, rfl⟩
      go_wp2_with (go_at_call 12; refine Hid.out ?_)
      refine Lib.hid ?_
      refine (feed_dead A2 n2 c2 (show ErrType w12 from (B12'.cell (p := ⟨0, 0, none⟩) HGW.out.lt).trans HGW.out) (HSW.out.carry B12') (show (4 : Nat) ≠ 0 by decide)).mono ?_
      rintro e w14 ⟨B14, ev14, rfl, hE14⟩
      obtain ⟨p14, k14, r14, b14, _, rfl, hE14'⟩ := hE14.2 (show (4 : Nat) ≠ 0 by decide)
      have B14' := bel_trans B12' B14
      have b0 := ((HBW.out.kept_below B14' HBW.out.there).reads 0).trans (show _ = some (Value.slice A9 n9 c9) from rfl)
      have b1 := ((HBW.out.kept_below B14' HBW.out.there).reads 1).trans (show _ = some (Value.int .i64 4) from rfl)
      have HE14 := Lib.hid hE14'
      have her := fun (w' : World) (hb : Below W.heap.size W w') => strErr (show ErrType w' from (hb.cell (p := ⟨0, 0, none⟩) HGW.out.lt).trans HGW.out) (HSW.out.carry hb)
      have hhd := fun (w' : World) (hb : Below W.heap.size W w') => strHeld (HSW.out.carry hb)
      have keepS := fun (w' : World) (hb : Below W.heap.size W w') => (⟨((HBW.out.kept_below hb HBW.out.there).reads 0).trans (show _ = some (Value.slice A9 n9 c9) from rfl), ((HBW.out.kept_below hb HBW.out.there).reads 1).trans (show _ = some (Value.int .i64 4) from rfl)⟩ : w'.cell? ⟨w9.heap.size, 0, none⟩ = some (.slice A9 n9 c9) ∧ w'.cell? ⟨w9.heap.size, 1, none⟩ = some (.int .i64 4))
      have HER := Lib.hid her
      have HHD := Lib.hid hhd
      have KS := Lib.hid keepS
      have B0 : Below W.heap.size W w14.drew := B14'.drew
      have hEd : IsErr w14.drew w14.drew.heap.size [(frameBytes, (k : Int))] 4 (.iface 78 (.pointer (some ⟨b14, 0, none⟩))) := HE14.out.carry (Below.refl _ _).drew
      have hta := HTL.out w14.drew B0 b14 hEd
      have HTA := Lib.hid hta
      clear hEd hta
      clear hE14 hE14' B14 B12' her hhd keepS
      go_wp2_with fail
      go_region_held3 (fun w' => w'.cell? ⟨w9.heap.size, 0, none⟩ = some (.slice A9 n9 c9) ∧ w'.cell? ⟨w9.heap.size, 1, none⟩ = some (.int .i64 4))
        (first | exact ⟨b0, b1⟩ | exact KS.out _ B0 | exact KS.out _ BA | exact KS.out _ BB | exact KS.out _ BC | exact KS.out _ BD)
        ((first | (go_at_call 15; ((with_reducible refine HTA.out.mono ?_)); rintro e wA ⟨rfl, Ba⟩; have BA := bel_trans B0 Ba)
                | (go_at_call 16; refine (HER.out _ BA).mono ?_; rintro e wB ⟨Bb, evB, rfl, hOB⟩; have BB := bel_trans BA Bb; obtain ⟨pB, kB, rB, bB, _, rfl, hEB⟩ := hOB.2 (show (4 : Nat) ≠ 0 by decide); have HEB := Lib.hid hEB; clear hOB hEB)
                | (go_at_call 15; refine (HTL.out wB BB bB HEB.out).mono ?_; rintro e wC ⟨rfl, Bc⟩; have BC := bel_trans BB Bc)
                | (go_at_call 17; refine (HHD.out _ BC).mono ?_; rintro e wD ⟨rfl, rfl⟩)))
      all_goals
        have BF := Lib.hid (bel_trans HWW.out BC)
        go_wp2_with fail
        go_ret
        exact ⟨rfl, BF.out⟩
end Go.Proofs.YtjfjdicdokdekaaDoor
