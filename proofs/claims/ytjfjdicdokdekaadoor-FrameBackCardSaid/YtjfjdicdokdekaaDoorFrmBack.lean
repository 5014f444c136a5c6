/- straddlelaw5.FrameBack returns true. -/
import Derived.Test.YtjfjdicdokdekaaDoorFrmBackMem
set_option linter.unusedSimpArgs false
namespace Go.Proofs.YtjfjdicdokdekaaDoor
open Go.RowKit Go.Mem1

set_option maxRecDepth 100000 in
set_option maxHeartbeats 1000000 in
theorem fback_early (A : Option Addr) (n c : Nat) (x : Int) (w : World) (hg : ErrType w) (hT : Halves w) (h : 20 < n) :
    Calls Tryd.prog 4 #[.slice A n c, .int .u8 x] w fun e w' => e = .returned (.bool true) ∧ Below w.heap.size w w' := by
  have HK := Lib.hid (fknown_ok w hg hT)
  clear hg hT
  have i1 : (20 : Int) < (n : Int) := by omega
  go_enter Tryd.func4, Tryd.ntmps4
  go_wp2_with (go_at_call 9; refine HK.out.mono ?_; rintro e w1 ⟨rfl, hb1⟩)
  go_ret
  exact ⟨rfl, hb1⟩
/-- What a next piece does. -/
theorem FM.piece {s : FM.FS} {bs p : List Nat} {j q : Nat} (hs : FM.run FM.fs0 (bs.take j) = s) (hp : p = (bs.drop j).take q) :
    FM.run FM.fs0 (bs.take (j + q)) = { FM.run { s with out := [] } p with out := s.out ++ (FM.run { s with out := [] } p).out } := by
  rw [List.take_add, FM.run_append, hs, ← hp]
  have h1 := FM.run_pre s.out p { s with out := [] }
  have h2 : FM.pre s.out { s with out := [] } = s := by
    obtain ⟨h, k, o, e, pp⟩ := s
    simp [FM.pre]
  rw [h2] at h1
  rw [h1]
  rfl
set_option maxRecDepth 100000 in
set_option maxHeartbeats 2000000 in
theorem fback_main (A : Option Addr) (n c : Nat) (x : Nat) (ls : List (List Nat)) (w : World) (hg : ErrType w) (hT : Halves w) (hn : n ≤ 20) (hx : x < 256) (h : Parts w w.heap.size A n ls) :
    Calls Tryd.prog 4 #[.slice A n c, .int .u8 (x : Int)] w fun e w' => e = .returned (.bool true) ∧ Below w.heap.size w w' := by
  obtain ⟨i0, hi0, hz0, hz1, hz2⟩ := info_parts u8_info
  obtain ⟨j0, hj0, hy0, hy1, hy2⟩ := info_parts sl_info
  have hgl := hg.lt
  have HK := Lib.hid (fknown_ok w hg hT)
  have HG := Lib.hid hg
  have HT := Lib.hid hT
  have H := Lib.hid h
  have HLL := Lib.hid h.len
  have i1 : ¬ (20 : Int) < (n : Int) := by omega
  clear hg hT h
  go_enter Tryd.func4, Tryd.ntmps4
  go_wp2_with (go_at_call 9; refine HK.out.mono ?_; rintro e w1 ⟨rfl, B1⟩)
  have HI : Hid (FrsI w w1 ls 0 (.slice none 0 0) (.slice none 0 0) w1) := Lib.hid ⟨⟨none, 0, 0, rfl, World.ownsRow_nil _ _ _ _, Nat.le_refl _⟩, ⟨none, 0, rfl, ⟨[], World.ownsRow_nil _ _ _ _, rfl, fun i u l hu => by simp at hu⟩, Nat.le_refl _⟩, Below.refl _ _⟩
  clear HK
  go_loopw [5, 6, 7] (fun vb vw vi wr => ∃ k : Nat, k ≤ n ∧ vi = .int .i64 k ∧ Hid (FrsI w w1 ls k vb vw wr)) (fun _ _ vi _ => n - (intOf vi).toNat)
  case atStart => exact ⟨0, Nat.zero_le _, rfl, HI⟩
  case round =>
    obtain ⟨k, hk, rfl, hR⟩ := hrel
    obtain ⟨⟨A3, m, c3, rfl, hown, hm⟩, ⟨A4, c4, rfl, hwant, hwl⟩, hB⟩ := hR.out
    have B01 : Below w.heap.size w wr := bel_trans B1 hB
    by_cases hlt : k < n
    · obtain ⟨b1, o1, Ax, nx, cx, lx, rfl, hb1, hlx, hcx, hnx, hyx⟩ := H.out.at_ hlt
      have hcr := (B01.cell (p := ⟨b1, o1 + k, none⟩) hb1).trans hcx
      have hyr := (hyx.carry B01).wider B01.size
      have hlxl := hyx.len
      by_cases h3 : 1100 < nx
      · have i3 : (1100 : Int) < (nx : Int) := by omega
        have HB := Lib.hid B01
        clear hown hB hm hyr hyx hlx hcx hnx hlxl HI hR H HT HG B01 hwant hwl
        generalize (short (ls.take k)).length = sl at *
        go_wp2_with fail
        go_ret
        exact ⟨rfl, HB.out⟩
      · have i3 : ¬ (1100 : Int) < (nx : Int) := by omega
        have HW := Lib.hid (wrap_any Ax nx cx lx wr (HT.out.below B01) hnx hyr)
        have HRW := Lib.hid (fun (w' : World) (hb : Below wr.heap.size wr w') => rwrap_any Ax nx cx lx w' hnx ((hyr.carry hb).wider hb.size))
        have HST := Lib.hid (short_step hlx)
        have HOW := Lib.hid hown
        have HB := Lib.hid hB
        have HWA := Lib.hid hwant
        have HYX := Lib.hid hyx
        clear hown hB hyr hyx hlx hcx HI hR hwant
        generalize hsl : (short (ls.take k)).length = sl at *
        have HSL := Lib.hid hsl
        clear hsl
        go_wp2_with (go_at_call 20; refine Hid.out ?_)
        refine Lib.hid ?_
        refine HW.out.mono ?_
        rintro e w2 ⟨B2, ⟨hle, A5, c5, rfl, hc5, hy5⟩ | ⟨hgt, b5, rfl, hE5⟩⟩
        · have hcr2 := (B2.cell (p := ⟨b1, o1 + k, none⟩) (Nat.lt_of_lt_of_le hb1 B01.size)).trans hcr
          have HY5 := Lib.hid hy5
          have HB2 := Lib.hid B2
          rw [if_pos hle] at HST
          clear hy5 hcr
          go_wp2_with (go_at_call 21; refine Hid.out ?_)
          refine Lib.hid ?_
          refine (HRW.out w2 HB2.out).mono ?_
          rintro e w3 ⟨B3, ⟨_, A6, c6, rfl, hy6⟩ | ⟨hno, _⟩⟩
          rotate_left
          · omega
          have hcr3 := (B3.cell (p := ⟨b1, o1 + k, none⟩) (Nat.lt_of_lt_of_le hb1 (Nat.le_trans B01.size B2.size))).trans hcr2
          have HY6 := Lib.hid hy6
          have HB3 := Lib.hid B3
          clear hy6 hcr2 B2 B3
          rw [hlxl] at HY5 HY6 ⊢
          go_wp2_with (go_at_call 15; refine Hid.out ?_)
          refine Lib.hid ?_
          refine (tells_nil none 0 0 _).mono ?_
          rintro e w5 ⟨rfl, B5⟩
          have hbw : Box w5 w3.heap.size 29 #[.slice none 0 0, .int .i64 0] := (Box.fresh w3 _ _ rfl).kept_below B5 (by simp)
          have B35 : Below w3.heap.size w3 w5 := bel_trans (bel_new w3 _) B5
          have hcr5 := (B35.cell (p := ⟨b1, o1 + k, none⟩) (Nat.lt_of_lt_of_le hb1 (Nat.le_trans B01.size (Nat.le_trans HB2.out.size HB3.out.size)))).trans hcr3
          have B25 : Below w2.heap.size w2 w5 := bel_trans HB3.out B35
          have Br5 : Below wr.heap.size wr w5 := bel_trans HB2.out B25
          have hy55 := HY5.out.carry B25
          have hy65 := HY6.out.carry B35
          have ks5 := conv_str hy55 c5
          have ks6 := conv_str hy65 c6
          have b0 := (hbw.reads 0).trans (show _ = some (Value.slice none 0 0) from rfl)
          have b1' := (hbw.reads 1).trans (show _ = some (Value.int .i64 0) from rfl)
          have ho5 := own_chg HOW.out (Chg.of_below Br5 (fun _ => False)) (fun _ _ h => h)
          have hw5 := HWA.out.kept (Chg.of_below Br5 (fun _ => False)) (fun _ _ h => h)
          have B15 : Below w1.heap.size w1 w5 := bel_trans HB.out Br5
          have HO5 := Lib.hid ho5
          have HW5 := Lib.hid hw5
          have HB15 := Lib.hid B15
          have HY55 := Lib.hid (hy55.wider B25.size)
          obtain ⟨SB, hSB⟩ : ∃ SB, SB = strOf (FM.wrapL lx) := ⟨_, rfl⟩
          rw [← hSB] at ks5 ks6
          clear hy55 hy65 ho5 hw5 hbw hcr3 B5 B35 B25 Br5 hSB HY5 HY6 HOW HWA HRW HW
          have hz5 : w1.heap.size ≤ w5.heap.size := HB15.out.size
          have hsl : (short (ls.take k)).length = sl := HSL.out
          go_wp2_with (first
            | (at_builtin; refine wpList_append rfl (.tmp 66) (.tmp 67) _ rfl w1.heap.size 5 i0 _ 1 Tryd.underlying22 hi0 hz0 hz1 hz2 rfl (.slice A3 m c3) m _ rfl HO5.out A5 (nx + 6) c5 (HY55.out.nil_cap (by omega)) _ rfl HY55.out.rd (oneCell_bv _) (by simp only [maxLen]; omega) (by omega) hz5 ?_; intro v6 w6 hown6 hgr6 _; obtain ⟨A7, c7, rfl⟩ := own_slice hown6; have hc6 := Chg.of_grown hgr6; have hcr6 := hc6.cell hcr5 (fun e => by have h1 : w1.heap.size ≤ b1 := (HO5.out.lt b1 e.symm).1; have h2 := B1.size; omega); have hw6 := HW5.out.kept hc6 (fun j hj e => by obtain ⟨vs, q, _⟩ := HW5.out; exact own_apart q HO5.out (by decide) j hj e.symm); obtain ⟨vs6, q1, q2, q3⟩ := hw6; have Q1 := Lib.hid q1; have Q2 := Lib.hid q2; have Q3 := Lib.hid q3; have H6 := Lib.hid hown6; have HC6 := Lib.hid hc6; have hz6 : w1.heap.size ≤ w6.heap.size := Nat.le_trans hz5 hc6.size; rw [hsl] at Q1; clear hown6 hgr6 hc6 q1 q2 q3)
            | (at_builtin; refine wpList_append rfl (.tmp 69) (.tmp 74) _ rfl w1.heap.size 22 j0 _ 24 Tryd.underlying32 hj0 hy0 hy1 hy2 rfl (.slice A4 sl c4) sl vs6 rfl (Q1.out.alloc _) (some ⟨w6.heap.size, 0, none⟩) 1 1 (by intro h; cases h) _ rfl (Rd.made w6 #[.slice Ax nx cx] 22 1 rfl) (by intro u hu; simp at hu; subst hu; rfl) (by simp only [maxLen]; omega) (by omega) (by simp; omega) ?_; intro v8 w8 hown8 hgr8 _; obtain ⟨A8, c8, rfl⟩ := own_slice hown8; have hc8 : Chg (fun j => some j = (Value.slice A4 sl c4).ownBlock) w6 w8 := ((Chg.refl _ w6).alloc _).grown hgr8 (fun _ _ e => e); have H8 := Lib.hid hown8; have HC8 := Lib.hid hc8; clear hown8 hgr8 hc8))
          have hb8 : Below w1.heap.size w1 w8 := Chg.toBelow (Chg.toBelow HB15.out HC6.out hz5 (fun i hi e => by have := (HO5.out.lt i e.symm).1; omega)) HC8.out hz6 (fun i hi e => by have := (Q1.out.lt i e.symm).1; omega)
          have ho8 := own_chg H6.out HC8.out (fun j hj e => own_apart Q1.out H6.out (by decide) j e.symm hj)
          have hsl2 : (short (ls.take k) ++ [lx]).length = sl + 1 := by rw [List.length_append, hsl]; rfl
          have hfr : FrsI w w1 ls (k + 1) (.slice A7 (m + (nx + 6)) c7) (.slice A8 (sl + 1) c8) w8 := by
            refine ⟨⟨A7, _, c7, rfl, ?_, by omega⟩, ⟨A8, c8, by rw [HST.out, hsl2], ?_, by rw [HST.out, hsl2]; have := hwl; omega⟩, hb8⟩
            · rw [HST.out, List.flatMap_append, List.map_append]
              simpa using ho8
            · rw [HST.out, hsl2]
              refine WantAt.snoc vs6 Q2.out Q3.out ?_ hnx HYX.out
              rw [hsl]
              exact H8.out
          have HFR := Lib.hid hfr
          clear hb8 ho8 hfr ks5 ks6 b0 b1' hcr5
          go_roundw
          case rel => exact ⟨k + 1, by omega, by go_num, HFR⟩
          case measure => simp [intOf]; omega
        · have hcr2 := (B2.cell (p := ⟨b1, o1 + k, none⟩) (Nat.lt_of_lt_of_le hb1 B01.size)).trans hcr
          have HE5 := Lib.hid hE5
          have HB2 := Lib.hid B2
          rw [if_neg (by omega), List.append_nil] at HST
          clear hE5 hcr
          go_wp2_with (go_at_call 21; refine Hid.out ?_)
          refine Lib.hid ?_
          refine (HRW.out w2 HB2.out).mono ?_
          rintro e w3 ⟨B3, ⟨hno, _⟩ | ⟨_, A6, n6, c6, rfl, hp6⟩⟩
          · omega
          have HP6 := Lib.hid hp6
          have HB3 := Lib.hid B3
          clear hp6 hcr2 B2 B3
          go_wp2_with (go_at_call 15; refine Hid.out ?_)
          refine Lib.hid ?_
          have B34 := bel_new w3 (.cells #[.slice A6 n6 c6, .int .i64 4] 29)
          have hbw0 : Box (w3.alloc (.cells #[.slice A6 n6 c6, .int .i64 4] 29)) w3.heap.size 29 #[.slice A6 n6 c6, .int .i64 4] := Box.fresh w3 _ _ rfl
          generalize (w3.alloc (.cells #[.slice A6 n6 c6, .int .i64 4] 29)) = w4 at *
          have B24 : Below w2.heap.size w2 w4 := bel_trans HB3.out B34
          have Br4 : Below wr.heap.size wr w4 := bel_trans HB2.out B24
          have hge4 : ErrType w4 := ((bel_trans B01 Br4).cell (p := ⟨0, 0, none⟩) hgl).trans HG.out
          have htl := tells_frame 0 4 A6 n6 c6 b5 w4 hge4 ((HE5.out.carry B24).wider B24.size) ((HP6.out.carry B34).wide B34.size) (by decide) (by decide) (by decide)
          have HTL := Lib.hid htl
          clear htl hge4
          refine HTL.out.mono ?_
          rintro e w5 ⟨rfl, B5⟩
          have hbw : Box w5 w3.heap.size 29 #[.slice A6 n6 c6, .int .i64 4] := hbw0.kept_below B5 hbw0.there
          have Br5 : Below wr.heap.size wr w5 := bel_trans Br4 B5
          have ks5 := conv_str (Byt.empty w5 0 none) 0
          have b0 := (hbw.reads 0).trans (show _ = some (Value.slice A6 n6 c6) from rfl)
          have b1' := (hbw.reads 1).trans (show _ = some (Value.int .i64 4) from rfl)
          have hfr : FrsI w w1 ls (k + 1) (.slice A3 m c3) (.slice A4 sl c4) w5 := by
            refine ⟨⟨A3, m, c3, rfl, ?_, by omega⟩, ⟨A4, c4, by rw [HST.out, HSL.out], ?_, by rw [HST.out, HSL.out]; have := hwl; omega⟩, bel_trans HB.out Br5⟩
            · rw [HST.out]; exact own_chg HOW.out (Chg.of_below Br5 (fun _ => False)) (fun _ _ h => h)
            · rw [HST.out, HSL.out]; exact HWA.out.kept (Chg.of_below Br5 (fun _ => False)) (fun _ _ h => h)
          have HFR := Lib.hid hfr
          obtain ⟨SB, hSB⟩ : ∃ SB, SB = strOf [] := ⟨_, rfl⟩
          rw [← hSB] at ks5
          clear hfr hbw hbw0 B5 B34 B24 Br4 Br5 hSB HTL HP6 HE5 HOW HWA HRW HW
          go_wp2_with fail
          go_roundw
          case rel => exact ⟨k + 1, by omega, by go_num, HFR⟩
          case measure => simp [intOf]; omega
    · obtain rfl : k = n := by omega
      obtain ⟨wB, rfl⟩ : ∃ wB, wB = wr := ⟨_, rfl⟩
      have htk : ls.take k = ls := List.take_of_length_le (by have := HLL.out; omega)
      rw [htk] at hown hwant hwl ⊢
      have HB := Lib.hid B01
      have HOW := Lib.hid hown
      have HWA := Lib.hid hwant
      have HB1r := Lib.hid hB
      clear hown hwant HI hR hB
      generalize hsl : (short ls).length = sl at *
      have HSL := Lib.hid hsl
      clear hsl
      go_wp2_with (go_at_call 10; refine Hid.out ?_)
      refine Lib.hid ?_
      refine (frmNew wB).mono ?_
      rintro e w2 ⟨rfl, hS2, B2⟩
      have HS2 := Lib.hid hS2
      have ht2 := hS2.there.2
      clear hS2
      obtain ⟨bs, hbs⟩ : ∃ bs, bs = (short ls).flatMap FM.wrapL := ⟨_, rfl⟩
      have hshb : ∀ x ∈ bs, x < 256 := by
        rw [hbs]
        exact wraps_bnd (fun l hl => H.out.bnd l (List.mem_filter.1 hl).1)
      have hpl := fun j => FM.part_live (ls := short ls) short_len j
      rw [← hbs] at HOW hpl
      have hyb : Byt wB wB.heap.size A3 m bs := Byt.ofOwn HOW.out hshb
      have hcap := own_cap HOW.out
      have hwblk : ∀ j, (Value.slice A4 sl c4).ownBlock = some j → j < wB.heap.size := by
        obtain ⟨vs, q, _⟩ := HWA.out
        rw [HSL.out] at q
        exact fun j hj => (q.lt j hj).2
      obtain ⟨K, hK⟩ : ∃ K : Nat, K = 1 + x := ⟨_, rfl⟩
      have hKb : (1 : Int) + (x : Int) = (K : Int) := by omega
      have hx1 : 1 ≤ K := by omega
      have hx2 : K ≤ 256 := by omega
      clear hK
      have hI0 : FeedI w2 wB.heap.size wB.heap.size none (FM.run FM.fs0 (bs.take 0)) (.slice none 0 0) w2 := FeedI.start HS2.out
      have HI0 := Lib.hid hI0
      have HYB := Lib.hid hyb
      have HPL := Lib.hid hpl
      have HBS := Lib.hid hbs
      have HWB := Lib.hid hwblk
      have HB2 := Lib.hid B2
      clear hI0 hyb hpl hbs hwblk B2 hshb
      go_wp2_with fail
      go_loopw [13, 15] (fun vg va wr => ∃ j : Nat, j ≤ m + 256 ∧ va = .int .i64 j ∧ Hid (FeedI w2 wB.heap.size wB.heap.size none (FM.run FM.fs0 (bs.take j)) vg wr)) (fun _ va _ => m + 256 - (intOf va).toNat)
      case atStart => exact ⟨0, Nat.zero_le _, rfl, HI0⟩
      case round =>
        obtain ⟨j, hj, rfl, hF⟩ := hrel
        obtain ⟨s, hs⟩ : ∃ s, s = FM.run FM.fs0 (bs.take j) := ⟨_, rfl⟩
        rw [← hs] at hF
        obtain ⟨R3, hS3, hRo3, hC3, vs3, hown3, hbods3⟩ := hF.out
        obtain ⟨Ag, cg, rfl⟩ := own_slice hown3
        have hBw2 : wB.heap.size ≤ w2.heap.size := by omega
        have B23 : Below wB.heap.size w2 wr := hC3.small hBw2 (fun i hi hs => by
          rcases hs with hs | hs
          · omega
          · cases hs)
        have Br3 : Below wB.heap.size wB wr := HB2.out.trans B23
        have Bw3 : Below w.heap.size w wr := bel_trans HB.out Br3
        have hlv := HPL.out j
        rw [← hs] at hlv
        have hbl : bs.length = m := HYB.out.len
        have hsk : s.k ≤ 30000 ∧ s.out.length ≤ 30000 := by
          have h1 := FM.run_k (bs.take j) FM.fs0
          rw [← hs] at h1
          simp [FM.fs0] at h1
          omega
        by_cases hlt2 : j < m
        · have hm0 : 0 < m := by omega
          obtain ⟨bb, oo, rfl, hbb, _⟩ := HYB.out.rd.cells hm0
          obtain ⟨q, hq, hq0⟩ : ∃ q : Nat, q = min K (m - j) ∧ 0 < q := ⟨_, rfl, by omega⟩
          have hqm : j + q ≤ m := by omega
          have hpc := FM.piece (q := q) hs.symm (rfl : (bs.drop j).take q = _)
          have htk2 : bs.take (j + K) = bs.take (j + q) := by
            by_cases hc : K ≤ m - j
            · rw [show q = K by omega]
            · rw [show j + q = m by omega, List.take_of_length_le (by omega), List.take_of_length_le (by omega)]
          have hlv2 := HPL.out (j + q)
          rw [hpc] at hlv2
          rw [← htk2] at hpc
          have hfd := strFeed (some ⟨bb, oo + j, none⟩) q (c3 - j) ((bs.drop j).take q) (w := wr) (B := wB.heap.size) (g := wB.heap.size) (R := R3) (s := s) ((Bw3.cell (p := ⟨0, 0, none⟩) hgl).trans HG.out) (HT.out.below Bw3) hS3 (.inl hlv) (by omega) (by omega) (by omega) ⟨Nat.lt_of_lt_of_le HT.out.lt HB.out.size, Nat.lt_of_lt_of_le hgl HB.out.size⟩
            ((((HYB.out.carry Br3).wider Br3.size).cut (k := j) (by omega)).head (k := q) (by omega))
            (fun b' o' e _ hs => by
              injection e with e
              injection e with e1 _
              subst e1
              rcases hs with hs | hs
              · omega
              · have := (hS3.row bb hs.symm).1; omega)
          generalize FM.run { s with out := [] } ((bs.drop j).take q) = s1 at *
          have hs1e : s1.e = 0 := hlv2.1
          have HFD := Lib.hid hfd
          have HPC := Lib.hid hpc
          have HJ : Hid (FeedJ w2 wB.heap.size wB.heap.size none R3 s (.slice Ag s.out.length cg) wr) := Lib.hid ⟨hS3, hRo3, hC3, vs3, hown3, hbods3⟩
          have HQ := Lib.hid hq
          have HS1 := Lib.hid hs1e
          have HBw := Lib.hid Bw3
          have HBr := Lib.hid Br3
          have hso := hsk.2
          clear hfd hpc hF hS3 hRo3 hC3 hown3 hbods3 hlv hlv2 htk2 hs Bw3 Br3 B23 hs1e hsk
          by_cases hc : m < j + K
          case' pos =>
            have hc1 : (m : Int) < (j : Int) + (K : Int) := by omega
            obtain rfl : q = m - j := by have := HQ.out; omega
          case' neg =>
            have hc1 : ¬ (m : Int) < (j : Int) + (K : Int) := by omega
            have hc2 : (j : Int) + (K : Int) ≤ (c3 : Int) := by omega
            obtain rfl : K = q := by have := HQ.out; omega
          all_goals
            clear hq
            go_wp2_with (go_at_call 12; refine Hid.out ?_)
            refine Lib.hid ?_
            refine HFD.out.mono ?_
            rintro e w5 ⟨A5, c5, ev5, rfl, ⟨R5, hJ5⟩, hE5⟩
            obtain rfl := hE5.1 HS1.out
            obtain ⟨q1, q2, vs5, q3, q4⟩ := HJ.out.more ht2 hJ5
            obtain ⟨hS5, hRo5, hC5, us5, hown5, hb5⟩ := hJ5
            have hrd5 := Rd.ofOwn hown5
            have hnc5 : A5 = none → c5 = 0 := by
              rintro rfl
              rcases hown5.2 with ⟨hv, _⟩ | ⟨_, _, _, hv, _⟩
              · injection hv
              · injection hv with hv; cases hv
            have hone : ∀ u ∈ us5, u.oneCell' = true := by
              intro u hu
              obtain ⟨i, hi, rfl⟩ := List.getElem_of_mem hu
              have hi2 : i < s1.out.length := by rw [← hb5.1]; exact hi
              obtain ⟨_, _, _, e, _⟩ := hb5.2 i us5[i] s1.out[i] (List.getElem?_eq_getElem _) (List.getElem?_eq_getElem _)
              rw [e]; rfl
            have hso1 : s1.out.length ≤ 30000 := by
              have h1 := FM.run_k (bs.take (j + K)) FM.fs0
              rw [HPC.out] at h1
              have h2 : (bs.take (j + K)).length ≤ m := by rw [List.length_take]; omega
              simp [FM.fs0] at h1
              omega
            have hz5 : w2.heap.size ≤ w5.heap.size := by have := q2.size; omega
            have hJJ := fun (w7 : World) (A7 : Option Addr) (c7 : Nat) (ho7 : w7.ownsRow w2.heap.size 22 1 (.slice A7 (s.out.length + s1.out.length) c7) (s.out.length + s1.out.length) (vs5 ++ us5)) (hgr : w5.grownBy w7 (Value.slice Ag s.out.length cg).ownBlock) => FeedJ.got (A := Ag) (c := cg) ht2 HS1.out hS5 q1 q2 q3 q4 hb5 ho7 hgr
            rw [← HPC.out, List.length_append] at hJJ
            have HJJ := Lib.hid hJJ
            have Q3 := Lib.hid q3
            have HRD := Lib.hid hrd5
            clear hJJ q1 q2 q3 q4 hS5 hRo5 hC5 hown5 hb5 hrd5 hE5 HFD HJ HPC
            generalize s.out.length = L0 at *
            generalize s1.out.length = L1 at *
            go_wp2_with (at_builtin; refine wpList_append rfl (.tmp 107) (.tmp 108) _ rfl w2.heap.size 22 j0 _ 24 Tryd.underlying32 hj0 hy0 hy1 hy2 rfl (.slice Ag L0 cg) L0 vs5 rfl Q3.out A5 L1 c5 hnc5 us5 rfl HRD.out hone (by simp only [maxLen]; omega) (by omega) hz5 ?_; intro v7 w7 hown7 hgr7 _; obtain ⟨A7, c7, rfl⟩ := own_slice hown7; have hI7 := (HJJ.out w7 A7 c7 hown7 hgr7).toI; have HI7 := Lib.hid hI7; clear hown7 hgr7 hI7)
            go_roundw
            case rel => exact ⟨j + K, by omega, by go_num, HI7⟩
            case measure => simp [intOf]; omega
        · have hall : bs.take j = bs := List.take_of_length_le (by omega)
          have hsE : s = { FM.fs0 with k := FM.fs0.k + (short ls).length, out := FM.fs0.out ++ short ls } := by
            rw [hs, hall, HBS.out]
            exact FM.run_wraps rfl rfl (short ls) short_len
          have hso : s.out = short ls := by rw [hsE]; simp [FM.fs0]
          have hsh : s.h = [] := by rw [hsE]; rfl
          have hp := (FeedI.parts (w' := wr) (show FeedI w2 wB.heap.size wB.heap.size none s (.slice Ag s.out.length cg) wr from ⟨R3, hS3, hRo3, hC3, vs3, hown3, hbods3⟩)).1
          rw [hso, HSL.out] at hp
          have hwa : WantAt w wr w1.heap.size (.slice A4 sl c4) (short ls) := (HWA.out.kept (Chg.of_below HB2.out (fun _ => False)) (fun _ _ h => h)).kept hC3 (fun i hi hs => by
            have := HWB.out i hi
            rcases hs with hs | hs
            · omega
            · cases hs)
          have hp2 := hwa.parts HSL.out Bw3
          have htx := texts_same Ag A4 sl sl cg c4 (short ls) wr wr.heap.size (by omega) hp hp2
          have hhd := fun (w' : World) (hb : Below wr.heap.size wr w') => strHeld (hS3.carry hb)
          rw [hsh] at hhd
          have HTX := Lib.hid htx
          have HHD := Lib.hid hhd
          have HBw := Lib.hid Bw3
          rw [hso, HSL.out]
          clear hp hwa hp2 htx hhd hS3 hRo3 hC3 hown3 hbods3 hF hlv hs hsE hso hsh hsk Bw3 Br3 B23
          go_wp2_with (go_at_call 14; refine Hid.out ?_)
          refine Lib.hid ?_
          refine HTX.out.mono ?_
          rintro e w5 ⟨rfl, B5⟩
          go_wp2_with (go_at_call 17; refine Hid.out ?_)
          refine Lib.hid ?_
          refine (HHD.out w5 B5).mono ?_
          rintro e w6 ⟨rfl, rfl⟩
          have BF := Lib.hid (bel_trans HBw.out B5)
          go_wp2_with fail
          go_ret
          exact ⟨rfl, BF.out⟩
end Go.Proofs.YtjfjdicdokdekaaDoor
