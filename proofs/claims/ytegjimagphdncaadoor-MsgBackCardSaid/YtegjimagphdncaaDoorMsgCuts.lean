/- straddlelaw4.MsgCuts returns true. -/
import Derived.Test.YtegjimagphdncaaDoorMsgKnown
import Derived.Test.YtegjimagphdncaaDoorMsgCutMath
import Derived.Test.YtegjimagphdncaaDoorTellsAll
set_option linter.unusedSimpArgs false
namespace Go.Proofs.YtegjimagphdncaaDoor
open Go.RowKit Go.Mem1 Go.CodMath

theorem encOf_pos (h : Hd) (rs : List R5) : 0 < (encOf h rs).length := by
  unfold encOf
  rw [List.length_append, List.length_append]
  have : 0 < (ien (rs.length : Int)).length := vint_pos _
  omega
theorem encOf_len (h : Hd) (rs : List R5) (hok : h.ok) (hoks : ∀ x ∈ rs, x.ok) (hn : rs.length ≤ 1000) : (encOf h rs).length ≤ 90 + 50 * rs.length := by
  have h1 := iens_len h.l hok
  have h2 := ien_len (z := (rs.length : Int)) ⟨by omega, by omega⟩
  have h3 := flat_len rs hoks
  have h4 : h.l.length = 8 := rfl
  unfold encOf
  rw [List.length_append, List.length_append]; omega
set_option maxRecDepth 100000 in
set_option maxHeartbeats 1000000 in
theorem cuts_early (h : Hd) (A : Option Addr) (n c : Nat) (x y : Int) (w : World) (hx : 60 < n ∨ x < 0) :
    Calls Tryd.prog 8 #[.agg #[.int .i64 h.k, .int .i64 h.s, .int .i64 h.a, .int .i64 h.b, .int .i64 h.c, .int .i64 h.d, .int .i64 h.e, .int .i64 h.f, .slice A n c], .int .i64 x, .int .u8 y] w fun e w' => e = .returned (.bool true) ∧ Below w.heap.size w w' := by
  have hk := fun w' => mknown_ok w'
  have HK := Lib.hid hk
  clear hk
  by_cases hn : 60 < n
  · have hb : decide ((60 : Int) < (n : Int)) = true := by simp; omega
    go_enter Tryd.func8, Tryd.ntmps8
    go_wp2_with (go_at_call 9; refine Hid.out ?_)
    refine Lib.hid ?_
    refine (HK.out _).mono ?_
    rintro e w1 ⟨rfl, B1⟩
    have c8 := (B1.cell (p := ⟨w.heap.size, 8, none⟩) (by simp)).trans (show _ = some (Value.slice A n c) by simp)
    go_wp2_with fail
    go_ret
    exact ⟨rfl, bel_trans (bel_new _ _) B1⟩
  · have hb : decide ((60 : Int) < (n : Int)) = false := by simp; omega
    have hx0 : decide (x < 0) = true := by simp; omega
    go_enter Tryd.func8, Tryd.ntmps8
    go_wp2_with (go_at_call 9; refine Hid.out ?_)
    refine Lib.hid ?_
    refine (HK.out _).mono ?_
    rintro e w1 ⟨rfl, B1⟩
    have c8 := (B1.cell (p := ⟨w.heap.size, 8, none⟩) (by simp)).trans (show _ = some (Value.slice A n c) by simp)
    go_wp2_with fail
    go_ret
    exact ⟨rfl, bel_trans (bel_new _ _) B1⟩
theorem box_cells {w : World} {g : Nat} {t : TypeId} {c0 c1 c2 c3 c4 c5 c6 c7 c8 : Value} (h : Box w g t #[c0, c1, c2, c3, c4, c5, c6, c7, c8]) :
    w.cell? ⟨g, 0, none⟩ = some c0 ∧ w.cell? ⟨g, 1, none⟩ = some c1 ∧ w.cell? ⟨g, 2, none⟩ = some c2 ∧ w.cell? ⟨g, 3, none⟩ = some c3 ∧ w.cell? ⟨g, 4, none⟩ = some c4 ∧ w.cell? ⟨g, 5, none⟩ = some c5 ∧ w.cell? ⟨g, 6, none⟩ = some c6 ∧ w.cell? ⟨g, 7, none⟩ = some c7 ∧ w.cell? ⟨g, 8, none⟩ = some c8 :=
  ⟨(h.reads 0).trans rfl, (h.reads 1).trans rfl, (h.reads 2).trans rfl, (h.reads 3).trans rfl, (h.reads 4).trans rfl, (h.reads 5).trans rfl, (h.reads 6).trans rfl, (h.reads 7).trans rfl, (h.reads 8).trans rfl⟩
set_option maxRecDepth 100000 in
set_option maxHeartbeats 2000000 in
theorem cuts_main (h : Hd) (rs : List R5) (A : Option Addr) (n c m y : Nat) (w : World) (hg : ErrType w) (hok : h.ok) (hr : RowsAt w w.heap.size A n rs) (hn : n ≤ 60) (hy : y < 256) :
    Calls Tryd.prog 8 #[.agg #[.int .i64 h.k, .int .i64 h.s, .int .i64 h.a, .int .i64 h.b, .int .i64 h.c, .int .i64 h.d, .int .i64 h.e, .int .i64 h.f, .slice A n c], .int .i64 (m : Int), .int .u8 (y : Int)] w fun e w' => e = .returned (.bool true) ∧ Below w.heap.size w w' := by
  have hk := fun w' => mknown_ok w'
  have hok' := hok
  have hr' := hr
  have HK := Lib.hid hk
  have HR := Lib.hid hr
  have HO := Lib.hid hok
  have HG := Lib.hid hg
  have hb : decide ((60 : Int) < (n : Int)) = false := by simp; omega
  have hx0 : decide ((m : Int) < 0) = false := by simp
  clear hk hr hok hg
  by_cases hc : MsgMath.chk h.k h.s n = 0
  · have hcn : MsgMath.chk h.k h.s (rs.length : Int) = 0 := by rw [hr'.len]; exact hc
    have HC := Lib.hid hc
    have HCN := Lib.hid hcn
    have hL0 := encOf_pos h rs
    have hLb := encOf_len h rs hok' hr'.ok (by rw [hr'.len]; omega)
    have hLn := hr'.len
    obtain ⟨L, hL⟩ : ∃ L, L = (encOf h rs).length := ⟨_, rfl⟩
    rw [← hL] at hL0 hLb
    rw [hLn] at hLb
    have HLN := Lib.hid hLn
    have HL := Lib.hid hL
    have hLe : ((L : Int) == 0) = false := by simp; omega
    have hm1 := Int.emod_nonneg (m : Int) (show (L : Int) ≠ 0 by omega)
    have hm2 := Int.emod_lt_of_pos (m : Int) (show (0 : Int) < (L : Int) by omega)
    obtain ⟨j, hj⟩ := Int.eq_ofNat_of_zero_le hm1
    rw [hj] at hm2
    have hjL : j < L := by omega
    clear hm1 hm2
    clear hc hcn hL hLn hok' hr'
    go_enter Tryd.func8, Tryd.ntmps8
    go_wp2_with (go_at_call 9; refine Hid.out ?_)
    refine Lib.hid ?_
    refine (HK.out _).mono ?_
    rintro e w1 ⟨rfl, B1⟩
    have hbx : Box w1 w.heap.size 25 #[.int .i64 h.k, .int .i64 h.s, .int .i64 h.a, .int .i64 h.b, .int .i64 h.c, .int .i64 h.d, .int .i64 h.e, .int .i64 h.f, .slice A n c] := (Box.fresh w _ _ rfl).kept_below B1 (by simp)
    obtain ⟨c0, c1, c2, c3, c4, c5, c6, c7, c8⟩ := box_cells hbx
    have HB1 := Lib.hid hbx
    have Bw1 : Below w.heap.size w w1 := bel_trans (bel_new _ _) B1
    clear hbx
    go_wp2_with (go_at_call 10; refine Hid.out ?_)
    refine Lib.hid ?_
    refine (encode_ok h rs A n c w1 HO.out ((HR.out.carry Bw1).wider Bw1.size) HC.out).mono ?_
    rintro e w2 ⟨A2, k2, rfl, hk2, hLk, hy2, B12⟩
    rw [← HL.out] at hLk hy2 ⊢
    have HY2 := Lib.hid hy2
    have HK2 := Lib.hid hk2
    have hb2 := HB1.out.kept_below B12 HB1.out.there
    have HB2 := Lib.hid hb2
    have Bw2 : Below w.heap.size w w2 := bel_trans Bw1 B12
    clear hy2 hk2 hb2 B12 B1 c0 c1 c2 c3 c4 c5 c6 c7 c8
    go_wp2_with (go_at_call 16; refine Hid.out ?_)
    refine Lib.hid ?_
    have hdc := decOut_cut h rs j HO.out HR.out.ok (by have := HLN.out; omega) HCN.out (by rw [← HL.out]; exact hjL)
    have hd1 := decode_any A2 j k2 ((encOf h rs).take j) w2 (by omega) HK2.out (HY2.out.head (by omega))
    generalize decOut ((encOf h rs).take j) = o at hdc hd1
    refine hd1.mono ?_
    rintro e w3 ⟨v3, A3, n3, c3, rfl, _, _, B23, _, hv3⟩
    obtain ⟨b3, rfl, _⟩ := hv3 hdc
    have hy3 := (HY2.out.carry B23).wider B23.size
    have HY3 := Lib.hid hy3
    have HB3 := Lib.hid (HB2.out.kept_below B23 HB2.out.there)
    have Bw3 : Below w.heap.size w w3 := bel_trans Bw2 B23
    obtain ⟨i0, hi0, hz0, hz1, hz2⟩ := info_parts u8_info
    have HI0 := Lib.hid hi0
    have HI1 := Lib.hid hz0
    have HI2 := Lib.hid hz1
    have HI3 := Lib.hid hz2
    clear hd1 hdc hv3 hy3 B23 hi0 hz0 hz1 hz2 hj
    go_wp2_with (at_builtin; refine Hid.out ?_)
    refine Lib.hid ?_
    have BX := fun (o1 o2 : Obj) => bel_alloc (bel_new w3 o1) o2
    refine wpList_append rfl (.tmp 48) (.tmp 49) _ rfl w3.heap.size 5 i0 _ 1 Tryd.underlying27 HI0.out HI1.out HI2.out HI3.out rfl (.slice (some ⟨w3.heap.size + 1, 0, none⟩) 0 0) 0 [] rfl (by
      have := World.ownsRow_made (base := w3.heap.size) (e := 5) (size := 1) (w3.alloc (.cells #[.int .i64 o.hd.k, .int .i64 o.hd.s, .int .i64 o.hd.a, .int .i64 o.hd.b, .int .i64 o.hd.c, .int .i64 o.hd.d, .int .i64 o.hd.e, .int .i64 o.hd.f, .slice A3 n3 c3] 25)) #[] 0 (by simp) (by simp [maxLen]) rfl
      simpa using this) A2 L k2 HK2.out ((encOf h rs).map bv) rfl ((HY3.out.carry (BX _ _)).rd) (oneCell_bv _) (by simp only [maxLen]; omega) (by omega) (by simp; omega) ?_
    intro v4 w4 hown4 hgr4 hat4
    have B34 : Below w3.heap.size w3 w4 := (BX _ _).grown hgr4 (by simp; omega) (by simp [Value.ownBlock])
    simp only [Nat.zero_add, List.nil_append] at hown4
    have HOW4 := Lib.hid hown4
    have hz4 := B34.size
    clear hown4 hgr4 hat4
    go_wp2_with (at_builtin; refine Hid.out ?_)
    refine Lib.hid ?_
    have lt4 : ∀ k, v4.ownBlock = some k → w3.heap.size ≤ k ∧ k < w4.heap.size := fun k hk => HOW4.out.lt k hk
    refine wpList_append rfl (.tmp 50) (.tmp 52) _ rfl w3.heap.size 5 i0 _ 1 Tryd.underlying27 HI0.out HI1.out HI2.out HI3.out rfl v4 L ((encOf h rs).map bv) rfl (own_alloc HOW4.out _) (some ⟨w4.heap.size, 0, none⟩) 1 1 (by intro h; cases h) ([y].map bv) rfl (Rd.made w4 #[.int .u8 (y : Int)] 5 1 rfl) (oneCell_bv _) (by simp only [maxLen]; omega) (by omega) (by simp; omega) ?_
    intro v5 w5 hown5 hgr5 hat5
    have B35 : Below w3.heap.size w3 w5 := (B34.alloc hz4 _).grown hgr5 (by simp; omega) (fun k hk => (lt4 k hk).1)
    rw [← List.map_append] at hown5
    obtain ⟨A5, c5, rfl⟩ := own_slice hown5
    have hy5 : Byt w5 w5.heap.size A5 (L + 1) (encOf h rs ++ [y]) := Byt.ofOwn hown5 (fun x hx => by
      rcases List.mem_append.1 hx with hx | hx
      · exact HY2.out.bnd x hx
      · simp at hx; omega)
    have hk5 : A5 = none → c5 = 0 := own_nilcap hown5
    have hdec := decode_any A5 (L + 1) c5 _ w5 (by omega) hk5 hy5
    rw [decOut_more h rs [y] (by simp) HO.out HR.out.ok (by have := HLN.out; omega) HCN.out] at hdec
    have HDC := Lib.hid hdec
    clear hown5 hgr5 hat5 hy5 hk5 hdec lt4 B34 hz4
    go_wp2_with (go_at_call 16; refine Hid.out ?_)
    refine Lib.hid ?_
    refine HDC.out.mono ?_
    rintro e w6 ⟨v6, A6, n6, c6, rfl, _, _, B56, _, hv6⟩
    obtain ⟨b6, rfl, hE6⟩ := hv6 (show (2 : Nat) ≠ 0 by decide)
    have B36 : Below w3.heap.size w3 w6 := B35.trans (B56.mono B35.size)
    have Bw6 : Below w.heap.size w w6 := bel_trans Bw3 B36
    have hb6 := HB3.out.kept_below B36 HB3.out.there
    have HE6 := Lib.hid hE6
    have HB6 := Lib.hid hb6
    have c0 : ∀ o, (w6.alloc o).cell? ⟨w.heap.size, 0, none⟩ = some (.int .i64 h.k) := fun o => ((bel_new w6 o).cell (p := ⟨w.heap.size, 0, none⟩) hb6.there).trans ((hb6.reads 0).trans rfl)
    clear hv6 hE6 hb6 B56
    go_wp2_with (go_at_call 24; refine Hid.out ?_)
    refine Lib.hid ?_
    refine (refAt_any _ _ _ _).mono ?_
    rintro e w7 ⟨A7, n7, c7, rfl, _, hp7, B67⟩
    have B6' := bel_new w6 (.cells #[.int .i64 (Out.bad [(msgBytes, h.k)] 2).hd.k, .int .i64 (Out.bad [(msgBytes, h.k)] 2).hd.s, .int .i64 (Out.bad [(msgBytes, h.k)] 2).hd.a, .int .i64 (Out.bad [(msgBytes, h.k)] 2).hd.b, .int .i64 (Out.bad [(msgBytes, h.k)] 2).hd.c, .int .i64 (Out.bad [(msgBytes, h.k)] 2).hd.d, .int .i64 (Out.bad [(msgBytes, h.k)] 2).hd.e, .int .i64 (Out.bad [(msgBytes, h.k)] 2).hd.f, .slice A6 n6 c6] 25)
    have Bw7 : Below w.heap.size w w7 := bel_trans (bel_trans Bw6 B6') B67
    have hE7 : IsErr w7 w7.heap.size [(msgBytes, h.k)] 2 (.iface 74 (.pointer (some ⟨b6, 0, none⟩))) := (((HE6.out.carry B6').wider B6'.size).carry B67).wider B67.size
    have hg7 : ErrType w7 := (Bw7.cell (p := ⟨0, 0, none⟩) HG.out.lt).trans HG.out
    have hkk : 0 ≤ h.k ∧ h.k < 100 := by
      have := (MsgMath.chk_ok HC.out).1
      unfold MsgMath.known at this
      have := of_decide_eq_true this
      omega
    have htl := tells_all numSmall msgBytes h.k [] A7 n7 c7 2 b6 w7 hg7 hE7 hp7 trivial (fun x hx => by
      simp at hx; subst hx; exact ⟨(show msgBytes.size ≤ 100 by decide), hkk⟩) (by simp) (by decide) (by decide)
    have HTL := Lib.hid htl
    clear hE7 hg7 hp7 htl B6' B67 c0 hkk
    go_wp2_with (go_at_call 13; refine Hid.out ?_)
    refine Lib.hid ?_
    refine HTL.out.mono ?_
    rintro e w8 ⟨rfl, B78⟩
    go_wp2_with fail
    go_ret
    exact ⟨rfl, bel_trans Bw7 B78⟩
  · have HC := Lib.hid hc
    clear hc hok' hr'
    go_enter Tryd.func8, Tryd.ntmps8
    go_wp2_with (go_at_call 9; refine Hid.out ?_)
    refine Lib.hid ?_
    refine (HK.out _).mono ?_
    rintro e w1 ⟨rfl, B1⟩
    have hbx : Box w1 w.heap.size 25 #[.int .i64 h.k, .int .i64 h.s, .int .i64 h.a, .int .i64 h.b, .int .i64 h.c, .int .i64 h.d, .int .i64 h.e, .int .i64 h.f, .slice A n c] := (Box.fresh w _ _ rfl).kept_below B1 (by simp)
    obtain ⟨c0, c1, c2, c3, c4, c5, c6, c7, c8⟩ := box_cells hbx
    clear hbx
    go_wp2_with (go_at_call 10; refine Hid.out ?_)
    refine Lib.hid ?_
    refine (encode_bad h A n c w1 HC.out).mono ?_
    rintro e w2 ⟨b, rfl, _, B2⟩
    go_wp2_with fail
    go_ret
    exact ⟨rfl, bel_trans (bel_trans (bel_new _ _) B1) B2⟩
end Go.Proofs.YtegjimagphdncaaDoor
