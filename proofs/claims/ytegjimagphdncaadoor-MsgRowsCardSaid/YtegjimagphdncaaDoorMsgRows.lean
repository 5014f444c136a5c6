/- straddlelaw4.MsgRows returns true. -/
import Derived.Test.YtegjimagphdncaaDoorMsgCuts
set_option linter.unusedSimpArgs false
namespace Go.Proofs.YtegjimagphdncaaDoor
open Go.RowKit Go.Mem1 Go.CodMath

def rowsN (k : Nat) : List R5 := (List.range k).map fun (i : Nat) => ⟨(i : Int), 0, 0, 0, 0⟩
theorem rowsN_len (k : Nat) : (rowsN k).length = k := by simp [rowsN]
theorem rowsN_ok (k : Nat) (hk : k ≤ 1000) : ∀ x ∈ rowsN k, x.ok := by
  intro x hx z hz
  obtain ⟨i, hi, rfl⟩ := List.mem_map.1 hx
  have : i < k := by simpa using hi
  simp only [R5.l, List.mem_cons, List.mem_nil_iff, or_false] at hz
  rcases hz with rfl | rfl | rfl | rfl | rfl <;> omega
theorem rowsN_snoc (k : Nat) : rowCells (rowsN (k + 1)) = rowCells (rowsN k) ++ [.int .i64 (k : Int), .int .i64 0, .int .i64 0, .int .i64 0, .int .i64 0] := by
  have : rowsN (k + 1) = rowsN k ++ [⟨(k : Int), 0, 0, 0, 0⟩] := by simp [rowsN, List.range_succ]
  rw [this, rowCells_snoc]
/-- So many rows are laid. -/
def RowsLoop (w : World) (gm : Nat) (kk : Nat) (k : Nat) (wr : World) : Prop :=
  (∃ A c, Box wr gm 25 #[.int .i64 (kk : Int), .int .i64 1, .int .i64 0, .int .i64 0, .int .i64 0, .int .i64 0, .int .i64 0, .int .i64 0, .slice A k c] ∧
    wr.ownsRow (gm + 1) 56 5 (.slice A k c) k (rowCells (rowsN k))) ∧ Below w.heap.size w wr ∧ w.heap.size ≤ gm
theorem RowsLoop.step {w : World} {gm kk k : Nat} {wr : World} {A : Option Addr} {c : Nat}
    (hm : Box wr gm 25 #[.int .i64 (kk : Int), .int .i64 1, .int .i64 0, .int .i64 0, .int .i64 0, .int .i64 0, .int .i64 0, .int .i64 0, .slice A k c])
    (hown : wr.ownsRow (gm + 1) 56 5 (.slice A k c) k (rowCells (rowsN k))) (hbel : Below w.heap.size w wr) (hg : w.heap.size ≤ gm) :
    ∀ (v : Value) (w7 : World), w7.ownsRow (gm + 1) 56 5 v (k + 1) (rowCells (rowsN k) ++ [.int .i64 (k : Int), .int .i64 0, .int .i64 0, .int .i64 0, .int .i64 0]) →
      (wr.alloc (.cells #[.int .i64 (k : Int), .int .i64 0, .int .i64 0, .int .i64 0, .int .i64 0] 56)).grownBy w7 (Value.slice A k c).ownBlock →
      w7.cell? ⟨gm, 8, none⟩ = some (.slice A k c) ∧ w7.frozen? ⟨gm, 8, none⟩ = false ∧ RowsLoop w gm kk (k + 1) (w7.setCell ⟨gm, 8, none⟩ v) := by
  intro v w7 hown7 hgr
  have e1 : ∀ i, (Value.slice A k c).ownBlock = some i → gm + 1 ≤ i ∧ i < wr.heap.size := hown.lt
  have hck : Chg (fun i => some i = (Value.slice A k c).ownBlock) wr w7 := (Chg.refl _ _).alloc _ |>.grown hgr (fun i _ e => e)
  have hm7 : Box w7 gm 25 _ := hm.kept hck (fun e => by have := e1 gm e.symm; omega)
  have hb7 : Below w.heap.size w w7 := Chg.toBelow hbel hck hbel.size (fun i hi e => by have := e1 i e.symm; omega)
  obtain ⟨A2, c2, rfl⟩ := own_slice hown7
  have hne : (Value.slice A2 (k + 1) c2).ownBlock ≠ some gm := fun e => by have := (hown7.lt gm e).1; omega
  refine ⟨by simpa using hm7.reads 8, hm7.unmarked 8, ⟨A2, c2, by simpa using hm7.wrote 8 (.slice A2 (k + 1) c2), ?_⟩, ?_, hg⟩
  · rw [rowsN_snoc]
    exact own_set hown7 ⟨gm, 8, none⟩ _ hne
  · exact Chg.toBelow hb7 ((Chg.refl (· = gm) w7).setCell (p := ⟨gm, 8, none⟩) (fun _ => rfl) _) hb7.size (fun i hi e => by omega)
theorem cut_small {k : Int} (h : 0 ≤ k ∧ k ≤ 255) : MsgMath.cut k = k := by
  unfold MsgMath.cut; rw [if_neg (by omega), if_neg (by omega)]
set_option maxRecDepth 100000 in
set_option maxHeartbeats 2000000 in
theorem rows_main (K M : Nat) (w : World) (hg : ErrType w) (hK : K < 256) (hM : M < 256) :
    Calls Tryd.prog 7 #[.int .u8 (K : Int), .int .u8 (M : Int)] w fun e w' => e = .returned (.bool true) ∧ Below w.heap.size w w' := by
  have hk := fun w' => mknown_ok w'
  have HK := Lib.hid hk
  have HG := Lib.hid hg
  have hm1 := Int.emod_nonneg (K : Int) (show (80 : Int) ≠ 0 by omega)
  have hm2 := Int.emod_lt_of_pos (K : Int) (show (0 : Int) < 80 by omega)
  obtain ⟨kk, hkk⟩ := Int.eq_ofNat_of_zero_le hm1
  rw [hkk] at hm2
  have hn1 := Int.emod_nonneg (M : Int) (show (70 : Int) ≠ 0 by omega)
  have hn2 := Int.emod_lt_of_pos (M : Int) (show (0 : Int) < 70 by omega)
  obtain ⟨nn, hnn⟩ := Int.eq_ofNat_of_zero_le hn1
  rw [hnn] at hn2
  clear hk hg hm1 hn1
  go_enter Tryd.func7, Tryd.ntmps7
  go_wp2_with (go_at_call 9; refine Hid.out ?_)
  refine Lib.hid ?_
  refine (HK.out _).mono ?_
  rintro e w1 ⟨rfl, B1⟩
  go_wp2_with fail
  have h0 : RowsLoop w w1.heap.size kk 0 (w1.alloc (.cells #[.int .i64 (kk : Int), .int .i64 1, .int .i64 0, .int .i64 0, .int .i64 0, .int .i64 0, .int .i64 0, .int .i64 0, .slice none 0 0] 25)) :=
    ⟨⟨none, 0, Box.fresh _ _ _ rfl, World.ownsRow_nil _ _ _ _⟩, bel_alloc B1 _, B1.size⟩
  have H0 := Lib.hid h0
  have hz0 : w1.heap.size + 1 ≤ (w1.alloc (.cells #[.int .i64 (kk : Int), .int .i64 1, .int .i64 0, .int .i64 0, .int .i64 0, .int .i64 0, .int .i64 0, .int .i64 0, .slice none 0 0] 25)).heap.size := by simp
  have HZ0 := Lib.hid hz0
  clear h0 hz0
  obtain ⟨i0, hi0, hz0, hz1, hz2⟩ := info_parts row_info
  have HI0 := Lib.hid hi0
  have HI1 := Lib.hid hz0
  have HI2 := Lib.hid hz1
  have HI3 := Lib.hid hz2
  have HKK := Lib.hid hkk
  clear hi0 hz0 hz1 hz2 hkk
  go_loopw [7] (fun v7 wr => ∃ k : Nat, k ≤ nn ∧ v7 = .int .i64 k ∧ w1.heap.size + 1 ≤ wr.heap.size ∧ Hid (RowsLoop w w1.heap.size kk k wr)) (fun v7 _ => nn - (intOf v7).toNat)
  case atStart => exact ⟨0, by omega, rfl, HZ0.out, H0⟩
  case round =>
    obtain ⟨k, hk, rfl, hsz, hL⟩ := hrel
    obtain ⟨⟨A, c, hm, hown⟩, hbel, hg⟩ := hL.out
    have c8 := (hm.reads 8).trans (show _ = some (Value.slice A k c) from rfl)
    by_cases hlt : k < nn
    · have hst := RowsLoop.step hm hown hbel hg
      have HS := Lib.hid hst
      have HOW := Lib.hid hown
      clear hst hm hown hbel hg
      go_wp2_with (at_builtin; refine Hid.out ?_)
      refine Lib.hid ?_
      refine wpList_append_own_at _ rfl (.tmp 29) (.tmp 32) _ rfl (w1.heap.size + 1) 56 i0 _ 5 40 Tryd.underlying23 HI0.out HI1.out HI2.out HI3.out rfl (by omega) (.slice A k c) k _ rfl (own_alloc HOW.out _) ⟨wr.heap.size, 0, none⟩ 1 1 [.int .i64 (k : Int), .int .i64 0, .int .i64 0, .int .i64 0, .int .i64 0] rfl rfl (row_new _ _ _ _ _ _ _) (row_one _ _ _ _ _) (by simp only [maxLen]; omega) (by omega) (by simp; omega) ?_
      intro v7 w7 hown7 hgr7 _ _
      obtain ⟨A7, c7, rfl⟩ := own_slice hown7
      have hz7 := hgr7.size
      obtain ⟨g8, f8, hfin⟩ := HS.out _ w7 hown7 hgr7
      have HFN := Lib.hid hfin
      have hz8 : w1.heap.size + 1 ≤ (w7.setCell ⟨w1.heap.size, 8, none⟩ (.slice A7 (k + 1) c7)).heap.size := by simp at hz7; simp [World.setCell]; omega
      have HZ8 := Lib.hid hz8
      clear hfin hown7 hgr7 hz7 hz8
      go_wp2_with fail
      go_roundw
      case rel => exact ⟨k + 1, by omega, by go_num, HZ8.out, HFN⟩
      case measure => simp [intOf]; omega
    · obtain rfl : k = nn := by omega
      have hra : RowsAt wr wr.heap.size A k (rowsN k) := RowsAt.ofOwn hown (rowsN_len k) (rowsN_ok k (by omega))
      obtain ⟨c0, c1, c2, c3, c4, c5, c6, c7, _⟩ := box_cells hm
      have HRA := Lib.hid hra
      have HM := Lib.hid hm
      have hka : 0 ≤ (kk : Int) ∧ (kk : Int) ≤ 255 := ⟨by omega, by omega⟩
      have hcut := cut_small hka
      have HCT := Lib.hid hcut
      have hR := fun w => refRows_any (kk : Int) w
      have hKn := fun w => refKnown_any (kk : Int) w
      have hcd : MsgMath.chk (kk : Int) 1 (k : Int) = if MsgMath.known (kk : Int) = false then 5 else if (k : Int) < MsgMath.least (kk : Int) ∨ MsgMath.most (kk : Int) < (k : Int) then 4 else 0 := by
        unfold MsgMath.chk; rw [if_neg (show ¬ (1 : Int) < 0 by omega)]
      have HRR := Lib.hid hR
      have HKN := Lib.hid hKn
      have HCD := Lib.hid hcd
      clear hra hm hown hcut hR hKn hcd hlt hka
      go_wp2_with (go_at_call 21; refine Hid.out ?_)
      refine Lib.hid ?_
      refine (HRR.out wr).mono ?_
      rintro e w2 ⟨rfl, rfl⟩
      go_wp2_with (go_at_call 10; refine Hid.out ?_)
      refine Lib.hid ?_
      by_cases hc : MsgMath.chk (kk : Int) 1 (k : Int) = 0
      · have hok : (⟨(kk : Int), 1, 0, 0, 0, 0, 0, 0⟩ : Hd).ok := by
          intro z hz
          simp only [Hd.l, List.mem_cons, List.mem_nil_iff, or_false] at hz
          omega
        have hl := rowsN_len k
        have hcr : MsgMath.chk (kk : Int) 1 ((rowsN k).length : Int) = 0 := by rw [hl]; exact hc
        have hdo := decOut_enc ⟨kk, 1, 0, 0, 0, 0, 0, 0⟩ (rowsN k) hok HRA.out.ok (by rw [hl]; omega) hcr
        have hLb := encOf_len ⟨kk, 1, 0, 0, 0, 0, 0, 0⟩ (rowsN k) hok HRA.out.ok (by rw [hl]; omega)
        rw [hl] at hLb
        have hen := encode_ok ⟨kk, 1, 0, 0, 0, 0, 0, 0⟩ (rowsN k) A k c wr hok HRA.out hc
        obtain ⟨hkn, _, hlo, hhi⟩ := MsgMath.chk_ok hc
        have HEN := Lib.hid hen
        have HDO := Lib.hid hdo
        have hkk2 := fun w => HKN.out w
        rw [hkn] at hkk2
        have HK2 := Lib.hid hkk2
        generalize MsgMath.least (kk : Int) = lo at *
        generalize MsgMath.most (kk : Int) = hi at *
        have e1 : decide ((k : Int) < lo) = false := by simp; omega
        have e2 : decide (hi < (k : Int)) = false := by simp; omega
        clear hen hdo hcr hok hl hkk2 hkn hc
        refine HEN.out.mono ?_
        rintro e w3 ⟨A3, k3, rfl, hk3, hLk, hy3, B3⟩
        have HY3 := Lib.hid hy3
        have HK3 := Lib.hid hk3
        have hm3 := HM.out.kept_below B3 HM.out.there
        have HM3 := Lib.hid hm3
        have d8 := (hm3.reads 8).trans (show _ = some (Value.slice A k c) from rfl)
        have Bw3 : Below w.heap.size w w3 := bel_trans hbel B3
        have HRA3 := Lib.hid ((HRA.out.carry B3).wider B3.size)
        have hdec := decode_any A3 _ k3 _ w3 (by omega) hk3 hy3
        rw [HDO.out] at hdec
        have HDEC := Lib.hid hdec
        generalize (encOf ⟨(kk : Int), 1, 0, 0, 0, 0, 0, 0⟩ (rowsN k)).length = L at *
        clear hy3 hk3 hm3 B3 hdec c0 c1 c2 c3 c4 c5 c6 c7 c8
        go_wp2_with (go_at_call 23; refine Hid.out ?_)
        refine Lib.hid ?_
        refine (HK2.out w3).mono ?_
        rintro e w4 ⟨rfl, rfl⟩
        go_wp2_with (go_at_call 16; refine Hid.out ?_)
        refine Lib.hid ?_
        refine HDEC.out.mono ?_
        rintro e w4 ⟨v4, A4, n4, c4, rfl, hr4, _, B34, hv4, _⟩
        obtain rfl := hv4 rfl
        have hm4 := HM3.out.kept_below B34 HM3.out.there
        have hn4 : n4 = k := by have := hr4.len; rw [rowsN_len] at this; exact this.symm
        subst hn4
        have HR4 := Lib.hid hr4
        have HM4 := Lib.hid hm4
        have Bw4 : Below w.heap.size w w4 := bel_trans Bw3 B34
        have a8 : ∀ o, (w4.alloc o).cell? ⟨w1.heap.size, 8, none⟩ = some (.slice A n4 c) := fun o => ((bel_new w4 o).cell (p := ⟨w1.heap.size, 8, none⟩) hm4.there).trans ((hm4.reads 8).trans rfl)
        have a0 : ∀ o, (w4.alloc o).cell? ⟨w1.heap.size, 0, none⟩ = some (.int .i64 (kk : Int)) := fun o => ((bel_new w4 o).cell (p := ⟨w1.heap.size, 0, none⟩) hm4.there).trans ((hm4.reads 0).trans rfl)
        have a1 : ∀ o, (w4.alloc o).cell? ⟨w1.heap.size, 1, none⟩ = some (.int .i64 1) := fun o => ((bel_new w4 o).cell (p := ⟨w1.heap.size, 1, none⟩) hm4.there).trans ((hm4.reads 1).trans rfl)
        have a2 : ∀ o, (w4.alloc o).cell? ⟨w1.heap.size, 2, none⟩ = some (.int .i64 0) := fun o => ((bel_new w4 o).cell (p := ⟨w1.heap.size, 2, none⟩) hm4.there).trans ((hm4.reads 2).trans rfl)
        have a3 : ∀ o, (w4.alloc o).cell? ⟨w1.heap.size, 3, none⟩ = some (.int .i64 0) := fun o => ((bel_new w4 o).cell (p := ⟨w1.heap.size, 3, none⟩) hm4.there).trans ((hm4.reads 3).trans rfl)
        have a4 : ∀ o, (w4.alloc o).cell? ⟨w1.heap.size, 4, none⟩ = some (.int .i64 0) := fun o => ((bel_new w4 o).cell (p := ⟨w1.heap.size, 4, none⟩) hm4.there).trans ((hm4.reads 4).trans rfl)
        have a5 : ∀ o, (w4.alloc o).cell? ⟨w1.heap.size, 5, none⟩ = some (.int .i64 0) := fun o => ((bel_new w4 o).cell (p := ⟨w1.heap.size, 5, none⟩) hm4.there).trans ((hm4.reads 5).trans rfl)
        have a6 : ∀ o, (w4.alloc o).cell? ⟨w1.heap.size, 6, none⟩ = some (.int .i64 0) := fun o => ((bel_new w4 o).cell (p := ⟨w1.heap.size, 6, none⟩) hm4.there).trans ((hm4.reads 6).trans rfl)
        have a7 : ∀ o, (w4.alloc o).cell? ⟨w1.heap.size, 7, none⟩ = some (.int .i64 0) := fun o => ((bel_new w4 o).cell (p := ⟨w1.heap.size, 7, none⟩) hm4.there).trans ((hm4.reads 7).trans rfl)
        have hs := fun w' (h1 : Below w4.heap.size w4 w') => same_any ⟨(kk : Int), 1, 0, 0, 0, 0, 0, 0⟩ ⟨(kk : Int), 1, 0, 0, 0, 0, 0, 0⟩ A4 A n4 n4 c4 c (rowsN n4) (rowsN n4) w' w'.heap.size w'.heap.size ((HR4.out.carry h1).wider h1.size) (((HRA3.out.carry B34).wider B34.size |>.carry h1).wider h1.size) (Nat.le_refl _) (Nat.le_refl _) (by unfold maxLen; omega)
        have HS := Lib.hid hs
        have hsb : sameB ⟨(kk : Int), 1, 0, 0, 0, 0, 0, 0⟩ ⟨(kk : Int), 1, 0, 0, 0, 0, 0, 0⟩ (rowsN n4) (rowsN n4) = true := sameB_iff.2 ⟨rfl, rfl⟩
        have HSB := Lib.hid hsb
        clear hr4 hm4 B34 hs hv4 d8 hsb
        go_wp2_with (go_at_call 17; refine Hid.out ?_)
        refine Lib.hid ?_
        refine (HS.out _ (bel_new w4 _)).mono ?_
        rintro e w5 ⟨rfl, B5⟩
        rw [HSB.out]
        go_wp2_with fail
        go_ret
        exact ⟨rfl, bel_trans (bel_alloc Bw4 _) B5⟩
      · have hbd := encode_bad ⟨kk, 1, 0, 0, 0, 0, 0, 0⟩ A k c wr hc
        have HBD := Lib.hid hbd
        have HC := Lib.hid hc
        clear hbd hc
        refine HBD.out.mono ?_
        rintro e w3 ⟨b, rfl, hE, B3⟩
        have hm3 := HM.out.kept_below B3 HM.out.there
        have d8 := (hm3.reads 8).trans (show _ = some (Value.slice A k c) from rfl)
        have Bw3 : Below w.heap.size w w3 := bel_trans hbel B3
        have hE' : IsErr w3 w3.heap.size [(msgBytes, (kk : Int))] ((MsgMath.chk (kk : Int) 1 (k : Int) : Nat) : Int) (.iface 74 (.pointer (some ⟨b, 0, none⟩))) := by
          have := hE
          simp only [HCT.out] at this
          exact this
        have htl := fun (A7 : Option Addr) (n7 c7 : Nat) (w7 : World) (h7 : Below w3.heap.size w3 w7) (hp : PartsAt w7 w7.heap.size A7 n7 [(msgBytes, (kk : Int))]) =>
          tells_all numSmall msgBytes (kk : Int) [] A7 n7 c7 (MsgMath.chk (kk : Int) 1 (k : Int)) b w7 (((bel_trans Bw3 h7).cell (p := ⟨0, 0, none⟩) HG.out.lt).trans HG.out) ((hE'.carry h7).wider h7.size) hp trivial (fun x hx => by
            simp at hx; subst hx; exact ⟨(show msgBytes.size ≤ 100 by decide), ⟨by omega, by omega⟩⟩) (by simp) (by have := MsgMath.chk_bd (kk : Int) 1 (k : Int); omega) HC.out
        have HTL := Lib.hid htl
        clear hE hE' htl hm3 B3 c0 c1 c2 c3 c4 c5 c6 c7 c8
        by_cases hkn : MsgMath.known (kk : Int) = true
        · have hck : MsgMath.chk (kk : Int) 1 (k : Int) = 4 := by
            have h1 := HCD.out
            have h2 := HC.out
            rw [hkn, if_neg (by decide)] at h1
            rw [h1] at h2 ⊢
            split at h2
            · rw [if_pos (by assumption)]
            · exact absurd rfl h2
          have hout : (k : Int) < MsgMath.least (kk : Int) ∨ MsgMath.most (kk : Int) < (k : Int) := by
            have h1 := HCD.out
            rw [hkn, if_neg (by decide), hck] at h1
            by_cases hh : (k : Int) < MsgMath.least (kk : Int) ∨ MsgMath.most (kk : Int) < (k : Int)
            · exact hh
            · rw [if_neg hh] at h1; cases h1
          rw [hck] at HTL
          generalize MsgMath.least (kk : Int) = lo at *
          generalize MsgMath.most (kk : Int) = hi at *
          have HKT := Lib.hid hkn
          have hkk2 := fun w => HKN.out w
          rw [hkn] at hkk2
          have HK2 := Lib.hid hkk2
          clear hkn hck hkk2
          by_cases hlo : (k : Int) < lo
          · have e1 : decide ((k : Int) < lo) = true := by simpa using hlo
            clear hout
            go_wp2_with (go_at_call 23; refine Hid.out ?_)
            refine Lib.hid ?_
            refine (HK2.out w3).mono ?_
            rintro e w4 ⟨rfl, rfl⟩
            go_wp2_with (go_at_call 24; refine Hid.out ?_)
            refine Lib.hid ?_
            refine (refAt_any _ _ _ _).mono ?_
            rintro e w7 ⟨A7, n7, c7, rfl, _, hp7, B67⟩
            have h7 := HTL.out A7 n7 c7 w7 B67 hp7
            have HT7 := Lib.hid h7
            clear h7 hp7
            go_wp2_with (go_at_call 13; refine Hid.out ?_)
            refine Lib.hid ?_
            refine HT7.out.mono ?_
            rintro e w8 ⟨rfl, B78⟩
            go_wp2_with fail
            go_ret
            exact ⟨rfl, bel_trans (bel_trans Bw3 B67) B78⟩
          · have e1 : decide ((k : Int) < lo) = false := by simpa using hlo
            have e2 : decide (hi < (k : Int)) = true := by simp; omega
            clear hout hlo
            go_wp2_with (go_at_call 23; refine Hid.out ?_)
            refine Lib.hid ?_
            refine (HK2.out w3).mono ?_
            rintro e w4 ⟨rfl, rfl⟩
            go_wp2_with (go_at_call 24; refine Hid.out ?_)
            refine Lib.hid ?_
            refine (refAt_any _ _ _ _).mono ?_
            rintro e w7 ⟨A7, n7, c7, rfl, _, hp7, B67⟩
            have h7 := HTL.out A7 n7 c7 w7 B67 hp7
            have HT7 := Lib.hid h7
            clear h7 hp7
            go_wp2_with (go_at_call 13; refine Hid.out ?_)
            refine Lib.hid ?_
            refine HT7.out.mono ?_
            rintro e w8 ⟨rfl, B78⟩
            go_wp2_with fail
            go_ret
            exact ⟨rfl, bel_trans (bel_trans Bw3 B67) B78⟩
        · have hkf : MsgMath.known (kk : Int) = false := by simpa using hkn
          have hck : MsgMath.chk (kk : Int) 1 (k : Int) = 5 := by rw [HCD.out, hkf, if_pos rfl]
          rw [hck] at HTL
          have hkk2 := fun w => HKN.out w
          rw [hkf] at hkk2
          have HK2 := Lib.hid hkk2
          clear hkn hkf hck hkk2
          go_wp2_with (go_at_call 23; refine Hid.out ?_)
          refine Lib.hid ?_
          refine (HK2.out w3).mono ?_
          rintro e w4 ⟨rfl, rfl⟩
          go_wp2_with (go_at_call 24; refine Hid.out ?_)
          refine Lib.hid ?_
          refine (refAt_any _ _ _ _).mono ?_
          rintro e w7 ⟨A7, n7, c7, rfl, _, hp7, B67⟩
          have h7 := HTL.out A7 n7 c7 w7 B67 hp7
          have HT7 := Lib.hid h7
          clear h7 hp7
          go_wp2_with (go_at_call 13; refine Hid.out ?_)
          refine Lib.hid ?_
          refine HT7.out.mono ?_
          rintro e w8 ⟨rfl, B78⟩
          go_wp2_with fail
          go_ret
          exact ⟨rfl, bel_trans (bel_trans Bw3 B67) B78⟩
end Go.Proofs.YtegjimagphdncaaDoor
