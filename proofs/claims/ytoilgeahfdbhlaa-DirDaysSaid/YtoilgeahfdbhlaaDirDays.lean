/- straddlelaw8.DirDays returns true. -/
import Derived.Test.YtoilgeahfdbhlaaDirDaysM
import Derived.Test.YtoilgeahfdbhlaaBy
set_option linter.unusedSimpArgs false
namespace Go.Proofs.Ytoilgeahfdbhlaa
open Go.RowKit Go.Mem1 Go.GridMath Go.DirMath

theorem bool_info : (Try.prog.info? 4).map (fun i => (i.zero, i.size, i.bytes)) = some (some (.bool false), 1, 1) := by kernel_rfl
theorem made_bools (n : Nat) : (madeCells (Value.bool false).cells n).toList = List.replicate n (.bool false) := toList_madeCells_one _ n
theorem seen0 (E : List Nat) (n : Nat) : List.replicate (n + 1) (Value.bool false) = seenV n (seenF E 0) := by
  apply List.ext_getElem?
  intro j
  by_cases hj : j ≤ n
  · rw [seenV_at hj, List.getElem?_replicate, if_pos (by omega)]
    cases j with
    | zero => rfl
    | succ i =>
      cases he : E[i]? with
      | none => rw [seenF_none he]
      | some e => rw [seenF_some he, decide_eq_false (by omega)]
  · rw [List.getElem?_eq_none (by simp; omega), List.getElem?_eq_none (by simp [seenV]; omega)]
theorem make_seen (n : Nat) (hn : n ≤ 30) : ∃ M : Array Value, M.toList = List.replicate (n + 1) (Value.bool false) ∧ ∀ W : World, (Instr.makeSlice 37 (.int .i64 ((n : Int) + 1)) (.int .i64 ((n : Int) + 1))).run Try.prog W = .ok (.slice (some ⟨W.heap.size, 0, none⟩) (n + 1) (n + 1)) (W.alloc (.cells M 4)) := by
  obtain ⟨i0, hi0, hz0, hz1, hz2⟩ := info_parts bool_info
  refine ⟨_, made_bools (n + 1), fun W => ?_⟩
  have h := run_make (P := Try.prog) W 37 4 i0 (.bool false) Try.underlying37 hi0 hz0 .i64 .i64 ((n : Int) + 1) ((n : Int) + 1) (by omega) (by omega) (by rw [hz2]; omega) (by omega)
  rw [hz1, show ((n : Int) + 1).toNat = n + 1 by omega, Nat.mul_one] at h
  exact h
/-- While the series are put in. -/
def DaysJ1 (w2 : World) (B : Nat) (vC v : Value) (E : List Nat) (k : Nat) (wr : World) : Prop := ∃ vL, DirAt wr B B vC vL [(ab, v, pl)] (stL (E.take k) 0) 0 ∧ Below B w2 wr
/-- While the days go. -/
def DaysJ2 (w2 : World) (B gs : Nat) (vC vL v : Value) (E : List Nat) (n : Nat) (now : Int) (f : Nat → Bool) (wr : World) : Prop :=
  DirAt wr B B vC vL [(ab, v, pl)] (stL E now) now ∧ wr.ownsRow B 4 1 (.slice (some ⟨gs, 0, none⟩) (n + 1) (n + 1)) (n + 1) (seenV n f) ∧ Below B w2 wr
theorem J1_step {w2 wr : World} {B : Nat} {vC v : Value} {E : List Nat} {k e : Nat} (h : DaysJ1 w2 B vC v E k wr) (he : E[k]? = some e) (hk : k < 30) (hb : e < 256) :
    Calls Try.prog 7 #[.pointer (some ⟨B, 0, none⟩), serV ⟨ab, 1 + (e : Int), (k : Int) + 1, 1⟩] wr fun e' w' => e' = .returned (.tuple #[.int .i64 ((k : Int) + 1), .nilIface]) ∧ DaysJ1 w2 B vC v E (k + 1) w' := by
  obtain ⟨vL, hD, hB⟩ := h
  have hkl : k < E.length := by
    rcases Nat.lt_or_ge k E.length with h' | h'
    · exact h'
    · rw [List.getElem?_eq_none h'] at he; cases he
  have hl : (stL (E.take k) 0).length = k := by rw [stL_len, List.length_take]; omega
  have := list_ok hD ⟨ab, 1 + (e : Int), (k : Int) + 1, 1⟩ size_ab (by
    rw [wS_ab (by omega) (by omega) (Or.inl rfl) (stL_strikes (by rw [List.length_take]; omega)) (by omega), hl, if_neg (by omega)]) (by omega)
  refine this.mono fun e' w' ⟨h1, vL', h2, h3⟩ => ⟨by rw [h1, hl], vL', ?_, hB.trans h3⟩
  rw [stL_snoc he]
  exact h2
/-- While a day's numbers are gone over. -/
def DaysJ3 (w2 : World) (B gs bi : Nat) (vC vL v vI : Value) (E : List Nat) (n : Nat) (now d : Int) (ids : List Int) (j : Nat) (wr : World) : Prop :=
  DaysJ2 w2 B gs vC vL v E n d (seenK E now ids j) wr ∧ wr.ownsRow bi 3 1 vI ids.length (ints ids)
theorem J3_start {w2 wr w4 : World} {B gs : Nat} {vC vL v vI : Value} {E : List Nat} {n : Nat} {now d : Int} (h : DaysJ2 w2 B gs vC vL v E n now (seenF E now) wr) (hd : now < d) (ho : w4.ownsRow wr.heap.size 3 1 vI (goneIds d (stL E now)).length (ints (goneIds d (stL E now))))
    (hD : DirAt w4 B B vC vL [(ab, v, pl)] (gone d (stL E now)) d) (hC : Chg (fun j => j = B ∨ some j = vL.ownBlock) wr w4) : DaysJ3 w2 B gs wr.heap.size vC vL v vI E n now d (goneIds d (stL E now)) 0 w4 := by
  obtain ⟨h1, h2, h3⟩ := h
  rw [stL_gone hd] at hD
  refine ⟨⟨hD, ?_, h3.trans (h1.chgBelow hC)⟩, ho⟩
  rw [seenV_congr (fun j _ => seenK_zero E now _ j)]
  exact own_chg h2 hC (fun k hk hs => by
    rcases hs with e | e
    · exact h1.box.off_row h2 (by decide) (by rw [hk, e])
    · exact own_apart h2 h1.rowL (by decide) hk e.symm)
theorem J3_step {w2 wr : World} {B gs bi : Nat} {vC vL v vI : Value} {E : List Nat} {n : Nat} {now d : Int} {j i : Nat} (h : DaysJ3 w2 B gs bi vC vL v vI E n now d (goneIds d (stL E now)) j wr) (hi : (goneIds d (stL E now))[j]? = some ((i : Int) + 1)) (hin : i < n) (hgs : B ≤ w2.heap.size) :
    wr.frozen? ⟨gs, i + 1, none⟩ = false ∧ wr.cell? ⟨gs, i + 1, none⟩ = some (.bool (seenK E now (goneIds d (stL E now)) j (i + 1))) ∧ DaysJ3 w2 B gs bi vC vL v vI E n now d (goneIds d (stL E now)) (j + 1) (wr.setCell ⟨gs, i + 1, none⟩ (.bool true)) ∧ wr.drew.frozen? ⟨gs, i + 1, none⟩ = false := by
  obtain ⟨⟨h1, h2, h3⟩, h4⟩ := h
  obtain ⟨hs, hg⟩ := h2.stored (i + 1) (.bool true)
  have hC := Chg.of_grown hg
  have hC2 : Chg (fun k => some k = (Value.slice (some ⟨gs, 0, none⟩) (n + 1) (n + 1)).ownBlock) wr (wr.setCell ⟨gs, i + 1, none⟩ (.bool true)) := hC
  have hgB : B ≤ gs := (h2.lt gs rfl).1
  refine ⟨h2.frozenAt _, own_cell h2 (seenV_at (by omega)), ⟨⟨h1.other h2 (by decide) (by decide) (by decide) (by decide) hC2, ?_, Chg.toBelow h3 hC2 (by have := h3.size; omega) (fun k hk e => by injection e with e; have e2 : k = gs := e; omega)⟩,
    own_chg h4 hC2 (fun k hk e => own_apart h4 h2 (by decide) hk e.symm)⟩, h2.frozenAt _⟩
  rw [seenV_set (g := seenK E now (goneIds d (stL E now)) (j + 1)) (fun j' _ => seenK_succ hi j')] at hs
  exact hs
theorem J3_drew {w2 wr : World} {B gs bi : Nat} {vC vL v vI : Value} {E : List Nat} {n : Nat} {now d : Int} {ids : List Int} {j : Nat} (h : DaysJ3 w2 B gs bi vC vL v vI E n now d ids j wr) (q : Nat) : DaysJ3 w2 B gs bi vC vL v vI E n now d ids j (wr.drewN q) := by
  have hb : Below wr.heap.size wr (wr.drewN q) := bel_drawn (Below.refl _ _) q
  exact ⟨⟨h.1.1.carry hb, own_keep h.1.2.1 hb, h.1.2.2.trans (hb.mono (Nat.le_of_lt h.1.1.base))⟩, own_keep h.2 hb⟩
theorem J3_end {w2 wr : World} {B gs bi : Nat} {vC vL v vI : Value} {E : List Nat} {n : Nat} {now d : Int} (h : DaysJ3 w2 B gs bi vC vL v vI E n now d (goneIds d (stL E now)) (goneIds d (stL E now)).length wr) (hd : now < d) : DaysJ2 w2 B gs vC vL v E n d (seenF E d) wr := by
  obtain ⟨⟨h1, h2, h3⟩, _⟩ := h
  rw [seenV_congr (fun j _ => seenK_all hd j)] at h2
  exact ⟨h1, h2, h3⟩
/-- While all is asked at the end. -/
def DaysJ4 (w2 : World) (B gs : Nat) (vC vL v : Value) (E : List Nat) (n : Nat) (now : Int) (k : Nat) (wr : World) : Prop :=
  ∃ L, DirAt wr B B vC vL [(ab, v, pl)] L now ∧ (∀ j, k ≤ j → L[j]? = (stL E now)[j]?) ∧ wr.ownsRow B 4 1 (.slice (some ⟨gs, 0, none⟩) (n + 1) (n + 1)) (n + 1) (seenV n (seenF E now)) ∧ Below B w2 wr
theorem J4_at {w2 wr : World} {B gs : Nat} {vC vL v : Value} {E : List Nat} {n : Nat} {now : Int} {k e : Nat} (h : DaysJ4 w2 B gs vC vL v E n now k wr) (he : E[k]? = some e) (hk : k < n) :
    wr.cell? ⟨gs, k + 1, none⟩ = some (.bool (decide (1 + (e : Int) ≤ now))) ∧
    Calls Try.prog 9 #[.pointer (some ⟨B, 0, none⟩), .int .i64 ((k : Int) + 1)] wr (fun e' w' => e' = .returned (.int .i64 (if 1 + (e : Int) ≤ now then 4 else 1)) ∧ DaysJ4 w2 B gs vC vL v E n now k w') ∧
    (1 + (e : Int) ≤ now → Calls Try.prog 10 #[.pointer (some ⟨B, 0, none⟩), .int .i64 ((k : Int) + 1), .int .i64 2] wr (fun e' w' => (∃ b : Nat, e' = .returned (.iface 69 (.pointer (some ⟨b, 0, none⟩)))) ∧ DaysJ4 w2 B gs vC vL v E n now (k + 1) w')) ∧
    (¬ 1 + (e : Int) ≤ now → Calls Try.prog 10 #[.pointer (some ⟨B, 0, none⟩), .int .i64 ((k : Int) + 1), .int .i64 2] wr (fun e' w' => e' = .returned .nilIface ∧ DaysJ4 w2 B gs vC vL v E n now (k + 1) w')) := by
  obtain ⟨L, h1, h2, h3, h4⟩ := h
  have hx := (h2 k (Nat.le_refl _)).trans (stL_at (now := now) he)
  refine ⟨?_, ?_, fun hg => ?_, fun hg => ?_⟩
  · rw [own_cell h3 (seenV_at (show k + 1 ≤ n by omega)), seenF_some he]
  · refine (state_any h1 ((k : Int) + 1)).mono fun e' w' ⟨ha, hb⟩ => ⟨?_, L, h1.carry hb, h2, own_keep h3 hb, h4.trans (hb.mono (Nat.le_of_lt h1.base))⟩
    rw [ha]
    unfold atL
    rw [lookL_some hx]
    rfl
  · rw [if_pos hg] at hx
    exact (set_bad h1 k _ hx 2 (show wT 4 2 ≠ 0 by decide)).mono fun e' w' ⟨b, ha, _, hb⟩ => ⟨⟨b, ha⟩, L, h1.carry hb, fun j hj => h2 j (by omega), own_keep h3 hb, h4.trans (hb.mono (Nat.le_of_lt h1.base))⟩
  · rw [if_neg hg] at hx
    exact (set_ok h1 k _ hx 2 (show wT 1 2 = 0 by decide)).mono fun e' w' ⟨ha, hD, hC⟩ => ⟨ha, _, hD, fun j hj => by
      rw [List.getElem?_set, if_neg (by omega)]
      exact h2 j (by omega), own_chg h3 hC (fun j hj e => own_apart h3 h1.rowL (by decide) hj e.symm), h4.trans (h1.chgBelow (hC.mono (fun _ _ h => Or.inr h)))⟩
set_option maxRecDepth 100000 in
set_option maxHeartbeats 4000000 in
theorem days_main (A1 A2 : Option Addr) (n1 n2 c1 c2 : Nat) (E D : List Nat) (w : World) (h1 : Byt w w.heap.size A1 n1 E) (h2 : Byt w w.heap.size A2 n2 D) (hn1 : n1 ≤ 30) (hn2 : n2 ≤ 40) :
    Calls Try.prog 3 #[.slice A1 n1 c1, .slice A2 n2 c2] w fun e w' => e = .returned (.bool true) ∧ Below w.heap.size w w' := by
  have HE := Lib.hid h1
  have HD := Lib.hid h2
  have hl1 := h1.len
  have hl2 := h2.len
  have HL1 := Lib.hid hl1
  have HL2 := Lib.hid hl2
  have t1 : decide ((30 : Int) < (n1 : Int)) = false := by simp; omega
  have t2 : decide ((40 : Int) < (n2 : Int)) = false := by simp; omega
  clear h1 h2 hl1 hl2
  go_enter Try.func3, Try.ntmps3
  go_wp2_with (go_at_call 4; refine (dknown_ok _).mono ?_; rintro e w0 ⟨rfl, hb0⟩; replace hb0 := Lib.hid hb0)
  go_wp2_with (go_at_call 5; refine Hid.out ?_)
  refine Lib.hid ?_
  refine (new_any w0).mono ?_
  rintro e w1 ⟨rfl, hD1, hb1⟩
  obtain ⟨B, hB⟩ : ∃ B, w0.heap.size = B := ⟨_, rfl⟩
  rw [hB] at hD1 hb1 ⊢
  have HK := Lib.hid (class_ab hD1 rfl)
  have HB1 := Lib.hid (hb0.out.trans (hb1.mono (by rw [← hB]; exact hb0.out.size)))
  have hBw : w.heap.size ≤ B := by rw [← hB]; exact hb0.out.size
  have hB1 : B ≤ w1.heap.size := Nat.le_of_lt hD1.base
  clear hD1 hb1 hb0 hB t1 t2
  go_wp2_with (go_at_call 6; refine Hid.out ?_)
  refine Lib.hid ?_
  refine HK.out.mono ?_
  rintro e w2 ⟨rfl, vC, v, hD2, hb2⟩
  have HB2 := Lib.hid (HB1.out.trans (hb2.mono hBw))
  have HJ1 : Hid (DaysJ1 w2 B vC v E 0 w2) := ⟨_, hD2, Below.refl _ _⟩
  have hB2 : B ≤ w2.heap.size := Nat.le_of_lt hD2.base
  clear hD2 hb2 HK HB1 hB1
  go_wp2_with fail
  go_loopw [6] (fun v6 wr => ∃ k : Nat, k ≤ n1 ∧ v6 = .int .i64 k ∧ Hid (DaysJ1 w2 B vC v E k wr)) (fun v6 _ => n1 - (intOf v6).toNat)
  case atStart => exact ⟨0, by omega, rfl, HJ1⟩
  case round =>
    obtain ⟨k, hk, rfl, hJ⟩ := hrel
    by_cases hlt : k < n1
    · obtain ⟨b, off, X, rfl, hbl, hX, hEk, hcell⟩ := HE.out.at_ hlt
      have hwr : Below w.heap.size w wr := by
        obtain ⟨_, _, hb⟩ := hJ.out
        exact HB2.out.trans (hb.mono hBw)
      have d0 := (hwr.cell (p := ⟨b, off + k, none⟩) hbl).trans hcell
      have HS := Lib.hid (J1_step hJ.out hEk (by omega) hX)
      have hX0 : (0 : Int) ≤ (X : Int) := by omega
      have hX1 : (X : Int) < 256 := by omega
      clear hEk hcell hwr hJ
      go_wp2_with (go_at_call 7; refine Hid.out ?_)
      refine Lib.hid ?_
      refine HS.out.mono ?_
      rintro e w3 ⟨rfl, hJ3⟩
      have HJ3 := Lib.hid hJ3
      clear hJ3 HS d0
      go_wp2_with fail
      go_roundw
      case rel => exact ⟨k + 1, by omega, by go_num, HJ3⟩
      case measure => simp [intOf]; omega
    · obtain rfl : k = n1 := by omega
      obtain ⟨w3, rfl⟩ : ∃ w3, w3 = wr := ⟨_, rfl⟩
      obtain ⟨vL, hD3, hB3⟩ := hJ.out
      have etk : E.take k = E := List.take_of_length_le (by rw [HL1.out]; exact Nat.le_refl _)
      rw [etk] at hD3
      obtain ⟨M, hM, hmk⟩ := make_seen k hn1
      have HM := Lib.hid hM
      have hJ2 : DaysJ2 w2 B w3.heap.size vC vL v E k 0 (seenF E 0) (w3.alloc (.cells M 4)) := by
        refine ⟨hD3.carry (bel_new _ _), ?_, hB3.alloc (Nat.le_trans hB2 hB3.size |> fun h => h) _⟩
        have := World.ownsRow_lit (base := B) (e := 4) (size := 1) w3 M (k + 1) (Nat.le_trans hB2 hB3.size) (by simp only [maxLen]; omega) (by rw [← Array.length_toList, hM]; simp)
        rw [hM, seen0 E k] at this
        exact this
      have HJ2 := Lib.hid hJ2
      obtain ⟨gs, hgs⟩ : ∃ gs, w3.heap.size = gs := ⟨_, rfl⟩
      rw [hgs] at HJ2
      clear hJ2 hM hJ hD3 hB3 etk HJ1
      go_wp2_with fail
      clear hmk
      go_loopw [9, 11] (fun v9 v11 wr => ∃ (k2 : Nat) (now : Int), k2 ≤ n2 ∧ v11 = .int .i64 k2 ∧ v9 = .int .i64 now ∧ 0 ≤ now ∧ now < 256 ∧ Hid (DaysJ2 w2 B gs vC vL v E k now (seenF E now) wr)) (fun _ v11 _ => n2 - (intOf v11).toNat)
      case atStart => exact ⟨0, 0, by omega, rfl, rfl, by omega, by omega, HJ2⟩
      case round =>
        obtain ⟨k2, now, hk2, rfl, rfl, hnow0, hnow1, hJ⟩ := hrel
        clear HJ2 hgs
        by_cases hlt2 : k2 < n2
        · obtain ⟨b, off, X, rfl, hbl, hX, hEk, hcell⟩ := HD.out.at_ hlt2
          obtain ⟨hDir, hSeen, hBel⟩ := hJ.out
          have hwr : Below w.heap.size w wr := HB2.out.trans (hBel.mono hBw)
          have d0 := (hwr.cell (p := ⟨b, off + k2, none⟩) hbl).trans hcell
          have hX0 : (0 : Int) ≤ (X : Int) := by omega
          have hX1 : (X : Int) < 256 := by omega
          have i1 : (0 : Int) ≤ (k2 : Int) := by omega
          have i2 : (k2 : Int) < (n2 : Int) := by omega
          by_cases hd : (X : Int) ≤ now
          · have HY := Lib.hid (day_none hDir X hd)
            have t1 : decide (now < (X : Int)) = false := by simpa using hd
            clear hEk hcell hwr hDir hSeen hBel hd
            go_wp2_with (go_at_call 8; refine HY.out.mono ?_; rintro e w' ⟨rfl, rfl⟩)
            refine wp_loop_rounds 1 ?_
            rw [rounds_succ]
            go_wp2_with fail
            go_roundw
            case rel => exact ⟨k2 + 1, now, by omega, by go_num, rfl, hnow0, hnow1, hJ⟩
            case measure => simp [intOf]; omega
          · have hd' : now < (X : Int) := by omega
            have t1 : decide (now < (X : Int)) = true := by simpa using hd'
            have HY := Lib.hid (day_any hDir X hd')
            have HJO := Lib.hid hJ.out
            have HDL := Lib.hid hd'
            obtain ⟨w3, rfl⟩ : ∃ w3, w3 = wr := ⟨_, rfl⟩
            clear hEk hwr hDir hSeen hBel hd hd' hJ
            go_wp2_with (go_at_call 8; refine Hid.out ?_)
            refine Lib.hid ?_
            refine HY.out.mono ?_
            rintro e w4 ⟨A4, c4, rfl, ho4, hD4, hC4⟩
            have HJ3 := Lib.hid (J3_start HJO.out HDL.out ho4 hD4 hC4)
            have hb4 : Below w.heap.size w w4 := by
              obtain ⟨⟨_, _, hb⟩, _⟩ := HJ3.out
              exact HB2.out.trans (hb.mono hBw)
            have d4 := (hb4.cell (p := ⟨b, off + k2, none⟩) hbl).trans hcell
            obtain ⟨m, hm⟩ : ∃ m, (goneIds (X : Int) (stL E now)).length = m := ⟨_, rfl⟩
            have HM2 := Lib.hid hm
            have hmk : m ≤ k := by
              rw [← hm]
              have := ids_len (X : Int) (stL E now) (stL E now).length
              rw [List.take_length, stL_len, HL1.out] at this
              exact this
            rw [hm] at HJ3 ⊢
            clear ho4 hD4 hC4 hb4 d0 HY hcell hm
            go_wp2_with fail
            clear d4
            go_loopw [13] (fun v13 wr => ∃ j : Nat, j ≤ m ∧ v13 = .int .i64 j ∧ Hid (DaysJ3 w2 B gs w3.heap.size vC vL v (.slice A4 m c4) E k now (X : Int) (goneIds (X : Int) (stL E now)) j wr)) (fun v13 _ => m - (intOf v13).toNat)
            case atStart => exact ⟨0, by omega, rfl, HJ3⟩
            case round =>
              obtain ⟨j, hj, rfl, hJ⟩ := hrel
              clear HJ3
              by_cases hlt3 : j < m
              · obtain ⟨x, hx⟩ : ∃ x, (goneIds (X : Int) (stL E now))[j]? = some x := ⟨_, List.getElem?_eq_getElem (by rw [HM2.out]; exact hlt3)⟩
                obtain ⟨i, rfl, hiE, hun, hprev⟩ := id_at hx
                rw [HL1.out] at hiE
                obtain ⟨hf, hc, hnext, hfd⟩ := J3_step hJ.out hx hiE hB2
                have hNX := fun q => J3_step (J3_drew hJ.out q) hx hiE hB2
                have hI := hJ.out.2
                rw [HM2.out] at hI
                obtain ⟨gi, rfl⟩ : ∃ gi, A4 = some ⟨gi, 0, none⟩ := by
                  rcases own_form hI with ⟨_, h0⟩ | ⟨g, c, e, _⟩
                  · omega
                  · injection e with e _ _; exact ⟨g, e⟩
                have hcj : wr.cell? ⟨gi, j, none⟩ = some (.int .i64 ((i : Int) + 1)) := own_cell hI (by simp [ints, hx])
                rw [hun] at hc
                have q1 : (0 : Int) ≤ (j : Int) := by omega
                have q2 : (j : Int) < (m : Int) := by omega
                have q3 : (0 : Int) ≤ (i : Int) + 1 := by omega
                have q4 : (i : Int) + 1 < (k : Int) + 1 := by omega
                have q5 : decide ((i : Int) + 1 < 1) = false := by simp; omega
                have q6 : decide ((k : Int) < (i : Int) + 1) = false := by simp; omega
                have HNX := Lib.hid hNX
                clear hnext hNX hJ hx
                rcases Nat.eq_zero_or_pos j with h0 | h0
                · obtain rfl : j = 0 := h0
                  clear hprev hI q1 q2
                  go_wp2_with fail
                  go_quiet (fail)
                  go_wp2_with fail
                  go_roundw
                  case rel => exact ⟨0 + 1, by omega, by first | rfl | go_num, Lib.hid (HNX.out _).2.2.1⟩
                  case measure => simp [intOf]; omega
                · have q7 : decide ((0 : Int) < (j : Int)) = true := by simp; omega
                  have q8 : decide (0 < j) = true := by simp; omega
                  obtain ⟨y, hy⟩ : ∃ y, (goneIds (X : Int) (stL E now))[j - 1]? = some y := ⟨_, List.getElem?_eq_getElem (by rw [HM2.out]; omega)⟩
                  have hyx := hprev y h0 hy
                  have hcy : wr.cell? ⟨gi, j - 1, none⟩ = some (.int .i64 y) := own_cell hI (by simp [ints, hy])
                  have q9 : decide ((i : Int) + 1 ≤ y) = false := by simp; omega
                  obtain ⟨j', rfl⟩ : ∃ j', j = j' + 1 := ⟨j - 1, by omega⟩
                  rw [Nat.add_sub_cancel] at hcy
                  have r1 : (0 : Int) ≤ (j' : Int) := by omega
                  have r2 : (j' : Int) < (m : Int) := by omega
                  have r3 : IntKind.i64.wrap (j' : Int) = (j' : Int) := iwrap (by omega)
                  have r4 : IntKind.i64.wrap ((j' : Int) + 1 - 1) = (j' : Int) := by rw [show (j' : Int) + 1 - 1 = (j' : Int) by omega]; exact r3
                  clear hprev hI h0 hy hyx
                  go_wp2_with fail
                  go_quiet (fail)
                  go_wp2_with fail
                  go_roundw
                  case rel => exact ⟨j' + 1 + 1, by omega, by first | go_num | rfl, Lib.hid (HNX.out _).2.2.1⟩
                  case measure => simp [intOf]; omega
              · obtain rfl : j = m := by omega
                have hJE : DaysJ2 w2 B gs vC vL v E k (X : Int) (seenF E (X : Int)) wr := J3_end (by rw [HM2.out]; exact hJ.out) HDL.out
                have HJE := Lib.hid hJE
                clear hJE hJ
                go_wp2_with fail
                go_roundw
                case rel => exact ⟨k2 + 1, (X : Int), by omega, by go_num, rfl, hX0, hX1, HJE⟩
                case measure => simp [intOf]; omega
        · obtain rfl : k2 = n2 := by omega
          obtain ⟨w3, rfl⟩ : ∃ w3, w3 = wr := ⟨_, rfl⟩
          have HJ4 : Hid (DaysJ4 w2 B gs vC vL v E k now 0 w3) := by
            obtain ⟨a, b, c⟩ := hJ.out
            exact ⟨_, a, fun _ _ => rfl, b, c⟩
          clear hJ
          go_wp2_with fail
          go_loopw [14] (fun v14 wr => ∃ k4 : Nat, k4 ≤ k ∧ v14 = .int .i64 k4 ∧ Hid (DaysJ4 w2 B gs vC vL v E k now k4 wr)) (fun v14 _ => k - (intOf v14).toNat)
          case atStart => exact ⟨0, by omega, rfl, HJ4⟩
          case round =>
            obtain ⟨k4, hk4, rfl, hJ⟩ := hrel
            clear HJ4
            by_cases hlt4 : k4 < k
            · obtain ⟨b, off, X, rfl, hbl, hX, hEk, hcell⟩ := HE.out.at_ hlt4
              have hwr : Below w.heap.size w wr := by
                obtain ⟨_, _, _, _, hb⟩ := hJ.out
                exact HB2.out.trans (hb.mono hBw)
              have d0 := (hwr.cell (p := ⟨b, off + k4, none⟩) hbl).trans hcell
              obtain ⟨s0, hS, _, _⟩ := J4_at hJ.out hEk hlt4
              have HS := Lib.hid hS
              have HT := Lib.hid (fun w' (h : DaysJ4 w2 B gs vC vL v E k now k4 w') => (J4_at h hEk hlt4).2.2)
              have hX0 : (0 : Int) ≤ (X : Int) := by omega
              have hX1 : (X : Int) < 256 := by omega
              have i1 : (0 : Int) ≤ (k4 : Int) + 1 := by omega
              have i2 : (k4 : Int) + 1 < (k : Int) + 1 := by omega
              clear hEk hcell hwr hJ hS
              by_cases hg : 1 + (X : Int) ≤ now
              · have t1 : decide (1 + (X : Int) ≤ now) = true := by simpa using hg
                rw [if_pos hg] at HS
                have HT2 := Lib.hid (fun w' h => (HT.out w' h).1 hg)
                rw [t1] at s0
                clear HT hg
                go_wp2_with (go_at_call 9; refine Hid.out ?_)
                refine Lib.hid ?_
                refine HS.out.mono ?_
                rintro e w5 ⟨rfl, hJ5⟩
                have HT3 := Lib.hid (HT2.out w5 hJ5)
                clear hJ5 HS HT2 s0 d0
                go_wp2_with (go_at_call 10; refine Hid.out ?_)
                refine Lib.hid ?_
                refine HT3.out.mono ?_
                rintro e w6 ⟨⟨fb, rfl⟩, hJ6⟩
                have HJ6 := Lib.hid hJ6
                clear hJ6 HT3
                go_wp2_with fail
                go_roundw
                case rel => exact ⟨k4 + 1, by omega, by go_num, HJ6⟩
                case measure => simp [intOf]; omega
              · have t1 : decide (1 + (X : Int) ≤ now) = false := by simpa using hg
                rw [if_neg hg] at HS
                have HT2 := Lib.hid (fun w' h => (HT.out w' h).2 hg)
                rw [t1] at s0
                clear HT hg
                go_wp2_with (go_at_call 9; refine Hid.out ?_)
                refine Lib.hid ?_
                refine HS.out.mono ?_
                rintro e w5 ⟨rfl, hJ5⟩
                have HT3 := Lib.hid (HT2.out w5 hJ5)
                clear hJ5 HS HT2 s0 d0
                go_wp2_with (go_at_call 10; refine Hid.out ?_)
                refine Lib.hid ?_
                refine HT3.out.mono ?_
                rintro e w6 ⟨rfl, hJ6⟩
                have HJ6 := Lib.hid hJ6
                clear hJ6 HT3
                go_wp2_with fail
                go_roundw
                case rel => exact ⟨k4 + 1, by omega, by go_num, HJ6⟩
                case measure => simp [intOf]; omega
            · obtain rfl : k4 = k := by omega
              have hwr : Below w.heap.size w wr := by
                obtain ⟨_, _, _, _, hb⟩ := hJ.out
                exact HB2.out.trans (hb.mono hBw)
              have HW := Lib.hid hwr
              clear hwr hJ
              go_wp2_with fail
              go_ret
              exact ⟨rfl, HW.out⟩
set_option maxRecDepth 100000 in
set_option maxHeartbeats 1000000 in
theorem days_many (A1 A2 : Option Addr) (n1 n2 c1 c2 : Nat) (w : World) (h : 30 < n1 ∨ 40 < n2) :
    Calls Try.prog 3 #[.slice A1 n1 c1, .slice A2 n2 c2] w fun e w' => e = .returned (.bool true) ∧ Below w.heap.size w w' := by
  by_cases h1 : 30 < n1
  · have t1 : decide ((30 : Int) < (n1 : Int)) = true := by simp; omega
    clear h h1
    go_enter Try.func3, Try.ntmps3
    go_wp2_with (go_at_call 4; refine (dknown_ok _).mono ?_; rintro e w0 ⟨rfl, hb0⟩; replace hb0 := Lib.hid hb0)
    go_ret
    exact ⟨rfl, hb0.out⟩
  · have t1 : decide ((30 : Int) < (n1 : Int)) = false := by simp; omega
    have t2 : decide ((40 : Int) < (n2 : Int)) = true := by simp; omega
    clear h h1
    go_enter Try.func3, Try.ntmps3
    go_wp2_with (go_at_call 4; refine (dknown_ok _).mono ?_; rintro e w0 ⟨rfl, hb0⟩; replace hb0 := Lib.hid hb0)
    go_ret
    exact ⟨rfl, hb0.out⟩
end Go.Proofs.Ytoilgeahfdbhlaa
