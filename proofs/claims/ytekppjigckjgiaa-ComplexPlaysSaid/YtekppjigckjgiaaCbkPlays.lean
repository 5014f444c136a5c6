/- straddlelaw21.ComplexPlays returns true. -/
import Derived.Test.YtekppjigckjgiaaCbkPl
import Derived.Test.YtekppjigckjgiaaCbkAct
set_option linter.unusedSimpArgs false
namespace Go.Proofs.Ytekppjigckjgiaa
open Go.RowKit Go.Mem1 Go.CbkMath

/-- At the head of a round of the play. -/
def PlJ (w0 : World) (B g m : Nat) (w : World) : Prop := ∃ v1 v2 D O, PlC w0 B g m v1 v2 D D O w
set_option maxRecDepth 100000 in
set_option maxHeartbeats 40000000 in
theorem plays_main (A : Option Addr) (n cp : Nat) (id : Int) (l : List Ac) (w : World) (hA : Acts w w.heap.size A n l) (hn : n ≤ 100) :
    Calls Try.prog 3 #[.slice A n cp, .int .i64 id] w fun e w' => e = .returned (.bool true) ∧ Below w.heap.size w w' := by
  have HA := Lib.hid hA
  have t1 : decide ((100 : Int) < (n : Int)) = false := by simp; omega
  clear hA
  go_enter Try.func3, Try.ntmps3
  go_wp2_with (go_at_call 7; refine (cknown_ok _).mono ?_; rintro e w0 ⟨rfl, hb0⟩; replace hb0 := Lib.hid hb0)
  clear t1
  go_wp2_with (go_at_call 8; refine Hid.out ?_)
  refine Lib.hid ?_
  refine (cb_new w0).mono ?_
  rintro _ w1 ⟨g, O, rfl, hN, hNb⟩
  have HW0 : Hid (w.heap.size ≤ w0.heap.size) := Lib.hid hb0.out.size
  have hP : PlJ w0 w0.heap.size g w1.heap.size (w1.alloc (.cells #[.slice .none 0 0, .slice .none 0 0] 29)) :=
    ⟨_, _, ([], []), O, hN.carry (bel_new _ _), ⟨Box.fresh w1 _ _ rfl, hNb.size, World.ownsRow_nil _ _ _ _, World.ownsRow_nil _ _ _ _⟩, bel_alloc hNb _⟩
  have HP0 := Lib.hid hP
  clear hN hNb hP
  go_wp2_with fail
  obtain ⟨B, hB⟩ : ∃ B, w0.heap.size = B := ⟨_, rfl⟩
  obtain ⟨m, hm⟩ : ∃ m, w1.heap.size = m := ⟨_, rfl⟩
  rw [hB] at HP0 HW0
  rw [hm] at HP0 ⊢
  clear hB hm
  go_loopw [7] (fun v7 wr => ∃ i : Nat, i ≤ n ∧ v7 = .int .i64 i ∧ Hid (PlJ w0 B g m wr)) (fun v7 _ => n - (intOf v7).toNat)
  case atStart => exact ⟨0, by omega, rfl, HP0⟩
  case round =>
    obtain ⟨i, hi, rfl, hJ⟩ := hrel
    clear HP0
    by_cases hlt : i < n
    · obtain ⟨v1, v2, D, O, hP⟩ := hJ.out
      obtain ⟨⟨op, oi, oo, os, on, ou, aid, au⟩, hx⟩ := HA.out.get hlt
      obtain ⟨b, off, rfl, hbl, e0, e1, e2, e3, e4, e5, e6, e7⟩ := HA.out.at_ i _ hx
      have hwr : Below w.heap.size w wr := hb0.out.trans (hP.bel.mono HW0.out)
      have hc := fun (j : Nat) (x : Value) (hj : w.cell? ⟨b, j, Option.none⟩ = some x) => (hwr.cell (p := ⟨b, j, Option.none⟩) hbl).trans hj
      have d0 := hc _ _ e0
      have d1 := hc _ _ e1
      have d2 := hc _ _ e2
      have d3 := hc _ _ e3
      have d4 := hc _ _ e4
      have d5 := hc _ _ e5
      have d6 := hc _ _ e6
      have d7 := hc _ _ e7
      dsimp only at d0 d1 d2 d3 d4 d5 d6 d7
      clear e0 e1 e2 e3 e4 e5 e6 e7 hx hJ hc hwr
      have hP1 := hP.carry (bel_new wr (.cells #[.int .i64 op, .int .i64 oi, .int .i64 oo, .int .i64 os, .int .i64 on, .int .i64 ou, .int .i64 aid, .int .i64 au] 33))
      have hX1 : Box (wr.alloc (.cells #[.int .i64 op, .int .i64 oi, .int .i64 oo, .int .i64 os, .int .i64 on, .int .i64 ou, .int .i64 aid, .int .i64 au] 33)) wr.heap.size 33 #[.int .i64 op, .int .i64 oi, .int .i64 oo, .int .i64 os, .int .i64 on, .int .i64 ou, .int .i64 aid, .int .i64 au] := Box.fresh wr _ _ rfl
      replace hP1 := Lib.hid hP1
      replace hX1 := Lib.hid hX1
      clear hP
      have i1 : (0 : Int) ≤ (i : Int) := by omega
      have i2 : (i : Int) < (n : Int) := by omega
      by_cases h1 : op = 1
      · skip
        subst h1
        go_wp2_with fail
        obtain ⟨W, hW⟩ : ∃ W, wr.alloc (.cells #[.int .i64 1, .int .i64 oi, .int .i64 oo, .int .i64 os, .int .i64 on, .int .i64 ou, .int .i64 aid, .int .i64 au] 33) = W := ⟨_, rfl⟩
        rw [hW] at hP1 hX1 ⊢
        obtain ⟨X, hX⟩ : ∃ X, wr.heap.size = X := ⟨_, rfl⟩
        rw [hX] at hX1 ⊢
        have hXm : X ≠ m := fun e => by
          have h1 := hX1.out
          rw [e] at h1
          exact h1.apart hP1.out.rf.box (by decide) rfl
        clear hW hX d0 d1 d2 d3 d4 d5 d6 d7
        have HINV := Lib.hid hP1.out.cb.inv
        have hPW := hP1.out.carry (Below.refl W.heap.size W).drew
        have HI := Lib.hid (cb_ins hPW.cb ⟨oi, oo, os, on, ou⟩)
        have HPW := Lib.hid hPW
        have HO := Lib.hid (of_any ⟨oi, oo, os, on, ou⟩)
        unfold coV at HI HO
        obtain ⟨E, hE⟩ : ∃ E, insE D ⟨oi, oo, os, on, ou⟩ = E := ⟨_, rfl⟩
        rw [hE] at HI
        have HE := Lib.hid hE
        clear hPW hE
        have KC : Hid (∀ w', Box w' X 33 #[.int .i64 1, .int .i64 oi, .int .i64 oo, .int .i64 os, .int .i64 on, .int .i64 ou, .int .i64 aid, .int .i64 au] → World.cell? w' ⟨X, 1, Option.none⟩ = some (.int .i64 oi) ∧ World.cell? w' ⟨X, 2, Option.none⟩ = some (.int .i64 oo) ∧ World.cell? w' ⟨X, 3, Option.none⟩ = some (.int .i64 os) ∧ World.cell? w' ⟨X, 4, Option.none⟩ = some (.int .i64 on) ∧ World.cell? w' ⟨X, 5, Option.none⟩ = some (.int .i64 ou)) := Lib.hid (fun w' h => ⟨h.reads 1, h.reads 2, h.reads 3, h.reads 4, h.reads 5⟩)
        refine wp_region_held_drew (S := (fun w' => World.cell? w' ⟨X, 1, Option.none⟩ = some (.int .i64 oi) ∧ World.cell? w' ⟨X, 2, Option.none⟩ = some (.int .i64 oo) ∧ World.cell? w' ⟨X, 3, Option.none⟩ = some (.int .i64 os) ∧ World.cell? w' ⟨X, 4, Option.none⟩ = some (.int .i64 on) ∧ World.cell? w' ⟨X, 5, Option.none⟩ = some (.int .i64 ou))) (by kernel_rfl) (KC.out _ (hX1.out.kept_below (Below.refl W.heap.size W).drew hX1.out.there)) (fun hHeld => ?_)
        refine wpAnyH_take (i := 0) (v := ?_) rfl (by kernel_rfl) (by kernel_rfl) (by kernel_rfl) (fun _ _ _ h => h) (Or.inl ⟨by rfl, ?_⟩) (by assumption) ?_
        rotate_left
        · (intro w hSw; (try dsimp only at hSw); first | (go_simp; done) | (go_simp; with_reducible rfl))
        try simp only [Act.put, List.setIfInBounds_toArray, List.set_cons_zero, List.set_cons_succ, List.getElem_toArray, List.getElem_cons_zero, List.getElem_cons_succ]
        refine wpAnyH_take (i := 1) (v := ?_) rfl (by kernel_rfl) (by kernel_rfl) (by kernel_rfl) (fun _ _ _ h => h) (Or.inl ⟨by rfl, ?_⟩) (by assumption) ?_
        rotate_left
        · (intro w hSw; (try dsimp only at hSw); first | (go_simp; done) | (go_simp; with_reducible rfl))
        try simp only [Act.put, List.setIfInBounds_toArray, List.set_cons_zero, List.set_cons_succ, List.getElem_toArray, List.getElem_cons_zero, List.getElem_cons_succ]
        refine wpAnyH_take (i := 2) (v := ?_) rfl (by kernel_rfl) (by kernel_rfl) (by kernel_rfl) (fun _ _ _ h => h) (Or.inl ⟨by rfl, ?_⟩) (by assumption) ?_
        rotate_left
        · (intro w hSw; (try dsimp only at hSw); first | (go_simp; done) | (go_simp; with_reducible rfl))
        try simp only [Act.put, List.setIfInBounds_toArray, List.set_cons_zero, List.set_cons_succ, List.getElem_toArray, List.getElem_cons_zero, List.getElem_cons_succ]
        refine wpAnyH_take (i := 4) (v := ?_) rfl (by kernel_rfl) (by kernel_rfl) (by kernel_rfl) (fun _ _ _ h => h) (Or.inl ⟨by rfl, ?_⟩) (by assumption) ?_
        rotate_left
        · (intro w hSw; (try dsimp only at hSw); first | (go_simp; done) | (go_simp; with_reducible rfl))
        try simp only [Act.put, List.setIfInBounds_toArray, List.set_cons_zero, List.set_cons_succ, List.getElem_toArray, List.getElem_cons_zero, List.getElem_cons_succ]
        refine wpAnyH_take (i := 5) (v := ?_) rfl (by kernel_rfl) (by kernel_rfl) (by kernel_rfl) (fun _ _ _ h => h) (Or.inl ⟨by rfl, ?_⟩) (by assumption) ?_
        rotate_left
        · (intro w hSw; (try dsimp only at hSw); first | (go_simp; done) | (go_simp; with_reducible rfl))
        try simp only [Act.put, List.setIfInBounds_toArray, List.set_cons_zero, List.set_cons_succ, List.getElem_toArray, List.getElem_cons_zero, List.getElem_cons_succ]
        refine wpAnyH_take (i := 6) (v := ?_) rfl (by kernel_rfl) (by kernel_rfl) (by kernel_rfl) (fun _ _ _ h => h) (Or.inl ⟨by rfl, ?_⟩) (by assumption) ?_
        rotate_left
        · (intro w hSw; (try dsimp only at hSw); first | (go_simp; done) | (go_simp; with_reducible rfl))
        try simp only [Act.put, List.setIfInBounds_toArray, List.set_cons_zero, List.set_cons_succ, List.getElem_toArray, List.getElem_cons_zero, List.getElem_cons_succ]
        refine wpAnyH_ready (rs := [3]) (by kernel_rfl) (by simp) ?_
        refine AllReadyH.cons rfl (fun K hK => ?_) AllReadyH.nil
        go_simp
        refine HI.out.mono ?_; rintro e w3 hd3; obtain ⟨rfl, ⟨O3, hP3⟩, hact3⟩ := HPW.out.did hd3; have HX3 := Lib.hid (hact3 _ _ (hX1.out.kept_below (Below.refl W.heap.size W).drew hX1.out.there)); have HP3 := Lib.hid hP3; clear hP3 hact3 hd3
        refine hK.out _ _ (by first | exact KC.out _ HX5.out | exact KC.out _ HX4.out | exact KC.out _ HX3.out) (fun hHeld => ?_)
        clear hK K
        try simp only [Act.put, List.setIfInBounds_toArray, List.set_cons_zero, List.set_cons_succ, List.getElem_toArray, List.getElem_cons_zero, List.getElem_cons_succ]
        refine wpAnyH_ready (rs := [7]) (by kernel_rfl) (by simp) ?_
        refine AllReadyH.cons rfl (fun K hK => ?_) AllReadyH.nil
        go_simp
        refine (HO.out w3).mono ?_; rintro e w4 ⟨rfl, hb4⟩; have HP4 := Lib.hid (HP3.out.carry hb4); have HX4 := Lib.hid (HX3.out.kept_below hb4 HX3.out.there); clear hb4
        refine hK.out _ _ (by first | exact KC.out _ HX5.out | exact KC.out _ HX4.out | exact KC.out _ HX3.out) (fun hHeld => ?_)
        clear hK K
        try simp only [Act.put, List.setIfInBounds_toArray, List.set_cons_zero, List.set_cons_succ, List.getElem_toArray, List.getElem_cons_zero, List.getElem_cons_succ]
        refine wpAnyH_ready (rs := [8]) (by kernel_rfl) (by simp) ?_
        refine AllReadyH.cons rfl (fun K hK => ?_) AllReadyH.nil
        go_simp
        refine (rins_any HP4.out.rf HINV.out ⟨oi, oo, os, on, ou⟩).mono ?_; rintro e w5 ⟨rfl, hx5, hc5⟩; rw [HE.out]; have HP5 := Lib.hid (HP4.out.rdid hx5 hc5); have HX5 := Lib.hid (HX4.out.kept hc5 hXm); clear hx5 hc5
        refine hK.out _ _ (by first | exact KC.out _ HX5.out | exact KC.out _ HX4.out | exact KC.out _ HX3.out) (fun hHeld => ?_)
        clear hK K
        try simp only [Act.put, List.setIfInBounds_toArray, List.set_cons_zero, List.set_cons_succ, List.getElem_toArray, List.getElem_cons_zero, List.getElem_cons_succ]
        refine wpAnyH_take (i := 9) (v := .bool false) rfl (by kernel_rfl) (by kernel_rfl) (by kernel_rfl) (fun _ _ _ h => h) (Or.inl ⟨by rfl, ?_⟩) (by assumption) ?_
        · (intro w hSw; (try dsimp only at hSw); first | (go_simp; done) | (go_simp; omega) | (go_simp; simp))
        try simp only [Act.put, List.setIfInBounds_toArray, List.set_cons_zero, List.set_cons_succ, List.getElem_toArray, List.getElem_cons_zero, List.getElem_cons_succ]
        refine wpAnyH_done (by kernel_rfl) ?_ _
        obtain ⟨u1, u2, hP5⟩ := HP5.out
        have hP9 : ∃ v1 v2 D O, PlC w0 B g m v1 v2 D D O w5 := ⟨_, _, _, _, hP5⟩
        clear HP5 HP4 HP3 HX3 HX4 HX5 HI HO HE HPW KC HINV hP5 hP1 hX1
        obtain ⟨v1, v2, D, O, hP1⟩ := hP9
        replace hP1 := Lib.hid hP1
        go_wp2_with (go_at_call 16; refine Hid.out ?_)
        refine Lib.hid ?_
        refine (same_any hP1.out).mono ?_
        rintro _ w2 ⟨rfl, hb2⟩
        have hP2 := Lib.hid (hP1.out.carry hb2)
        clear hb2 hP1
        go_wp2_with fail
        go_loopw [17] (fun v17 wq => ∃ s : Nat, 1 ≤ s ∧ s ≤ 3 ∧ v17 = .int .i64 s ∧ Hid (PlC w0 B g m v1 v2 D D O wq)) (fun v17 _ => 3 - (intOf v17).toNat)
        case atStart => exact ⟨1, by omega, by omega, rfl, hP2⟩
        case round =>
          clear hP2
          obtain ⟨s, hs1, hs3, rfl, hP3⟩ := hrel
          by_cases hs : s < 3
          · have hsi : (s : Int) = 1 ∨ (s : Int) = 2 := by omega
            have d1 : decide ((s : Int) ≤ 2) = true := by simp; omega
            have HF := Lib.hid (cb_front hP3.out.cb s)
            have HS := Lib.hid (fun w' (hb : Below wr.heap.size wr w') => rside_any (hP3.out.carry hb).rf s)
            have hmost := hP3.out.cb.inv.most
            cases hL : rowD s D with
            | nil =>
              rw [hL] at HF
              have HR := Lib.hid (hP3.out.rf.row hsi)
              rw [hL] at HR
              obtain ⟨Az, cz, hz⟩ := own_slice HR.out
              rw [hz] at HS
              clear HR hz hL hmost
              dsimp only [List.headD, List.isEmpty, coV, zeroC, List.length] at HF HS
              go_wp2_with ((first
                | (go_at_call 17; refine HF.out.mono ?_; rintro e w4 ⟨rfl, hb4⟩; replace hb4 := Lib.hid hb4; dsimp only)
                | (go_at_call 18; refine (HS.out _ (bel_trans hb4.out (bel_new _ _))).mono ?_; rintro e w5 ⟨rfl, hw5⟩)))
              have hb5 := Lib.hid (hw5 ▸ bel_trans hb4.out (bel_new w4 _) : Below wr.heap.size wr w5)
              clear hw5
              refine wp_region_held_drew (S := (fun _ => True)) (by kernel_rfl) (trivial) (fun hHeld => ?_)
              refine wpAnyH_take (i := 0) (v := ?_) rfl (by kernel_rfl) (by kernel_rfl) (by kernel_rfl) (fun _ _ _ h => h) (Or.inl ⟨by rfl, ?_⟩) (by assumption) ?_
              rotate_left
              · (intro w hSw; (try dsimp only at hSw); first | (go_simp; done) | (go_simp; with_reducible rfl))
              try simp only [Act.put, List.setIfInBounds_toArray, List.set_cons_zero, List.set_cons_succ, List.getElem_toArray, List.getElem_cons_zero, List.getElem_cons_succ]
              refine wpAnyH_take (i := 1) (v := ?_) rfl (by kernel_rfl) (by kernel_rfl) (by kernel_rfl) (fun _ _ _ h => h) (Or.inl ⟨by rfl, ?_⟩) (by assumption) ?_
              rotate_left
              · (intro w hSw; (try dsimp only at hSw); first | (go_simp; done) | (go_simp; with_reducible rfl))
              try simp only [Act.put, List.setIfInBounds_toArray, List.set_cons_zero, List.set_cons_succ, List.getElem_toArray, List.getElem_cons_zero, List.getElem_cons_succ]
              refine wpAnyH_take (i := 2) (v := ?_) rfl (by kernel_rfl) (by kernel_rfl) (by kernel_rfl) (fun _ _ _ h => h) (Or.inl ⟨by rfl, ?_⟩) (by assumption) ?_
              rotate_left
              · (intro w hSw; (try dsimp only at hSw); first | (go_simp; done) | (go_simp; with_reducible rfl))
              try simp only [Act.put, List.setIfInBounds_toArray, List.set_cons_zero, List.set_cons_succ, List.getElem_toArray, List.getElem_cons_zero, List.getElem_cons_succ]
              refine wpAnyH_take (i := 3) (v := .bool false) rfl (by kernel_rfl) (by kernel_rfl) (by kernel_rfl) (fun _ _ _ h => h) (Or.inl ⟨by rfl, ?_⟩) (by assumption) ?_
              · (intro w hSw; (try dsimp only at hSw); first | (go_simp; done) | (go_simp; omega) | (go_simp; trivial))
              try simp only [Act.put, List.setIfInBounds_toArray, List.set_cons_zero, List.set_cons_succ, List.getElem_toArray, List.getElem_cons_zero, List.getElem_cons_succ]
              refine wpAnyH_take (i := 4) (v := .bool false) rfl (by kernel_rfl) (by kernel_rfl) (by kernel_rfl) (fun _ _ _ h => h) (Or.inl ⟨by rfl, ?_⟩) (by assumption) ?_
              · (intro w hSw; (try dsimp only at hSw); first | (go_simp; done) | (go_simp; omega) | (go_simp; trivial))
              try simp only [Act.put, List.setIfInBounds_toArray, List.set_cons_zero, List.set_cons_succ, List.getElem_toArray, List.getElem_cons_zero, List.getElem_cons_succ]
              refine wpAnyH_take (i := 5) (v := ?_) rfl (by kernel_rfl) (by kernel_rfl) (by kernel_rfl) (fun _ _ _ h => h) (Or.inl ⟨by rfl, ?_⟩) (by assumption) ?_
              rotate_left
              · (intro w hSw; (try dsimp only at hSw); first | (go_simp; done) | (go_simp; with_reducible rfl))
              try simp only [Act.put, List.setIfInBounds_toArray, List.set_cons_zero, List.set_cons_succ, List.getElem_toArray, List.getElem_cons_zero, List.getElem_cons_succ]
              refine wpAnyH_take (i := 6) (v := ?_) rfl (by kernel_rfl) (by kernel_rfl) (by kernel_rfl) (fun _ _ _ h => h) (Or.inl ⟨by rfl, ?_⟩) (by assumption) ?_
              rotate_left
              · (intro w hSw; (try dsimp only at hSw); first | (go_simp; done) | (go_simp; with_reducible rfl))
              try simp only [Act.put, List.setIfInBounds_toArray, List.set_cons_zero, List.set_cons_succ, List.getElem_toArray, List.getElem_cons_zero, List.getElem_cons_succ]
              refine wpAnyH_take (i := 7) (v := ?_) rfl (by kernel_rfl) (by kernel_rfl) (by kernel_rfl) (fun _ _ _ h => h) (Or.inl ⟨by rfl, ?_⟩) (by assumption) ?_
              rotate_left
              · (intro w hSw; (try dsimp only at hSw); first | (go_simp; done) | (go_simp; with_reducible rfl))
              try simp only [Act.put, List.setIfInBounds_toArray, List.set_cons_zero, List.set_cons_succ, List.getElem_toArray, List.getElem_cons_zero, List.getElem_cons_succ]
              refine wpAnyH_take (i := 8) (v := undef) rfl (by kernel_rfl) (by kernel_rfl) (by kernel_rfl) (fun _ _ _ h => h) (Or.inr ⟨by rfl, rfl⟩) (by assumption) ?_
              try simp only [Act.put, List.setIfInBounds_toArray, List.set_cons_zero, List.set_cons_succ, List.getElem_toArray, List.getElem_cons_zero, List.getElem_cons_succ]
              refine wpAnyH_take (i := 9) (v := undef) rfl (by kernel_rfl) (by kernel_rfl) (by kernel_rfl) (fun _ _ _ h => h) (Or.inr ⟨by rfl, rfl⟩) (by assumption) ?_
              try simp only [Act.put, List.setIfInBounds_toArray, List.set_cons_zero, List.set_cons_succ, List.getElem_toArray, List.getElem_cons_zero, List.getElem_cons_succ]
              refine wpAnyH_take (i := 10) (v := undef) rfl (by kernel_rfl) (by kernel_rfl) (by kernel_rfl) (fun _ _ _ h => h) (Or.inr ⟨by rfl, rfl⟩) (by assumption) ?_
              try simp only [Act.put, List.setIfInBounds_toArray, List.set_cons_zero, List.set_cons_succ, List.getElem_toArray, List.getElem_cons_zero, List.getElem_cons_succ]
              refine wpAnyH_take (i := 11) (v := undef) rfl (by kernel_rfl) (by kernel_rfl) (by kernel_rfl) (fun _ _ _ h => h) (Or.inr ⟨by rfl, rfl⟩) (by assumption) ?_
              try simp only [Act.put, List.setIfInBounds_toArray, List.set_cons_zero, List.set_cons_succ, List.getElem_toArray, List.getElem_cons_zero, List.getElem_cons_succ]
              refine wpAnyH_take (i := 12) (v := undef) rfl (by kernel_rfl) (by kernel_rfl) (by kernel_rfl) (fun _ _ _ h => h) (Or.inr ⟨by rfl, rfl⟩) (by assumption) ?_
              try simp only [Act.put, List.setIfInBounds_toArray, List.set_cons_zero, List.set_cons_succ, List.getElem_toArray, List.getElem_cons_zero, List.getElem_cons_succ]
              refine wpAnyH_take (i := 13) (v := undef) rfl (by kernel_rfl) (by kernel_rfl) (by kernel_rfl) (fun _ _ _ h => h) (Or.inr ⟨by rfl, rfl⟩) (by assumption) ?_
              try simp only [Act.put, List.setIfInBounds_toArray, List.set_cons_zero, List.set_cons_succ, List.getElem_toArray, List.getElem_cons_zero, List.getElem_cons_succ]
              refine wpAnyH_take (i := 14) (v := ?_) rfl (by kernel_rfl) (by kernel_rfl) (by kernel_rfl) (fun _ _ _ h => h) (Or.inl ⟨by rfl, ?_⟩) (by assumption) ?_
              rotate_left
              · (intro w hSw; (try dsimp only at hSw); first | (go_simp; done) | (go_simp; with_reducible rfl))
              try simp only [Act.put, List.setIfInBounds_toArray, List.set_cons_zero, List.set_cons_succ, List.getElem_toArray, List.getElem_cons_zero, List.getElem_cons_succ]
              refine wpAnyH_take (i := 15) (v := ?_) rfl (by kernel_rfl) (by kernel_rfl) (by kernel_rfl) (fun _ _ _ h => h) (Or.inl ⟨by rfl, ?_⟩) (by assumption) ?_
              rotate_left
              · (intro w hSw; (try dsimp only at hSw); first | (go_simp; done) | (go_simp; with_reducible rfl))
              try simp only [Act.put, List.setIfInBounds_toArray, List.set_cons_zero, List.set_cons_succ, List.getElem_toArray, List.getElem_cons_zero, List.getElem_cons_succ]
              refine wpAnyH_done (by kernel_rfl) ?_ _
              go_wp2_with fail
              go_roundw
              case rel => exact ⟨s + 1, by omega, by omega, by go_num, Lib.hid (hP3.out.carry (hb5.out).drew)⟩
              case measure => simp [intOf] <;> omega
            | cons o L =>
              rw [hL] at HF
              have hr := hP3.out.rf.row hsi
              rw [hL] at hr
              obtain ⟨b2, c2, hz, _, hb2l, _, hcl, k0, k1, k2, k3, k4, _⟩ := co_cells hr (k := 0) rfl
              rw [hz] at HS
              have hlen : L.length + 1 ≤ 256 := by
                have : (rowD s D).length ≤ 256 := by rcases hsi with e | e <;> rw [e] <;> simp [rowD] <;> omega
                rw [hL] at this
                exact this
              simp only [Nat.zero_mul, Nat.zero_add] at k0 k1 k2 k3 k4
              have HO := Lib.hid (of_any o)
              have q1 := neqC o
              have q2 := neqC_guard o o
              obtain ⟨xi, xo, xs, xn, xu⟩ := o
              dsimp only [List.headD, List.isEmpty, coV, List.length, List.headD_cons, List.isEmpty_cons, List.length_cons] at HF HS HO q1 q2 k0 k1 k2 k3 k4 hcl
              obtain ⟨z, hzl⟩ : ∃ z, L.length + 1 = z := ⟨_, rfl⟩
              rw [hzl] at HS hlen hcl
              have hz0 : 0 < z := by omega
              have i3 : (0 : Int) < (z : Int) := by omega
              clear hr hz hL hmost hzl
              go_wp2_with ((first
                | (go_at_call 17; refine HF.out.mono ?_; rintro e w4 ⟨rfl, hb4⟩; replace hb4 := Lib.hid hb4; dsimp only)
                | (go_at_call 18; refine (HS.out _ (bel_trans hb4.out (bel_new _ _))).mono ?_; rintro e w5 ⟨rfl, hw5⟩)))
              have hb5 := bel_trans hb4.out (bel_new w4 (.cells #[.int .i64 xi, .int .i64 xo, .int .i64 xs, .int .i64 xn, .int .i64 xu] 31))
              have hx5 := Box.fresh w4 31 #[.int .i64 xi, .int .i64 xo, .int .i64 xs, .int .i64 xn, .int .i64 xu] rfl
              rw [hw5] at hb5 hx5
              have KX : Hid (∀ w', Below w5.heap.size w5 w' → World.cell? w' ⟨w4.heap.size, 0, Option.none⟩ = some (.int .i64 xi) ∧ World.cell? w' ⟨w4.heap.size, 1, Option.none⟩ = some (.int .i64 xo) ∧ World.cell? w' ⟨w4.heap.size, 2, Option.none⟩ = some (.int .i64 xs) ∧ World.cell? w' ⟨w4.heap.size, 3, Option.none⟩ = some (.int .i64 xn) ∧ World.cell? w' ⟨w4.heap.size, 4, Option.none⟩ = some (.int .i64 xu) ∧ World.cell? w' ⟨b2, 0, Option.none⟩ = some (.int .i64 xi) ∧ World.cell? w' ⟨b2, 1, Option.none⟩ = some (.int .i64 xo) ∧ World.cell? w' ⟨b2, 2, Option.none⟩ = some (.int .i64 xs) ∧ World.cell? w' ⟨b2, 3, Option.none⟩ = some (.int .i64 xn) ∧ World.cell? w' ⟨b2, 4, Option.none⟩ = some (.int .i64 xu)) := Lib.hid (fun w' hb => by
                have h1 := hx5.kept_below hb hx5.there
                have h2 := bel_trans hb5 hb
                exact ⟨h1.reads 0, h1.reads 1, h1.reads 2, h1.reads 3, h1.reads 4, (h2.cell (p := ⟨b2, 0, Option.none⟩) hb2l).trans k0, (h2.cell (p := ⟨b2, 1, Option.none⟩) hb2l).trans k1, (h2.cell (p := ⟨b2, 2, Option.none⟩) hb2l).trans k2, (h2.cell (p := ⟨b2, 3, Option.none⟩) hb2l).trans k3, (h2.cell (p := ⟨b2, 4, Option.none⟩) hb2l).trans k4⟩)
              replace hb5 := Lib.hid hb5
              clear hx5 hw5 k0 k1 k2 k3 k4 HF HS
              obtain ⟨X4, hX4⟩ : ∃ X4, w4.heap.size = X4 := ⟨_, rfl⟩
              rw [hX4] at KX ⊢
              clear hX4
              refine wp_region_held_drew (S := (fun w' => World.cell? w' ⟨X4, 0, Option.none⟩ = some (.int .i64 xi) ∧ World.cell? w' ⟨X4, 1, Option.none⟩ = some (.int .i64 xo) ∧ World.cell? w' ⟨X4, 2, Option.none⟩ = some (.int .i64 xs) ∧ World.cell? w' ⟨X4, 3, Option.none⟩ = some (.int .i64 xn) ∧ World.cell? w' ⟨X4, 4, Option.none⟩ = some (.int .i64 xu) ∧ World.cell? w' ⟨b2, 0, Option.none⟩ = some (.int .i64 xi) ∧ World.cell? w' ⟨b2, 1, Option.none⟩ = some (.int .i64 xo) ∧ World.cell? w' ⟨b2, 2, Option.none⟩ = some (.int .i64 xs) ∧ World.cell? w' ⟨b2, 3, Option.none⟩ = some (.int .i64 xn) ∧ World.cell? w' ⟨b2, 4, Option.none⟩ = some (.int .i64 xu))) (by kernel_rfl) (KX.out _ (Below.refl _ _).drew) (fun hHeld => ?_)
              refine wpAnyH_take (i := 0) (v := ?_) rfl (by kernel_rfl) (by kernel_rfl) (by kernel_rfl) (fun _ _ _ h => h) (Or.inl ⟨by rfl, ?_⟩) (by assumption) ?_
              rotate_left
              · (intro w hSw; (try dsimp only at hSw); first | (go_simp; done) | (go_simp; with_reducible rfl))
              try simp only [Act.put, List.setIfInBounds_toArray, List.set_cons_zero, List.set_cons_succ, List.getElem_toArray, List.getElem_cons_zero, List.getElem_cons_succ]
              refine wpAnyH_take (i := 1) (v := ?_) rfl (by kernel_rfl) (by kernel_rfl) (by kernel_rfl) (fun _ _ _ h => h) (Or.inl ⟨by rfl, ?_⟩) (by assumption) ?_
              rotate_left
              · (intro w hSw; (try dsimp only at hSw); first | (go_simp; done) | (go_simp; with_reducible rfl))
              try simp only [Act.put, List.setIfInBounds_toArray, List.set_cons_zero, List.set_cons_succ, List.getElem_toArray, List.getElem_cons_zero, List.getElem_cons_succ]
              refine wpAnyH_take (i := 2) (v := ?_) rfl (by kernel_rfl) (by kernel_rfl) (by kernel_rfl) (fun _ _ _ h => h) (Or.inl ⟨by rfl, ?_⟩) (by assumption) ?_
              rotate_left
              · (intro w hSw; (try dsimp only at hSw); first | (go_simp; done) | (go_simp; with_reducible rfl))
              try simp only [Act.put, List.setIfInBounds_toArray, List.set_cons_zero, List.set_cons_succ, List.getElem_toArray, List.getElem_cons_zero, List.getElem_cons_succ]
              refine wpAnyH_take (i := 3) (v := .bool true) rfl (by kernel_rfl) (by kernel_rfl) (by kernel_rfl) (fun _ _ _ h => h) (Or.inl ⟨by rfl, ?_⟩) (by assumption) ?_
              · (intro w hSw; (try dsimp only at hSw); first | (go_simp; done) | (go_simp; omega) | (go_simp; omega))
              try simp only [Act.put, List.setIfInBounds_toArray, List.set_cons_zero, List.set_cons_succ, List.getElem_toArray, List.getElem_cons_zero, List.getElem_cons_succ]
              refine wpAnyH_take (i := 4) (v := .bool false) rfl (by kernel_rfl) (by kernel_rfl) (by kernel_rfl) (fun _ _ _ h => h) (Or.inl ⟨by rfl, ?_⟩) (by assumption) ?_
              · (intro w hSw; (try dsimp only at hSw); first | (go_simp; done) | (go_simp; omega) | (go_simp; trivial))
              try simp only [Act.put, List.setIfInBounds_toArray, List.set_cons_zero, List.set_cons_succ, List.getElem_toArray, List.getElem_cons_zero, List.getElem_cons_succ]
              refine wpAnyH_take (i := 5) (v := ?_) rfl (by kernel_rfl) (by kernel_rfl) (by kernel_rfl) (fun _ _ _ h => h) (Or.inl ⟨by rfl, ?_⟩) (by assumption) ?_
              rotate_left
              · (intro w hSw; (try dsimp only at hSw); first | (go_simp; done) | (go_simp; with_reducible rfl))
              try simp only [Act.put, List.setIfInBounds_toArray, List.set_cons_zero, List.set_cons_succ, List.getElem_toArray, List.getElem_cons_zero, List.getElem_cons_succ]
              refine wpAnyH_take (i := 6) (v := ?_) rfl (by kernel_rfl) (by kernel_rfl) (by kernel_rfl) (fun _ _ _ h => h) (Or.inl ⟨by rfl, ?_⟩) (by assumption) ?_
              rotate_left
              · (intro w hSw; (try dsimp only at hSw); first | (go_simp; done) | (go_simp; with_reducible rfl))
              try simp only [Act.put, List.setIfInBounds_toArray, List.set_cons_zero, List.set_cons_succ, List.getElem_toArray, List.getElem_cons_zero, List.getElem_cons_succ]
              refine wpAnyH_take (i := 7) (v := ?_) rfl (by kernel_rfl) (by kernel_rfl) (by kernel_rfl) (fun _ _ _ h => h) (Or.inl ⟨by rfl, ?_⟩) (by assumption) ?_
              rotate_left
              · (intro w hSw; (try dsimp only at hSw); first | (go_simp; done) | (go_simp; with_reducible rfl))
              try simp only [Act.put, List.setIfInBounds_toArray, List.set_cons_zero, List.set_cons_succ, List.getElem_toArray, List.getElem_cons_zero, List.getElem_cons_succ]
              refine wpAnyH_take (i := 8) (v := ?_) rfl (by kernel_rfl) (by kernel_rfl) (by kernel_rfl) (fun _ _ _ h => h) (Or.inl ⟨by rfl, ?_⟩) (by assumption) ?_
              rotate_left
              · (intro w hSw; (try dsimp only at hSw); first | (go_simp; done) | (go_simp; with_reducible rfl))
              try simp only [Act.put, List.setIfInBounds_toArray, List.set_cons_zero, List.set_cons_succ, List.getElem_toArray, List.getElem_cons_zero, List.getElem_cons_succ]
              refine wpAnyH_take (i := 10) (v := ?_) rfl (by kernel_rfl) (by kernel_rfl) (by kernel_rfl) (fun _ _ _ h => h) (Or.inl ⟨by rfl, ?_⟩) (by assumption) ?_
              rotate_left
              · (intro w hSw; (try dsimp only at hSw); first | (go_simp; done) | (go_simp; with_reducible rfl))
              try simp only [Act.put, List.setIfInBounds_toArray, List.set_cons_zero, List.set_cons_succ, List.getElem_toArray, List.getElem_cons_zero, List.getElem_cons_succ]
              refine wpAnyH_take (i := 11) (v := ?_) rfl (by kernel_rfl) (by kernel_rfl) (by kernel_rfl) (fun _ _ _ h => h) (Or.inl ⟨by rfl, ?_⟩) (by assumption) ?_
              rotate_left
              · (intro w hSw; (try dsimp only at hSw); first | (go_simp; done) | (go_simp; with_reducible rfl))
              try simp only [Act.put, List.setIfInBounds_toArray, List.set_cons_zero, List.set_cons_succ, List.getElem_toArray, List.getElem_cons_zero, List.getElem_cons_succ]
              refine wpAnyH_take (i := 12) (v := ?_) rfl (by kernel_rfl) (by kernel_rfl) (by kernel_rfl) (fun _ _ _ h => h) (Or.inl ⟨by rfl, ?_⟩) (by assumption) ?_
              rotate_left
              · (intro w hSw; (try dsimp only at hSw); first | (go_simp; done) | (go_simp; with_reducible rfl))
              try simp only [Act.put, List.setIfInBounds_toArray, List.set_cons_zero, List.set_cons_succ, List.getElem_toArray, List.getElem_cons_zero, List.getElem_cons_succ]
              refine wpAnyH_ready (rs := [9]) (by kernel_rfl) (by simp) ?_
              refine AllReadyH.cons rfl (fun K hK => ?_) AllReadyH.nil
              go_simp
              refine (HO.out w5.drew).mono ?_; rintro e w6 ⟨rfl, hb6⟩; have HB6 := Lib.hid (((Below.refl _ _).drew).trans hb6 : Below w5.heap.size w5 w6); clear hb6
              refine hK.out _ _ (KX.out _ HB6.out) (fun hHeld => ?_)
              clear hK K
              try simp only [Act.put, List.setIfInBounds_toArray, List.set_cons_zero, List.set_cons_succ, List.getElem_toArray, List.getElem_cons_zero, List.getElem_cons_succ]
              refine wpAnyH_take (i := 13) (v := .bool false) rfl (by kernel_rfl) (by kernel_rfl) (by kernel_rfl) (fun _ _ _ h => h) (Or.inl ⟨by rfl, ?_⟩) (by assumption) ?_
              · (intro w hSw; (try dsimp only at hSw); first | (go_simp; done) | (go_simp; omega) | (go_simp; simp [q1, q2]))
              try simp only [Act.put, List.setIfInBounds_toArray, List.set_cons_zero, List.set_cons_succ, List.getElem_toArray, List.getElem_cons_zero, List.getElem_cons_succ]
              refine wpAnyH_take (i := 14) (v := ?_) rfl (by kernel_rfl) (by kernel_rfl) (by kernel_rfl) (fun _ _ _ h => h) (Or.inl ⟨by rfl, ?_⟩) (by assumption) ?_
              rotate_left
              · (intro w hSw; (try dsimp only at hSw); first | (go_simp; done) | (go_simp; with_reducible rfl))
              try simp only [Act.put, List.setIfInBounds_toArray, List.set_cons_zero, List.set_cons_succ, List.getElem_toArray, List.getElem_cons_zero, List.getElem_cons_succ]
              refine wpAnyH_take (i := 15) (v := ?_) rfl (by kernel_rfl) (by kernel_rfl) (by kernel_rfl) (fun _ _ _ h => h) (Or.inl ⟨by rfl, ?_⟩) (by assumption) ?_
              rotate_left
              · (intro w hSw; (try dsimp only at hSw); first | (go_simp; done) | (go_simp; with_reducible rfl))
              try simp only [Act.put, List.setIfInBounds_toArray, List.set_cons_zero, List.set_cons_succ, List.getElem_toArray, List.getElem_cons_zero, List.getElem_cons_succ]
              refine wpAnyH_done (by kernel_rfl) ?_ _
              go_wp2_with fail
              go_roundw
              case rel => exact ⟨s + 1, by omega, by omega, by go_num, Lib.hid (hP3.out.carry (bel_trans hb5.out HB6.out))⟩
              case measure => simp [intOf] <;> omega
          · obtain rfl : s = 3 := by omega
            go_wp2_with fail
            go_roundw
            case rel => exact ⟨i + 1, by omega, by go_num, Lib.hid ⟨v1, v2, D, O, hP3.out⟩⟩
            case measure => simp [intOf] <;> omega
      · by_cases h2 : op = 2
        · skip
          subst h2
          go_wp2_with (go_at_call 12; refine Hid.out ?_)
          obtain ⟨W, hW⟩ : ∃ W, wr.alloc (.cells #[.int .i64 2, .int .i64 oi, .int .i64 oo, .int .i64 os, .int .i64 on, .int .i64 ou, .int .i64 aid, .int .i64 au] 33) = W := ⟨_, rfl⟩
          rw [hW] at hP1 hX1 ⊢
          obtain ⟨X, hX⟩ : ∃ X, wr.heap.size = X := ⟨_, rfl⟩
          rw [hX] at hX1 ⊢
          clear hW hX d0 d1 d2 d3 d4 d5 d6 d7
          have HINV := Lib.hid hP1.out.cb.inv
          refine Lib.hid ?_
          refine (cb_rem hP1.out.cb aid).mono ?_
          rintro _ w3 hd3
          obtain ⟨rfl, ⟨O3, hP3⟩, hact3⟩ := hP1.out.did hd3
          have HX3 := Lib.hid (hact3 _ _ hX1.out)
          have HP3 := Lib.hid hP3
          obtain ⟨⟨⟨xi, xo, xs, xn, xu⟩, bx⟩, hv⟩ : ∃ p, remO D aid = p := ⟨_, rfl⟩
          have HV := Lib.hid hv
          rw [hv]
          unfold coV
          dsimp only
          clear hP3 hact3 hd3 hv
          have c6 : ∀ x, (w3.alloc x).cell? ⟨X, 6, Option.none⟩ = some (.int .i64 aid) := fun x => (HX3.out.kept_below (bel_new w3 x) HX3.out.there).reads 6
          go_wp2_with (go_at_call 13; refine Hid.out ?_)
          clear c6
          have HP4 := Lib.hid (HP3.out.carry (bel_new w3 (.cells #[.int .i64 xi, .int .i64 xo, .int .i64 xs, .int .i64 xn, .int .i64 xu] 31)))
          have hx4 := Box.fresh w3 31 #[.int .i64 xi, .int .i64 xo, .int .i64 xs, .int .i64 xn, .int .i64 xu] rfl
          have hxm : w3.heap.size ≠ m := fun e => by have := HP3.out.rf.there; omega
          refine Lib.hid ?_
          refine (rrem_any HP4.out.rf HINV.out aid).mono ?_
          rintro _ w5 ⟨rfl, hx5, hc5⟩
          rw [HV.out]
          dsimp only
          have HX5 := Lib.hid (hx4.kept hc5 hxm)
          have HP5 := Lib.hid (HP4.out.rdid (hx5.elim fun u1 h => h.elim fun u2 h => ⟨u1, u2, h.1⟩) hc5)
          clear hx5 hc5 hx4
          have HO := Lib.hid (of_any ⟨xi, xo, xs, xn, xu⟩)
          have q1 := neqC ⟨xi, xo, xs, xn, xu⟩
          have q2 := neqC_guard ⟨xi, xo, xs, xn, xu⟩ ⟨xi, xo, xs, xn, xu⟩
          obtain ⟨X3, hX3⟩ : ∃ X3, w3.heap.size = X3 := ⟨_, rfl⟩
          rw [hX3] at HX5 ⊢
          clear hX3 hxm
          unfold coV at HO q1 q2 ⊢
          dsimp only at HO q1 q2
          go_wp2_with fail
          obtain ⟨W6, hW6⟩ : ∃ W6, w5.alloc (.cells #[.int .i64 xi, .int .i64 xo, .int .i64 xs, .int .i64 xn, .int .i64 xu] 37) = W6 := ⟨_, rfl⟩
          have hb6 := bel_new w5 (.cells #[.int .i64 xi, .int .i64 xo, .int .i64 xs, .int .i64 xn, .int .i64 xu] 37)
          have hy6 := Box.fresh w5 37 #[.int .i64 xi, .int .i64 xo, .int .i64 xs, .int .i64 xn, .int .i64 xu] rfl
          rw [hW6] at hb6 hy6 ⊢
          have hx6 := HX5.out.kept_below hb6 HX5.out.there
          obtain ⟨Y5, hY5⟩ : ∃ Y5, w5.heap.size = Y5 := ⟨_, rfl⟩
          rw [hY5] at hy6 ⊢
          have hP9 : ∃ v1 v2 D O, PlC w0 B g m v1 v2 D D O W6 := HP5.out.elim fun u1 h => h.elim fun u2 h => ⟨_, _, _, _, h.carry hb6⟩
          have KX : Hid (∀ w', Below W6.heap.size W6 w' → World.cell? w' ⟨X3, 0, Option.none⟩ = some (.int .i64 xi) ∧ World.cell? w' ⟨X3, 1, Option.none⟩ = some (.int .i64 xo) ∧ World.cell? w' ⟨X3, 2, Option.none⟩ = some (.int .i64 xs) ∧ World.cell? w' ⟨X3, 3, Option.none⟩ = some (.int .i64 xn) ∧ World.cell? w' ⟨X3, 4, Option.none⟩ = some (.int .i64 xu) ∧ World.cell? w' ⟨Y5, 0, Option.none⟩ = some (.int .i64 xi) ∧ World.cell? w' ⟨Y5, 1, Option.none⟩ = some (.int .i64 xo) ∧ World.cell? w' ⟨Y5, 2, Option.none⟩ = some (.int .i64 xs) ∧ World.cell? w' ⟨Y5, 3, Option.none⟩ = some (.int .i64 xn) ∧ World.cell? w' ⟨Y5, 4, Option.none⟩ = some (.int .i64 xu)) := Lib.hid (fun w' hb => by
            have h1 := hx6.kept_below hb hx6.there
            have h2 := hy6.kept_below hb hy6.there
            exact ⟨h1.reads 0, h1.reads 1, h1.reads 2, h1.reads 3, h1.reads 4, h2.reads 0, h2.reads 1, h2.reads 2, h2.reads 3, h2.reads 4⟩)
          clear hb6 hy6 hx6 hW6 hY5 HP5 HP4 HP3 HX3 HX5 HV HINV hP1 hX1
          obtain ⟨v1, v2, D, O, hP1⟩ := hP9
          replace hP1 := Lib.hid hP1
          refine wp_region_held_drew (S := (fun w' => World.cell? w' ⟨X3, 0, Option.none⟩ = some (.int .i64 xi) ∧ World.cell? w' ⟨X3, 1, Option.none⟩ = some (.int .i64 xo) ∧ World.cell? w' ⟨X3, 2, Option.none⟩ = some (.int .i64 xs) ∧ World.cell? w' ⟨X3, 3, Option.none⟩ = some (.int .i64 xn) ∧ World.cell? w' ⟨X3, 4, Option.none⟩ = some (.int .i64 xu) ∧ World.cell? w' ⟨Y5, 0, Option.none⟩ = some (.int .i64 xi) ∧ World.cell? w' ⟨Y5, 1, Option.none⟩ = some (.int .i64 xo) ∧ World.cell? w' ⟨Y5, 2, Option.none⟩ = some (.int .i64 xs) ∧ World.cell? w' ⟨Y5, 3, Option.none⟩ = some (.int .i64 xn) ∧ World.cell? w' ⟨Y5, 4, Option.none⟩ = some (.int .i64 xu))) (by kernel_rfl) (KX.out _ (Below.refl _ _).drew) (fun hHeld => ?_)
          refine wpAnyH_take (i := 0) (v := ?_) rfl (by kernel_rfl) (by kernel_rfl) (by kernel_rfl) (fun _ _ _ h => h) (Or.inl ⟨by rfl, ?_⟩) (by assumption) ?_
          rotate_left
          · (intro w hSw; (try dsimp only at hSw); first | (go_simp; done) | (go_simp; with_reducible rfl))
          try simp only [Act.put, List.setIfInBounds_toArray, List.set_cons_zero, List.set_cons_succ, List.getElem_toArray, List.getElem_cons_zero, List.getElem_cons_succ]
          refine wpAnyH_take (i := 2) (v := ?_) rfl (by kernel_rfl) (by kernel_rfl) (by kernel_rfl) (fun _ _ _ h => h) (Or.inl ⟨by rfl, ?_⟩) (by assumption) ?_
          rotate_left
          · (intro w hSw; (try dsimp only at hSw); first | (go_simp; done) | (go_simp; with_reducible rfl))
          try simp only [Act.put, List.setIfInBounds_toArray, List.set_cons_zero, List.set_cons_succ, List.getElem_toArray, List.getElem_cons_zero, List.getElem_cons_succ]
          refine wpAnyH_ready (rs := [1]) (by kernel_rfl) (by simp) ?_
          refine AllReadyH.cons rfl (fun K hK => ?_) AllReadyH.nil
          go_simp
          refine (HO.out W6.drew).mono ?_; rintro e w7 ⟨rfl, hb7⟩; have HB7 := Lib.hid (((Below.refl _ _).drew).trans hb7 : Below W6.heap.size W6 w7); clear hb7
          refine hK.out _ _ (KX.out _ HB7.out) (fun hHeld => ?_)
          clear hK K
          try simp only [Act.put, List.setIfInBounds_toArray, List.set_cons_zero, List.set_cons_succ, List.getElem_toArray, List.getElem_cons_zero, List.getElem_cons_succ]
          refine wpAnyH_take (i := 3) (v := .bool false) rfl (by kernel_rfl) (by kernel_rfl) (by kernel_rfl) (fun _ _ _ h => h) (Or.inl ⟨by rfl, ?_⟩) (by assumption) ?_
          · (intro w hSw; (try dsimp only at hSw); first | (go_simp; done) | (go_simp; omega) | (go_simp; simp [q1, q2]))
          try simp only [Act.put, List.setIfInBounds_toArray, List.set_cons_zero, List.set_cons_succ, List.getElem_toArray, List.getElem_cons_zero, List.getElem_cons_succ]
          refine wpAnyH_take (i := 4) (v := ?_) rfl (by kernel_rfl) (by kernel_rfl) (by kernel_rfl) (fun _ _ _ h => h) (Or.inl ⟨by rfl, ?_⟩) (by assumption) ?_
          rotate_left
          · (intro w hSw; (try dsimp only at hSw); first | (go_simp; done) | (go_simp; with_reducible rfl))
          try simp only [Act.put, List.setIfInBounds_toArray, List.set_cons_zero, List.set_cons_succ, List.getElem_toArray, List.getElem_cons_zero, List.getElem_cons_succ]
          refine wpAnyH_take (i := 5) (v := ?_) rfl (by kernel_rfl) (by kernel_rfl) (by kernel_rfl) (fun _ _ _ h => h) (Or.inl ⟨by rfl, ?_⟩) (by assumption) ?_
          rotate_left
          · (intro w hSw; (try dsimp only at hSw); first | (go_simp; done) | (go_simp; with_reducible rfl))
          try simp only [Act.put, List.setIfInBounds_toArray, List.set_cons_zero, List.set_cons_succ, List.getElem_toArray, List.getElem_cons_zero, List.getElem_cons_succ]
          refine wpAnyH_take (i := 6) (v := ?_) rfl (by kernel_rfl) (by kernel_rfl) (by kernel_rfl) (fun _ _ _ h => h) (Or.inl ⟨by rfl, ?_⟩) (by assumption) ?_
          rotate_left
          · (intro w hSw; (try dsimp only at hSw); first | (go_simp; done) | (go_simp; with_reducible rfl))
          try simp only [Act.put, List.setIfInBounds_toArray, List.set_cons_zero, List.set_cons_succ, List.getElem_toArray, List.getElem_cons_zero, List.getElem_cons_succ]
          refine wpAnyH_take (i := 7) (v := .bool false) rfl (by kernel_rfl) (by kernel_rfl) (by kernel_rfl) (fun _ _ _ h => h) (Or.inl ⟨by rfl, ?_⟩) (by assumption) ?_
          · (intro w hSw; (try dsimp only at hSw); first | (go_simp; done) | (go_simp; omega) | (go_simp; simp))
          try simp only [Act.put, List.setIfInBounds_toArray, List.set_cons_zero, List.set_cons_succ, List.getElem_toArray, List.getElem_cons_zero, List.getElem_cons_succ]
          refine wpAnyH_take (i := 8) (v := ?_) rfl (by kernel_rfl) (by kernel_rfl) (by kernel_rfl) (fun _ _ _ h => h) (Or.inl ⟨by rfl, ?_⟩) (by assumption) ?_
          rotate_left
          · (intro w hSw; (try dsimp only at hSw); first | (go_simp; done) | (go_simp; with_reducible rfl))
          try simp only [Act.put, List.setIfInBounds_toArray, List.set_cons_zero, List.set_cons_succ, List.getElem_toArray, List.getElem_cons_zero, List.getElem_cons_succ]
          refine wpAnyH_done (by kernel_rfl) ?_ _
          replace hP1 := Lib.hid (hP1.out.carry HB7.out)
          clear KX HB7 HO q1 q2
          go_wp2_with (go_at_call 16; refine Hid.out ?_)
          refine Lib.hid ?_
          refine (same_any hP1.out).mono ?_
          rintro _ w2 ⟨rfl, hb2⟩
          have hP2 := Lib.hid (hP1.out.carry hb2)
          clear hb2 hP1
          go_wp2_with fail
          go_loopw [17] (fun v17 wq => ∃ s : Nat, 1 ≤ s ∧ s ≤ 3 ∧ v17 = .int .i64 s ∧ Hid (PlC w0 B g m v1 v2 D D O wq)) (fun v17 _ => 3 - (intOf v17).toNat)
          case atStart => exact ⟨1, by omega, by omega, rfl, hP2⟩
          case round =>
            clear hP2
            obtain ⟨s, hs1, hs3, rfl, hP3⟩ := hrel
            by_cases hs : s < 3
            · have hsi : (s : Int) = 1 ∨ (s : Int) = 2 := by omega
              have d1 : decide ((s : Int) ≤ 2) = true := by simp; omega
              have HF := Lib.hid (cb_front hP3.out.cb s)
              have HS := Lib.hid (fun w' (hb : Below wr.heap.size wr w') => rside_any (hP3.out.carry hb).rf s)
              have hmost := hP3.out.cb.inv.most
              cases hL : rowD s D with
              | nil =>
                rw [hL] at HF
                have HR := Lib.hid (hP3.out.rf.row hsi)
                rw [hL] at HR
                obtain ⟨Az, cz, hz⟩ := own_slice HR.out
                rw [hz] at HS
                clear HR hz hL hmost
                dsimp only [List.headD, List.isEmpty, coV, zeroC, List.length] at HF HS
                go_wp2_with ((first
                  | (go_at_call 17; refine HF.out.mono ?_; rintro e w4 ⟨rfl, hb4⟩; replace hb4 := Lib.hid hb4; dsimp only)
                  | (go_at_call 18; refine (HS.out _ (bel_trans hb4.out (bel_new _ _))).mono ?_; rintro e w5 ⟨rfl, hw5⟩)))
                have hb5 := Lib.hid (hw5 ▸ bel_trans hb4.out (bel_new w4 _) : Below wr.heap.size wr w5)
                clear hw5
                refine wp_region_held_drew (S := (fun _ => True)) (by kernel_rfl) (trivial) (fun hHeld => ?_)
                refine wpAnyH_take (i := 0) (v := ?_) rfl (by kernel_rfl) (by kernel_rfl) (by kernel_rfl) (fun _ _ _ h => h) (Or.inl ⟨by rfl, ?_⟩) (by assumption) ?_
                rotate_left
                · (intro w hSw; (try dsimp only at hSw); first | (go_simp; done) | (go_simp; with_reducible rfl))
                try simp only [Act.put, List.setIfInBounds_toArray, List.set_cons_zero, List.set_cons_succ, List.getElem_toArray, List.getElem_cons_zero, List.getElem_cons_succ]
                refine wpAnyH_take (i := 1) (v := ?_) rfl (by kernel_rfl) (by kernel_rfl) (by kernel_rfl) (fun _ _ _ h => h) (Or.inl ⟨by rfl, ?_⟩) (by assumption) ?_
                rotate_left
                · (intro w hSw; (try dsimp only at hSw); first | (go_simp; done) | (go_simp; with_reducible rfl))
                try simp only [Act.put, List.setIfInBounds_toArray, List.set_cons_zero, List.set_cons_succ, List.getElem_toArray, List.getElem_cons_zero, List.getElem_cons_succ]
                refine wpAnyH_take (i := 2) (v := ?_) rfl (by kernel_rfl) (by kernel_rfl) (by kernel_rfl) (fun _ _ _ h => h) (Or.inl ⟨by rfl, ?_⟩) (by assumption) ?_
                rotate_left
                · (intro w hSw; (try dsimp only at hSw); first | (go_simp; done) | (go_simp; with_reducible rfl))
                try simp only [Act.put, List.setIfInBounds_toArray, List.set_cons_zero, List.set_cons_succ, List.getElem_toArray, List.getElem_cons_zero, List.getElem_cons_succ]
                refine wpAnyH_take (i := 3) (v := .bool false) rfl (by kernel_rfl) (by kernel_rfl) (by kernel_rfl) (fun _ _ _ h => h) (Or.inl ⟨by rfl, ?_⟩) (by assumption) ?_
                · (intro w hSw; (try dsimp only at hSw); first | (go_simp; done) | (go_simp; omega) | (go_simp; trivial))
                try simp only [Act.put, List.setIfInBounds_toArray, List.set_cons_zero, List.set_cons_succ, List.getElem_toArray, List.getElem_cons_zero, List.getElem_cons_succ]
                refine wpAnyH_take (i := 4) (v := .bool false) rfl (by kernel_rfl) (by kernel_rfl) (by kernel_rfl) (fun _ _ _ h => h) (Or.inl ⟨by rfl, ?_⟩) (by assumption) ?_
                · (intro w hSw; (try dsimp only at hSw); first | (go_simp; done) | (go_simp; omega) | (go_simp; trivial))
                try simp only [Act.put, List.setIfInBounds_toArray, List.set_cons_zero, List.set_cons_succ, List.getElem_toArray, List.getElem_cons_zero, List.getElem_cons_succ]
                refine wpAnyH_take (i := 5) (v := ?_) rfl (by kernel_rfl) (by kernel_rfl) (by kernel_rfl) (fun _ _ _ h => h) (Or.inl ⟨by rfl, ?_⟩) (by assumption) ?_
                rotate_left
                · (intro w hSw; (try dsimp only at hSw); first | (go_simp; done) | (go_simp; with_reducible rfl))
                try simp only [Act.put, List.setIfInBounds_toArray, List.set_cons_zero, List.set_cons_succ, List.getElem_toArray, List.getElem_cons_zero, List.getElem_cons_succ]
                refine wpAnyH_take (i := 6) (v := ?_) rfl (by kernel_rfl) (by kernel_rfl) (by kernel_rfl) (fun _ _ _ h => h) (Or.inl ⟨by rfl, ?_⟩) (by assumption) ?_
                rotate_left
                · (intro w hSw; (try dsimp only at hSw); first | (go_simp; done) | (go_simp; with_reducible rfl))
                try simp only [Act.put, List.setIfInBounds_toArray, List.set_cons_zero, List.set_cons_succ, List.getElem_toArray, List.getElem_cons_zero, List.getElem_cons_succ]
                refine wpAnyH_take (i := 7) (v := ?_) rfl (by kernel_rfl) (by kernel_rfl) (by kernel_rfl) (fun _ _ _ h => h) (Or.inl ⟨by rfl, ?_⟩) (by assumption) ?_
                rotate_left
                · (intro w hSw; (try dsimp only at hSw); first | (go_simp; done) | (go_simp; with_reducible rfl))
                try simp only [Act.put, List.setIfInBounds_toArray, List.set_cons_zero, List.set_cons_succ, List.getElem_toArray, List.getElem_cons_zero, List.getElem_cons_succ]
                refine wpAnyH_take (i := 8) (v := undef) rfl (by kernel_rfl) (by kernel_rfl) (by kernel_rfl) (fun _ _ _ h => h) (Or.inr ⟨by rfl, rfl⟩) (by assumption) ?_
                try simp only [Act.put, List.setIfInBounds_toArray, List.set_cons_zero, List.set_cons_succ, List.getElem_toArray, List.getElem_cons_zero, List.getElem_cons_succ]
                refine wpAnyH_take (i := 9) (v := undef) rfl (by kernel_rfl) (by kernel_rfl) (by kernel_rfl) (fun _ _ _ h => h) (Or.inr ⟨by rfl, rfl⟩) (by assumption) ?_
                try simp only [Act.put, List.setIfInBounds_toArray, List.set_cons_zero, List.set_cons_succ, List.getElem_toArray, List.getElem_cons_zero, List.getElem_cons_succ]
                refine wpAnyH_take (i := 10) (v := undef) rfl (by kernel_rfl) (by kernel_rfl) (by kernel_rfl) (fun _ _ _ h => h) (Or.inr ⟨by rfl, rfl⟩) (by assumption) ?_
                try simp only [Act.put, List.setIfInBounds_toArray, List.set_cons_zero, List.set_cons_succ, List.getElem_toArray, List.getElem_cons_zero, List.getElem_cons_succ]
                refine wpAnyH_take (i := 11) (v := undef) rfl (by kernel_rfl) (by kernel_rfl) (by kernel_rfl) (fun _ _ _ h => h) (Or.inr ⟨by rfl, rfl⟩) (by assumption) ?_
                try simp only [Act.put, List.setIfInBounds_toArray, List.set_cons_zero, List.set_cons_succ, List.getElem_toArray, List.getElem_cons_zero, List.getElem_cons_succ]
                refine wpAnyH_take (i := 12) (v := undef) rfl (by kernel_rfl) (by kernel_rfl) (by kernel_rfl) (fun _ _ _ h => h) (Or.inr ⟨by rfl, rfl⟩) (by assumption) ?_
                try simp only [Act.put, List.setIfInBounds_toArray, List.set_cons_zero, List.set_cons_succ, List.getElem_toArray, List.getElem_cons_zero, List.getElem_cons_succ]
                refine wpAnyH_take (i := 13) (v := undef) rfl (by kernel_rfl) (by kernel_rfl) (by kernel_rfl) (fun _ _ _ h => h) (Or.inr ⟨by rfl, rfl⟩) (by assumption) ?_
                try simp only [Act.put, List.setIfInBounds_toArray, List.set_cons_zero, List.set_cons_succ, List.getElem_toArray, List.getElem_cons_zero, List.getElem_cons_succ]
                refine wpAnyH_take (i := 14) (v := ?_) rfl (by kernel_rfl) (by kernel_rfl) (by kernel_rfl) (fun _ _ _ h => h) (Or.inl ⟨by rfl, ?_⟩) (by assumption) ?_
                rotate_left
                · (intro w hSw; (try dsimp only at hSw); first | (go_simp; done) | (go_simp; with_reducible rfl))
                try simp only [Act.put, List.setIfInBounds_toArray, List.set_cons_zero, List.set_cons_succ, List.getElem_toArray, List.getElem_cons_zero, List.getElem_cons_succ]
                refine wpAnyH_take (i := 15) (v := ?_) rfl (by kernel_rfl) (by kernel_rfl) (by kernel_rfl) (fun _ _ _ h => h) (Or.inl ⟨by rfl, ?_⟩) (by assumption) ?_
                rotate_left
                · (intro w hSw; (try dsimp only at hSw); first | (go_simp; done) | (go_simp; with_reducible rfl))
                try simp only [Act.put, List.setIfInBounds_toArray, List.set_cons_zero, List.set_cons_succ, List.getElem_toArray, List.getElem_cons_zero, List.getElem_cons_succ]
                refine wpAnyH_done (by kernel_rfl) ?_ _
                go_wp2_with fail
                go_roundw
                case rel => exact ⟨s + 1, by omega, by omega, by go_num, Lib.hid (hP3.out.carry (hb5.out).drew)⟩
                case measure => simp [intOf] <;> omega
              | cons o L =>
                rw [hL] at HF
                have hr := hP3.out.rf.row hsi
                rw [hL] at hr
                obtain ⟨b2, c2, hz, _, hb2l, _, hcl, k0, k1, k2, k3, k4, _⟩ := co_cells hr (k := 0) rfl
                rw [hz] at HS
                have hlen : L.length + 1 ≤ 256 := by
                  have : (rowD s D).length ≤ 256 := by rcases hsi with e | e <;> rw [e] <;> simp [rowD] <;> omega
                  rw [hL] at this
                  exact this
                simp only [Nat.zero_mul, Nat.zero_add] at k0 k1 k2 k3 k4
                have HO := Lib.hid (of_any o)
                have q1 := neqC o
                have q2 := neqC_guard o o
                obtain ⟨xi, xo, xs, xn, xu⟩ := o
                dsimp only [List.headD, List.isEmpty, coV, List.length, List.headD_cons, List.isEmpty_cons, List.length_cons] at HF HS HO q1 q2 k0 k1 k2 k3 k4 hcl
                obtain ⟨z, hzl⟩ : ∃ z, L.length + 1 = z := ⟨_, rfl⟩
                rw [hzl] at HS hlen hcl
                have hz0 : 0 < z := by omega
                have i3 : (0 : Int) < (z : Int) := by omega
                clear hr hz hL hmost hzl
                go_wp2_with ((first
                  | (go_at_call 17; refine HF.out.mono ?_; rintro e w4 ⟨rfl, hb4⟩; replace hb4 := Lib.hid hb4; dsimp only)
                  | (go_at_call 18; refine (HS.out _ (bel_trans hb4.out (bel_new _ _))).mono ?_; rintro e w5 ⟨rfl, hw5⟩)))
                have hb5 := bel_trans hb4.out (bel_new w4 (.cells #[.int .i64 xi, .int .i64 xo, .int .i64 xs, .int .i64 xn, .int .i64 xu] 31))
                have hx5 := Box.fresh w4 31 #[.int .i64 xi, .int .i64 xo, .int .i64 xs, .int .i64 xn, .int .i64 xu] rfl
                rw [hw5] at hb5 hx5
                have KX : Hid (∀ w', Below w5.heap.size w5 w' → World.cell? w' ⟨w4.heap.size, 0, Option.none⟩ = some (.int .i64 xi) ∧ World.cell? w' ⟨w4.heap.size, 1, Option.none⟩ = some (.int .i64 xo) ∧ World.cell? w' ⟨w4.heap.size, 2, Option.none⟩ = some (.int .i64 xs) ∧ World.cell? w' ⟨w4.heap.size, 3, Option.none⟩ = some (.int .i64 xn) ∧ World.cell? w' ⟨w4.heap.size, 4, Option.none⟩ = some (.int .i64 xu) ∧ World.cell? w' ⟨b2, 0, Option.none⟩ = some (.int .i64 xi) ∧ World.cell? w' ⟨b2, 1, Option.none⟩ = some (.int .i64 xo) ∧ World.cell? w' ⟨b2, 2, Option.none⟩ = some (.int .i64 xs) ∧ World.cell? w' ⟨b2, 3, Option.none⟩ = some (.int .i64 xn) ∧ World.cell? w' ⟨b2, 4, Option.none⟩ = some (.int .i64 xu)) := Lib.hid (fun w' hb => by
                  have h1 := hx5.kept_below hb hx5.there
                  have h2 := bel_trans hb5 hb
                  exact ⟨h1.reads 0, h1.reads 1, h1.reads 2, h1.reads 3, h1.reads 4, (h2.cell (p := ⟨b2, 0, Option.none⟩) hb2l).trans k0, (h2.cell (p := ⟨b2, 1, Option.none⟩) hb2l).trans k1, (h2.cell (p := ⟨b2, 2, Option.none⟩) hb2l).trans k2, (h2.cell (p := ⟨b2, 3, Option.none⟩) hb2l).trans k3, (h2.cell (p := ⟨b2, 4, Option.none⟩) hb2l).trans k4⟩)
                replace hb5 := Lib.hid hb5
                clear hx5 hw5 k0 k1 k2 k3 k4 HF HS
                obtain ⟨X4, hX4⟩ : ∃ X4, w4.heap.size = X4 := ⟨_, rfl⟩
                rw [hX4] at KX ⊢
                clear hX4
                refine wp_region_held_drew (S := (fun w' => World.cell? w' ⟨X4, 0, Option.none⟩ = some (.int .i64 xi) ∧ World.cell? w' ⟨X4, 1, Option.none⟩ = some (.int .i64 xo) ∧ World.cell? w' ⟨X4, 2, Option.none⟩ = some (.int .i64 xs) ∧ World.cell? w' ⟨X4, 3, Option.none⟩ = some (.int .i64 xn) ∧ World.cell? w' ⟨X4, 4, Option.none⟩ = some (.int .i64 xu) ∧ World.cell? w' ⟨b2, 0, Option.none⟩ = some (.int .i64 xi) ∧ World.cell? w' ⟨b2, 1, Option.none⟩ = some (.int .i64 xo) ∧ World.cell? w' ⟨b2, 2, Option.none⟩ = some (.int .i64 xs) ∧ World.cell? w' ⟨b2, 3, Option.none⟩ = some (.int .i64 xn) ∧ World.cell? w' ⟨b2, 4, Option.none⟩ = some (.int .i64 xu))) (by kernel_rfl) (KX.out _ (Below.refl _ _).drew) (fun hHeld => ?_)
                refine wpAnyH_take (i := 0) (v := ?_) rfl (by kernel_rfl) (by kernel_rfl) (by kernel_rfl) (fun _ _ _ h => h) (Or.inl ⟨by rfl, ?_⟩) (by assumption) ?_
                rotate_left
                · (intro w hSw; (try dsimp only at hSw); first | (go_simp; done) | (go_simp; with_reducible rfl))
                try simp only [Act.put, List.setIfInBounds_toArray, List.set_cons_zero, List.set_cons_succ, List.getElem_toArray, List.getElem_cons_zero, List.getElem_cons_succ]
                refine wpAnyH_take (i := 1) (v := ?_) rfl (by kernel_rfl) (by kernel_rfl) (by kernel_rfl) (fun _ _ _ h => h) (Or.inl ⟨by rfl, ?_⟩) (by assumption) ?_
                rotate_left
                · (intro w hSw; (try dsimp only at hSw); first | (go_simp; done) | (go_simp; with_reducible rfl))
                try simp only [Act.put, List.setIfInBounds_toArray, List.set_cons_zero, List.set_cons_succ, List.getElem_toArray, List.getElem_cons_zero, List.getElem_cons_succ]
                refine wpAnyH_take (i := 2) (v := ?_) rfl (by kernel_rfl) (by kernel_rfl) (by kernel_rfl) (fun _ _ _ h => h) (Or.inl ⟨by rfl, ?_⟩) (by assumption) ?_
                rotate_left
                · (intro w hSw; (try dsimp only at hSw); first | (go_simp; done) | (go_simp; with_reducible rfl))
                try simp only [Act.put, List.setIfInBounds_toArray, List.set_cons_zero, List.set_cons_succ, List.getElem_toArray, List.getElem_cons_zero, List.getElem_cons_succ]
                refine wpAnyH_take (i := 3) (v := .bool true) rfl (by kernel_rfl) (by kernel_rfl) (by kernel_rfl) (fun _ _ _ h => h) (Or.inl ⟨by rfl, ?_⟩) (by assumption) ?_
                · (intro w hSw; (try dsimp only at hSw); first | (go_simp; done) | (go_simp; omega) | (go_simp; omega))
                try simp only [Act.put, List.setIfInBounds_toArray, List.set_cons_zero, List.set_cons_succ, List.getElem_toArray, List.getElem_cons_zero, List.getElem_cons_succ]
                refine wpAnyH_take (i := 4) (v := .bool false) rfl (by kernel_rfl) (by kernel_rfl) (by kernel_rfl) (fun _ _ _ h => h) (Or.inl ⟨by rfl, ?_⟩) (by assumption) ?_
                · (intro w hSw; (try dsimp only at hSw); first | (go_simp; done) | (go_simp; omega) | (go_simp; trivial))
                try simp only [Act.put, List.setIfInBounds_toArray, List.set_cons_zero, List.set_cons_succ, List.getElem_toArray, List.getElem_cons_zero, List.getElem_cons_succ]
                refine wpAnyH_take (i := 5) (v := ?_) rfl (by kernel_rfl) (by kernel_rfl) (by kernel_rfl) (fun _ _ _ h => h) (Or.inl ⟨by rfl, ?_⟩) (by assumption) ?_
                rotate_left
                · (intro w hSw; (try dsimp only at hSw); first | (go_simp; done) | (go_simp; with_reducible rfl))
                try simp only [Act.put, List.setIfInBounds_toArray, List.set_cons_zero, List.set_cons_succ, List.getElem_toArray, List.getElem_cons_zero, List.getElem_cons_succ]
                refine wpAnyH_take (i := 6) (v := ?_) rfl (by kernel_rfl) (by kernel_rfl) (by kernel_rfl) (fun _ _ _ h => h) (Or.inl ⟨by rfl, ?_⟩) (by assumption) ?_
                rotate_left
                · (intro w hSw; (try dsimp only at hSw); first | (go_simp; done) | (go_simp; with_reducible rfl))
                try simp only [Act.put, List.setIfInBounds_toArray, List.set_cons_zero, List.set_cons_succ, List.getElem_toArray, List.getElem_cons_zero, List.getElem_cons_succ]
                refine wpAnyH_take (i := 7) (v := ?_) rfl (by kernel_rfl) (by kernel_rfl) (by kernel_rfl) (fun _ _ _ h => h) (Or.inl ⟨by rfl, ?_⟩) (by assumption) ?_
                rotate_left
                · (intro w hSw; (try dsimp only at hSw); first | (go_simp; done) | (go_simp; with_reducible rfl))
                try simp only [Act.put, List.setIfInBounds_toArray, List.set_cons_zero, List.set_cons_succ, List.getElem_toArray, List.getElem_cons_zero, List.getElem_cons_succ]
                refine wpAnyH_take (i := 8) (v := ?_) rfl (by kernel_rfl) (by kernel_rfl) (by kernel_rfl) (fun _ _ _ h => h) (Or.inl ⟨by rfl, ?_⟩) (by assumption) ?_
                rotate_left
                · (intro w hSw; (try dsimp only at hSw); first | (go_simp; done) | (go_simp; with_reducible rfl))
                try simp only [Act.put, List.setIfInBounds_toArray, List.set_cons_zero, List.set_cons_succ, List.getElem_toArray, List.getElem_cons_zero, List.getElem_cons_succ]
                refine wpAnyH_take (i := 10) (v := ?_) rfl (by kernel_rfl) (by kernel_rfl) (by kernel_rfl) (fun _ _ _ h => h) (Or.inl ⟨by rfl, ?_⟩) (by assumption) ?_
                rotate_left
                · (intro w hSw; (try dsimp only at hSw); first | (go_simp; done) | (go_simp; with_reducible rfl))
                try simp only [Act.put, List.setIfInBounds_toArray, List.set_cons_zero, List.set_cons_succ, List.getElem_toArray, List.getElem_cons_zero, List.getElem_cons_succ]
                refine wpAnyH_take (i := 11) (v := ?_) rfl (by kernel_rfl) (by kernel_rfl) (by kernel_rfl) (fun _ _ _ h => h) (Or.inl ⟨by rfl, ?_⟩) (by assumption) ?_
                rotate_left
                · (intro w hSw; (try dsimp only at hSw); first | (go_simp; done) | (go_simp; with_reducible rfl))
                try simp only [Act.put, List.setIfInBounds_toArray, List.set_cons_zero, List.set_cons_succ, List.getElem_toArray, List.getElem_cons_zero, List.getElem_cons_succ]
                refine wpAnyH_take (i := 12) (v := ?_) rfl (by kernel_rfl) (by kernel_rfl) (by kernel_rfl) (fun _ _ _ h => h) (Or.inl ⟨by rfl, ?_⟩) (by assumption) ?_
                rotate_left
                · (intro w hSw; (try dsimp only at hSw); first | (go_simp; done) | (go_simp; with_reducible rfl))
                try simp only [Act.put, List.setIfInBounds_toArray, List.set_cons_zero, List.set_cons_succ, List.getElem_toArray, List.getElem_cons_zero, List.getElem_cons_succ]
                refine wpAnyH_ready (rs := [9]) (by kernel_rfl) (by simp) ?_
                refine AllReadyH.cons rfl (fun K hK => ?_) AllReadyH.nil
                go_simp
                refine (HO.out w5.drew).mono ?_; rintro e w6 ⟨rfl, hb6⟩; have HB6 := Lib.hid (((Below.refl _ _).drew).trans hb6 : Below w5.heap.size w5 w6); clear hb6
                refine hK.out _ _ (KX.out _ HB6.out) (fun hHeld => ?_)
                clear hK K
                try simp only [Act.put, List.setIfInBounds_toArray, List.set_cons_zero, List.set_cons_succ, List.getElem_toArray, List.getElem_cons_zero, List.getElem_cons_succ]
                refine wpAnyH_take (i := 13) (v := .bool false) rfl (by kernel_rfl) (by kernel_rfl) (by kernel_rfl) (fun _ _ _ h => h) (Or.inl ⟨by rfl, ?_⟩) (by assumption) ?_
                · (intro w hSw; (try dsimp only at hSw); first | (go_simp; done) | (go_simp; omega) | (go_simp; simp [q1, q2]))
                try simp only [Act.put, List.setIfInBounds_toArray, List.set_cons_zero, List.set_cons_succ, List.getElem_toArray, List.getElem_cons_zero, List.getElem_cons_succ]
                refine wpAnyH_take (i := 14) (v := ?_) rfl (by kernel_rfl) (by kernel_rfl) (by kernel_rfl) (fun _ _ _ h => h) (Or.inl ⟨by rfl, ?_⟩) (by assumption) ?_
                rotate_left
                · (intro w hSw; (try dsimp only at hSw); first | (go_simp; done) | (go_simp; with_reducible rfl))
                try simp only [Act.put, List.setIfInBounds_toArray, List.set_cons_zero, List.set_cons_succ, List.getElem_toArray, List.getElem_cons_zero, List.getElem_cons_succ]
                refine wpAnyH_take (i := 15) (v := ?_) rfl (by kernel_rfl) (by kernel_rfl) (by kernel_rfl) (fun _ _ _ h => h) (Or.inl ⟨by rfl, ?_⟩) (by assumption) ?_
                rotate_left
                · (intro w hSw; (try dsimp only at hSw); first | (go_simp; done) | (go_simp; with_reducible rfl))
                try simp only [Act.put, List.setIfInBounds_toArray, List.set_cons_zero, List.set_cons_succ, List.getElem_toArray, List.getElem_cons_zero, List.getElem_cons_succ]
                refine wpAnyH_done (by kernel_rfl) ?_ _
                go_wp2_with fail
                go_roundw
                case rel => exact ⟨s + 1, by omega, by omega, by go_num, Lib.hid (hP3.out.carry (bel_trans hb5.out HB6.out))⟩
                case measure => simp [intOf] <;> omega
            · obtain rfl : s = 3 := by omega
              go_wp2_with fail
              go_roundw
              case rel => exact ⟨i + 1, by omega, by go_num, Lib.hid ⟨v1, v2, D, O, hP3.out⟩⟩
              case measure => simp [intOf] <;> omega
        · by_cases h3 : op = 3
          · skip
            subst h3
            go_wp2_with (go_at_call 14; refine Hid.out ?_)
            obtain ⟨W, hW⟩ : ∃ W, wr.alloc (.cells #[.int .i64 3, .int .i64 oi, .int .i64 oo, .int .i64 os, .int .i64 on, .int .i64 ou, .int .i64 aid, .int .i64 au] 33) = W := ⟨_, rfl⟩
            rw [hW] at hP1 hX1 ⊢
            obtain ⟨X, hX⟩ : ∃ X, wr.heap.size = X := ⟨_, rfl⟩
            rw [hX] at hX1 ⊢
            clear hW hX d0 d1 d2 d3 d4 d5 d6 d7
            have HINV := Lib.hid hP1.out.cb.inv
            refine Lib.hid ?_
            refine (cb_red hP1.out.cb aid au).mono ?_
            rintro _ w3 hd3
            obtain ⟨rfl, ⟨O3, hP3⟩, hact3⟩ := hP1.out.did hd3
            have HX3 := Lib.hid (hact3 _ _ hX1.out)
            have HP3 := Lib.hid hP3
            obtain ⟨⟨⟨xi, xo, xs, xn, xu⟩, bx⟩, hv⟩ : ∃ p, redO D aid au = p := ⟨_, rfl⟩
            have HV := Lib.hid hv
            rw [hv]
            unfold coV
            dsimp only
            clear hP3 hact3 hd3 hv
            have c6 : ∀ x, (w3.alloc x).cell? ⟨X, 6, Option.none⟩ = some (.int .i64 aid) := fun x => (HX3.out.kept_below (bel_new w3 x) HX3.out.there).reads 6
            have c7 : ∀ x, (w3.alloc x).cell? ⟨X, 7, Option.none⟩ = some (.int .i64 au) := fun x => (HX3.out.kept_below (bel_new w3 x) HX3.out.there).reads 7
            go_wp2_with (go_at_call 15; refine Hid.out ?_)
            clear c6 c7
            have HP4 := Lib.hid (HP3.out.carry (bel_new w3 (.cells #[.int .i64 xi, .int .i64 xo, .int .i64 xs, .int .i64 xn, .int .i64 xu] 31)))
            have hx4 := Box.fresh w3 31 #[.int .i64 xi, .int .i64 xo, .int .i64 xs, .int .i64 xn, .int .i64 xu] rfl
            have hxm : w3.heap.size ≠ m := fun e => by have := HP3.out.rf.there; omega
            refine Lib.hid ?_
            refine (rred_any HP4.out.rf HINV.out aid au).mono ?_
            rintro _ w5 ⟨rfl, hx5, hc5⟩
            rw [HV.out]
            dsimp only
            have HX5 := Lib.hid (hx4.kept hc5 hxm)
            have HP5 := Lib.hid (HP4.out.rdid hx5 hc5)
            clear hx5 hc5 hx4
            have HO := Lib.hid (of_any ⟨xi, xo, xs, xn, xu⟩)
            have q1 := neqC ⟨xi, xo, xs, xn, xu⟩
            have q2 := neqC_guard ⟨xi, xo, xs, xn, xu⟩ ⟨xi, xo, xs, xn, xu⟩
            obtain ⟨X3, hX3⟩ : ∃ X3, w3.heap.size = X3 := ⟨_, rfl⟩
            rw [hX3] at HX5 ⊢
            clear hX3 hxm
            unfold coV at HO q1 q2 ⊢
            dsimp only at HO q1 q2
            go_wp2_with fail
            obtain ⟨W6, hW6⟩ : ∃ W6, w5.alloc (.cells #[.int .i64 xi, .int .i64 xo, .int .i64 xs, .int .i64 xn, .int .i64 xu] 37) = W6 := ⟨_, rfl⟩
            have hb6 := bel_new w5 (.cells #[.int .i64 xi, .int .i64 xo, .int .i64 xs, .int .i64 xn, .int .i64 xu] 37)
            have hy6 := Box.fresh w5 37 #[.int .i64 xi, .int .i64 xo, .int .i64 xs, .int .i64 xn, .int .i64 xu] rfl
            rw [hW6] at hb6 hy6 ⊢
            have hx6 := HX5.out.kept_below hb6 HX5.out.there
            obtain ⟨Y5, hY5⟩ : ∃ Y5, w5.heap.size = Y5 := ⟨_, rfl⟩
            rw [hY5] at hy6 ⊢
            have hP9 : ∃ v1 v2 D O, PlC w0 B g m v1 v2 D D O W6 := HP5.out.elim fun u1 h => h.elim fun u2 h => ⟨_, _, _, _, h.carry hb6⟩
            have KX : Hid (∀ w', Below W6.heap.size W6 w' → World.cell? w' ⟨X3, 0, Option.none⟩ = some (.int .i64 xi) ∧ World.cell? w' ⟨X3, 1, Option.none⟩ = some (.int .i64 xo) ∧ World.cell? w' ⟨X3, 2, Option.none⟩ = some (.int .i64 xs) ∧ World.cell? w' ⟨X3, 3, Option.none⟩ = some (.int .i64 xn) ∧ World.cell? w' ⟨X3, 4, Option.none⟩ = some (.int .i64 xu) ∧ World.cell? w' ⟨Y5, 0, Option.none⟩ = some (.int .i64 xi) ∧ World.cell? w' ⟨Y5, 1, Option.none⟩ = some (.int .i64 xo) ∧ World.cell? w' ⟨Y5, 2, Option.none⟩ = some (.int .i64 xs) ∧ World.cell? w' ⟨Y5, 3, Option.none⟩ = some (.int .i64 xn) ∧ World.cell? w' ⟨Y5, 4, Option.none⟩ = some (.int .i64 xu)) := Lib.hid (fun w' hb => by
              have h1 := hx6.kept_below hb hx6.there
              have h2 := hy6.kept_below hb hy6.there
              exact ⟨h1.reads 0, h1.reads 1, h1.reads 2, h1.reads 3, h1.reads 4, h2.reads 0, h2.reads 1, h2.reads 2, h2.reads 3, h2.reads 4⟩)
            clear hb6 hy6 hx6 hW6 hY5 HP5 HP4 HP3 HX3 HX5 HV HINV hP1 hX1
            obtain ⟨v1, v2, D, O, hP1⟩ := hP9
            replace hP1 := Lib.hid hP1
            refine wp_region_held_drew (S := (fun w' => World.cell? w' ⟨X3, 0, Option.none⟩ = some (.int .i64 xi) ∧ World.cell? w' ⟨X3, 1, Option.none⟩ = some (.int .i64 xo) ∧ World.cell? w' ⟨X3, 2, Option.none⟩ = some (.int .i64 xs) ∧ World.cell? w' ⟨X3, 3, Option.none⟩ = some (.int .i64 xn) ∧ World.cell? w' ⟨X3, 4, Option.none⟩ = some (.int .i64 xu) ∧ World.cell? w' ⟨Y5, 0, Option.none⟩ = some (.int .i64 xi) ∧ World.cell? w' ⟨Y5, 1, Option.none⟩ = some (.int .i64 xo) ∧ World.cell? w' ⟨Y5, 2, Option.none⟩ = some (.int .i64 xs) ∧ World.cell? w' ⟨Y5, 3, Option.none⟩ = some (.int .i64 xn) ∧ World.cell? w' ⟨Y5, 4, Option.none⟩ = some (.int .i64 xu))) (by kernel_rfl) (KX.out _ (Below.refl _ _).drew) (fun hHeld => ?_)
            refine wpAnyH_take (i := 0) (v := ?_) rfl (by kernel_rfl) (by kernel_rfl) (by kernel_rfl) (fun _ _ _ h => h) (Or.inl ⟨by rfl, ?_⟩) (by assumption) ?_
            rotate_left
            · (intro w hSw; (try dsimp only at hSw); first | (go_simp; done) | (go_simp; with_reducible rfl))
            try simp only [Act.put, List.setIfInBounds_toArray, List.set_cons_zero, List.set_cons_succ, List.getElem_toArray, List.getElem_cons_zero, List.getElem_cons_succ]
            refine wpAnyH_take (i := 2) (v := ?_) rfl (by kernel_rfl) (by kernel_rfl) (by kernel_rfl) (fun _ _ _ h => h) (Or.inl ⟨by rfl, ?_⟩) (by assumption) ?_
            rotate_left
            · (intro w hSw; (try dsimp only at hSw); first | (go_simp; done) | (go_simp; with_reducible rfl))
            try simp only [Act.put, List.setIfInBounds_toArray, List.set_cons_zero, List.set_cons_succ, List.getElem_toArray, List.getElem_cons_zero, List.getElem_cons_succ]
            refine wpAnyH_ready (rs := [1]) (by kernel_rfl) (by simp) ?_
            refine AllReadyH.cons rfl (fun K hK => ?_) AllReadyH.nil
            go_simp
            refine (HO.out W6.drew).mono ?_; rintro e w7 ⟨rfl, hb7⟩; have HB7 := Lib.hid (((Below.refl _ _).drew).trans hb7 : Below W6.heap.size W6 w7); clear hb7
            refine hK.out _ _ (KX.out _ HB7.out) (fun hHeld => ?_)
            clear hK K
            try simp only [Act.put, List.setIfInBounds_toArray, List.set_cons_zero, List.set_cons_succ, List.getElem_toArray, List.getElem_cons_zero, List.getElem_cons_succ]
            refine wpAnyH_take (i := 3) (v := .bool false) rfl (by kernel_rfl) (by kernel_rfl) (by kernel_rfl) (fun _ _ _ h => h) (Or.inl ⟨by rfl, ?_⟩) (by assumption) ?_
            · (intro w hSw; (try dsimp only at hSw); first | (go_simp; done) | (go_simp; omega) | (go_simp; simp [q1, q2]))
            try simp only [Act.put, List.setIfInBounds_toArray, List.set_cons_zero, List.set_cons_succ, List.getElem_toArray, List.getElem_cons_zero, List.getElem_cons_succ]
            refine wpAnyH_take (i := 4) (v := ?_) rfl (by kernel_rfl) (by kernel_rfl) (by kernel_rfl) (fun _ _ _ h => h) (Or.inl ⟨by rfl, ?_⟩) (by assumption) ?_
            rotate_left
            · (intro w hSw; (try dsimp only at hSw); first | (go_simp; done) | (go_simp; with_reducible rfl))
            try simp only [Act.put, List.setIfInBounds_toArray, List.set_cons_zero, List.set_cons_succ, List.getElem_toArray, List.getElem_cons_zero, List.getElem_cons_succ]
            refine wpAnyH_take (i := 5) (v := ?_) rfl (by kernel_rfl) (by kernel_rfl) (by kernel_rfl) (fun _ _ _ h => h) (Or.inl ⟨by rfl, ?_⟩) (by assumption) ?_
            rotate_left
            · (intro w hSw; (try dsimp only at hSw); first | (go_simp; done) | (go_simp; with_reducible rfl))
            try simp only [Act.put, List.setIfInBounds_toArray, List.set_cons_zero, List.set_cons_succ, List.getElem_toArray, List.getElem_cons_zero, List.getElem_cons_succ]
            refine wpAnyH_take (i := 6) (v := ?_) rfl (by kernel_rfl) (by kernel_rfl) (by kernel_rfl) (fun _ _ _ h => h) (Or.inl ⟨by rfl, ?_⟩) (by assumption) ?_
            rotate_left
            · (intro w hSw; (try dsimp only at hSw); first | (go_simp; done) | (go_simp; with_reducible rfl))
            try simp only [Act.put, List.setIfInBounds_toArray, List.set_cons_zero, List.set_cons_succ, List.getElem_toArray, List.getElem_cons_zero, List.getElem_cons_succ]
            refine wpAnyH_take (i := 7) (v := .bool false) rfl (by kernel_rfl) (by kernel_rfl) (by kernel_rfl) (fun _ _ _ h => h) (Or.inl ⟨by rfl, ?_⟩) (by assumption) ?_
            · (intro w hSw; (try dsimp only at hSw); first | (go_simp; done) | (go_simp; omega) | (go_simp; simp))
            try simp only [Act.put, List.setIfInBounds_toArray, List.set_cons_zero, List.set_cons_succ, List.getElem_toArray, List.getElem_cons_zero, List.getElem_cons_succ]
            refine wpAnyH_take (i := 8) (v := ?_) rfl (by kernel_rfl) (by kernel_rfl) (by kernel_rfl) (fun _ _ _ h => h) (Or.inl ⟨by rfl, ?_⟩) (by assumption) ?_
            rotate_left
            · (intro w hSw; (try dsimp only at hSw); first | (go_simp; done) | (go_simp; with_reducible rfl))
            try simp only [Act.put, List.setIfInBounds_toArray, List.set_cons_zero, List.set_cons_succ, List.getElem_toArray, List.getElem_cons_zero, List.getElem_cons_succ]
            refine wpAnyH_done (by kernel_rfl) ?_ _
            replace hP1 := Lib.hid (hP1.out.carry HB7.out)
            clear KX HB7 HO q1 q2
            go_wp2_with (go_at_call 16; refine Hid.out ?_)
            refine Lib.hid ?_
            refine (same_any hP1.out).mono ?_
            rintro _ w2 ⟨rfl, hb2⟩
            have hP2 := Lib.hid (hP1.out.carry hb2)
            clear hb2 hP1
            go_wp2_with fail
            go_loopw [17] (fun v17 wq => ∃ s : Nat, 1 ≤ s ∧ s ≤ 3 ∧ v17 = .int .i64 s ∧ Hid (PlC w0 B g m v1 v2 D D O wq)) (fun v17 _ => 3 - (intOf v17).toNat)
            case atStart => exact ⟨1, by omega, by omega, rfl, hP2⟩
            case round =>
              clear hP2
              obtain ⟨s, hs1, hs3, rfl, hP3⟩ := hrel
              by_cases hs : s < 3
              · have hsi : (s : Int) = 1 ∨ (s : Int) = 2 := by omega
                have d1 : decide ((s : Int) ≤ 2) = true := by simp; omega
                have HF := Lib.hid (cb_front hP3.out.cb s)
                have HS := Lib.hid (fun w' (hb : Below wr.heap.size wr w') => rside_any (hP3.out.carry hb).rf s)
                have hmost := hP3.out.cb.inv.most
                cases hL : rowD s D with
                | nil =>
                  rw [hL] at HF
                  have HR := Lib.hid (hP3.out.rf.row hsi)
                  rw [hL] at HR
                  obtain ⟨Az, cz, hz⟩ := own_slice HR.out
                  rw [hz] at HS
                  clear HR hz hL hmost
                  dsimp only [List.headD, List.isEmpty, coV, zeroC, List.length] at HF HS
                  go_wp2_with ((first
                    | (go_at_call 17; refine HF.out.mono ?_; rintro e w4 ⟨rfl, hb4⟩; replace hb4 := Lib.hid hb4; dsimp only)
                    | (go_at_call 18; refine (HS.out _ (bel_trans hb4.out (bel_new _ _))).mono ?_; rintro e w5 ⟨rfl, hw5⟩)))
                  have hb5 := Lib.hid (hw5 ▸ bel_trans hb4.out (bel_new w4 _) : Below wr.heap.size wr w5)
                  clear hw5
                  refine wp_region_held_drew (S := (fun _ => True)) (by kernel_rfl) (trivial) (fun hHeld => ?_)
                  refine wpAnyH_take (i := 0) (v := ?_) rfl (by kernel_rfl) (by kernel_rfl) (by kernel_rfl) (fun _ _ _ h => h) (Or.inl ⟨by rfl, ?_⟩) (by assumption) ?_
                  rotate_left
                  · (intro w hSw; (try dsimp only at hSw); first | (go_simp; done) | (go_simp; with_reducible rfl))
                  try simp only [Act.put, List.setIfInBounds_toArray, List.set_cons_zero, List.set_cons_succ, List.getElem_toArray, List.getElem_cons_zero, List.getElem_cons_succ]
                  refine wpAnyH_take (i := 1) (v := ?_) rfl (by kernel_rfl) (by kernel_rfl) (by kernel_rfl) (fun _ _ _ h => h) (Or.inl ⟨by rfl, ?_⟩) (by assumption) ?_
                  rotate_left
                  · (intro w hSw; (try dsimp only at hSw); first | (go_simp; done) | (go_simp; with_reducible rfl))
                  try simp only [Act.put, List.setIfInBounds_toArray, List.set_cons_zero, List.set_cons_succ, List.getElem_toArray, List.getElem_cons_zero, List.getElem_cons_succ]
                  refine wpAnyH_take (i := 2) (v := ?_) rfl (by kernel_rfl) (by kernel_rfl) (by kernel_rfl) (fun _ _ _ h => h) (Or.inl ⟨by rfl, ?_⟩) (by assumption) ?_
                  rotate_left
                  · (intro w hSw; (try dsimp only at hSw); first | (go_simp; done) | (go_simp; with_reducible rfl))
                  try simp only [Act.put, List.setIfInBounds_toArray, List.set_cons_zero, List.set_cons_succ, List.getElem_toArray, List.getElem_cons_zero, List.getElem_cons_succ]
                  refine wpAnyH_take (i := 3) (v := .bool false) rfl (by kernel_rfl) (by kernel_rfl) (by kernel_rfl) (fun _ _ _ h => h) (Or.inl ⟨by rfl, ?_⟩) (by assumption) ?_
                  · (intro w hSw; (try dsimp only at hSw); first | (go_simp; done) | (go_simp; omega) | (go_simp; trivial))
                  try simp only [Act.put, List.setIfInBounds_toArray, List.set_cons_zero, List.set_cons_succ, List.getElem_toArray, List.getElem_cons_zero, List.getElem_cons_succ]
                  refine wpAnyH_take (i := 4) (v := .bool false) rfl (by kernel_rfl) (by kernel_rfl) (by kernel_rfl) (fun _ _ _ h => h) (Or.inl ⟨by rfl, ?_⟩) (by assumption) ?_
                  · (intro w hSw; (try dsimp only at hSw); first | (go_simp; done) | (go_simp; omega) | (go_simp; trivial))
                  try simp only [Act.put, List.setIfInBounds_toArray, List.set_cons_zero, List.set_cons_succ, List.getElem_toArray, List.getElem_cons_zero, List.getElem_cons_succ]
                  refine wpAnyH_take (i := 5) (v := ?_) rfl (by kernel_rfl) (by kernel_rfl) (by kernel_rfl) (fun _ _ _ h => h) (Or.inl ⟨by rfl, ?_⟩) (by assumption) ?_
                  rotate_left
                  · (intro w hSw; (try dsimp only at hSw); first | (go_simp; done) | (go_simp; with_reducible rfl))
                  try simp only [Act.put, List.setIfInBounds_toArray, List.set_cons_zero, List.set_cons_succ, List.getElem_toArray, List.getElem_cons_zero, List.getElem_cons_succ]
                  refine wpAnyH_take (i := 6) (v := ?_) rfl (by kernel_rfl) (by kernel_rfl) (by kernel_rfl) (fun _ _ _ h => h) (Or.inl ⟨by rfl, ?_⟩) (by assumption) ?_
                  rotate_left
                  · (intro w hSw; (try dsimp only at hSw); first | (go_simp; done) | (go_simp; with_reducible rfl))
                  try simp only [Act.put, List.setIfInBounds_toArray, List.set_cons_zero, List.set_cons_succ, List.getElem_toArray, List.getElem_cons_zero, List.getElem_cons_succ]
                  refine wpAnyH_take (i := 7) (v := ?_) rfl (by kernel_rfl) (by kernel_rfl) (by kernel_rfl) (fun _ _ _ h => h) (Or.inl ⟨by rfl, ?_⟩) (by assumption) ?_
                  rotate_left
                  · (intro w hSw; (try dsimp only at hSw); first | (go_simp; done) | (go_simp; with_reducible rfl))
                  try simp only [Act.put, List.setIfInBounds_toArray, List.set_cons_zero, List.set_cons_succ, List.getElem_toArray, List.getElem_cons_zero, List.getElem_cons_succ]
                  refine wpAnyH_take (i := 8) (v := undef) rfl (by kernel_rfl) (by kernel_rfl) (by kernel_rfl) (fun _ _ _ h => h) (Or.inr ⟨by rfl, rfl⟩) (by assumption) ?_
                  try simp only [Act.put, List.setIfInBounds_toArray, List.set_cons_zero, List.set_cons_succ, List.getElem_toArray, List.getElem_cons_zero, List.getElem_cons_succ]
                  refine wpAnyH_take (i := 9) (v := undef) rfl (by kernel_rfl) (by kernel_rfl) (by kernel_rfl) (fun _ _ _ h => h) (Or.inr ⟨by rfl, rfl⟩) (by assumption) ?_
                  try simp only [Act.put, List.setIfInBounds_toArray, List.set_cons_zero, List.set_cons_succ, List.getElem_toArray, List.getElem_cons_zero, List.getElem_cons_succ]
                  refine wpAnyH_take (i := 10) (v := undef) rfl (by kernel_rfl) (by kernel_rfl) (by kernel_rfl) (fun _ _ _ h => h) (Or.inr ⟨by rfl, rfl⟩) (by assumption) ?_
                  try simp only [Act.put, List.setIfInBounds_toArray, List.set_cons_zero, List.set_cons_succ, List.getElem_toArray, List.getElem_cons_zero, List.getElem_cons_succ]
                  refine wpAnyH_take (i := 11) (v := undef) rfl (by kernel_rfl) (by kernel_rfl) (by kernel_rfl) (fun _ _ _ h => h) (Or.inr ⟨by rfl, rfl⟩) (by assumption) ?_
                  try simp only [Act.put, List.setIfInBounds_toArray, List.set_cons_zero, List.set_cons_succ, List.getElem_toArray, List.getElem_cons_zero, List.getElem_cons_succ]
                  refine wpAnyH_take (i := 12) (v := undef) rfl (by kernel_rfl) (by kernel_rfl) (by kernel_rfl) (fun _ _ _ h => h) (Or.inr ⟨by rfl, rfl⟩) (by assumption) ?_
                  try simp only [Act.put, List.setIfInBounds_toArray, List.set_cons_zero, List.set_cons_succ, List.getElem_toArray, List.getElem_cons_zero, List.getElem_cons_succ]
                  refine wpAnyH_take (i := 13) (v := undef) rfl (by kernel_rfl) (by kernel_rfl) (by kernel_rfl) (fun _ _ _ h => h) (Or.inr ⟨by rfl, rfl⟩) (by assumption) ?_
                  try simp only [Act.put, List.setIfInBounds_toArray, List.set_cons_zero, List.set_cons_succ, List.getElem_toArray, List.getElem_cons_zero, List.getElem_cons_succ]
                  refine wpAnyH_take (i := 14) (v := ?_) rfl (by kernel_rfl) (by kernel_rfl) (by kernel_rfl) (fun _ _ _ h => h) (Or.inl ⟨by rfl, ?_⟩) (by assumption) ?_
                  rotate_left
                  · (intro w hSw; (try dsimp only at hSw); first | (go_simp; done) | (go_simp; with_reducible rfl))
                  try simp only [Act.put, List.setIfInBounds_toArray, List.set_cons_zero, List.set_cons_succ, List.getElem_toArray, List.getElem_cons_zero, List.getElem_cons_succ]
                  refine wpAnyH_take (i := 15) (v := ?_) rfl (by kernel_rfl) (by kernel_rfl) (by kernel_rfl) (fun _ _ _ h => h) (Or.inl ⟨by rfl, ?_⟩) (by assumption) ?_
                  rotate_left
                  · (intro w hSw; (try dsimp only at hSw); first | (go_simp; done) | (go_simp; with_reducible rfl))
                  try simp only [Act.put, List.setIfInBounds_toArray, List.set_cons_zero, List.set_cons_succ, List.getElem_toArray, List.getElem_cons_zero, List.getElem_cons_succ]
                  refine wpAnyH_done (by kernel_rfl) ?_ _
                  go_wp2_with fail
                  go_roundw
                  case rel => exact ⟨s + 1, by omega, by omega, by go_num, Lib.hid (hP3.out.carry (hb5.out).drew)⟩
                  case measure => simp [intOf] <;> omega
                | cons o L =>
                  rw [hL] at HF
                  have hr := hP3.out.rf.row hsi
                  rw [hL] at hr
                  obtain ⟨b2, c2, hz, _, hb2l, _, hcl, k0, k1, k2, k3, k4, _⟩ := co_cells hr (k := 0) rfl
                  rw [hz] at HS
                  have hlen : L.length + 1 ≤ 256 := by
                    have : (rowD s D).length ≤ 256 := by rcases hsi with e | e <;> rw [e] <;> simp [rowD] <;> omega
                    rw [hL] at this
                    exact this
                  simp only [Nat.zero_mul, Nat.zero_add] at k0 k1 k2 k3 k4
                  have HO := Lib.hid (of_any o)
                  have q1 := neqC o
                  have q2 := neqC_guard o o
                  obtain ⟨xi, xo, xs, xn, xu⟩ := o
                  dsimp only [List.headD, List.isEmpty, coV, List.length, List.headD_cons, List.isEmpty_cons, List.length_cons] at HF HS HO q1 q2 k0 k1 k2 k3 k4 hcl
                  obtain ⟨z, hzl⟩ : ∃ z, L.length + 1 = z := ⟨_, rfl⟩
                  rw [hzl] at HS hlen hcl
                  have hz0 : 0 < z := by omega
                  have i3 : (0 : Int) < (z : Int) := by omega
                  clear hr hz hL hmost hzl
                  go_wp2_with ((first
                    | (go_at_call 17; refine HF.out.mono ?_; rintro e w4 ⟨rfl, hb4⟩; replace hb4 := Lib.hid hb4; dsimp only)
                    | (go_at_call 18; refine (HS.out _ (bel_trans hb4.out (bel_new _ _))).mono ?_; rintro e w5 ⟨rfl, hw5⟩)))
                  have hb5 := bel_trans hb4.out (bel_new w4 (.cells #[.int .i64 xi, .int .i64 xo, .int .i64 xs, .int .i64 xn, .int .i64 xu] 31))
                  have hx5 := Box.fresh w4 31 #[.int .i64 xi, .int .i64 xo, .int .i64 xs, .int .i64 xn, .int .i64 xu] rfl
                  rw [hw5] at hb5 hx5
                  have KX : Hid (∀ w', Below w5.heap.size w5 w' → World.cell? w' ⟨w4.heap.size, 0, Option.none⟩ = some (.int .i64 xi) ∧ World.cell? w' ⟨w4.heap.size, 1, Option.none⟩ = some (.int .i64 xo) ∧ World.cell? w' ⟨w4.heap.size, 2, Option.none⟩ = some (.int .i64 xs) ∧ World.cell? w' ⟨w4.heap.size, 3, Option.none⟩ = some (.int .i64 xn) ∧ World.cell? w' ⟨w4.heap.size, 4, Option.none⟩ = some (.int .i64 xu) ∧ World.cell? w' ⟨b2, 0, Option.none⟩ = some (.int .i64 xi) ∧ World.cell? w' ⟨b2, 1, Option.none⟩ = some (.int .i64 xo) ∧ World.cell? w' ⟨b2, 2, Option.none⟩ = some (.int .i64 xs) ∧ World.cell? w' ⟨b2, 3, Option.none⟩ = some (.int .i64 xn) ∧ World.cell? w' ⟨b2, 4, Option.none⟩ = some (.int .i64 xu)) := Lib.hid (fun w' hb => by
                    have h1 := hx5.kept_below hb hx5.there
                    have h2 := bel_trans hb5 hb
                    exact ⟨h1.reads 0, h1.reads 1, h1.reads 2, h1.reads 3, h1.reads 4, (h2.cell (p := ⟨b2, 0, Option.none⟩) hb2l).trans k0, (h2.cell (p := ⟨b2, 1, Option.none⟩) hb2l).trans k1, (h2.cell (p := ⟨b2, 2, Option.none⟩) hb2l).trans k2, (h2.cell (p := ⟨b2, 3, Option.none⟩) hb2l).trans k3, (h2.cell (p := ⟨b2, 4, Option.none⟩) hb2l).trans k4⟩)
                  replace hb5 := Lib.hid hb5
                  clear hx5 hw5 k0 k1 k2 k3 k4 HF HS
                  obtain ⟨X4, hX4⟩ : ∃ X4, w4.heap.size = X4 := ⟨_, rfl⟩
                  rw [hX4] at KX ⊢
                  clear hX4
                  refine wp_region_held_drew (S := (fun w' => World.cell? w' ⟨X4, 0, Option.none⟩ = some (.int .i64 xi) ∧ World.cell? w' ⟨X4, 1, Option.none⟩ = some (.int .i64 xo) ∧ World.cell? w' ⟨X4, 2, Option.none⟩ = some (.int .i64 xs) ∧ World.cell? w' ⟨X4, 3, Option.none⟩ = some (.int .i64 xn) ∧ World.cell? w' ⟨X4, 4, Option.none⟩ = some (.int .i64 xu) ∧ World.cell? w' ⟨b2, 0, Option.none⟩ = some (.int .i64 xi) ∧ World.cell? w' ⟨b2, 1, Option.none⟩ = some (.int .i64 xo) ∧ World.cell? w' ⟨b2, 2, Option.none⟩ = some (.int .i64 xs) ∧ World.cell? w' ⟨b2, 3, Option.none⟩ = some (.int .i64 xn) ∧ World.cell? w' ⟨b2, 4, Option.none⟩ = some (.int .i64 xu))) (by kernel_rfl) (KX.out _ (Below.refl _ _).drew) (fun hHeld => ?_)
                  refine wpAnyH_take (i := 0) (v := ?_) rfl (by kernel_rfl) (by kernel_rfl) (by kernel_rfl) (fun _ _ _ h => h) (Or.inl ⟨by rfl, ?_⟩) (by assumption) ?_
                  rotate_left
                  · (intro w hSw; (try dsimp only at hSw); first | (go_simp; done) | (go_simp; with_reducible rfl))
                  try simp only [Act.put, List.setIfInBounds_toArray, List.set_cons_zero, List.set_cons_succ, List.getElem_toArray, List.getElem_cons_zero, List.getElem_cons_succ]
                  refine wpAnyH_take (i := 1) (v := ?_) rfl (by kernel_rfl) (by kernel_rfl) (by kernel_rfl) (fun _ _ _ h => h) (Or.inl ⟨by rfl, ?_⟩) (by assumption) ?_
                  rotate_left
                  · (intro w hSw; (try dsimp only at hSw); first | (go_simp; done) | (go_simp; with_reducible rfl))
                  try simp only [Act.put, List.setIfInBounds_toArray, List.set_cons_zero, List.set_cons_succ, List.getElem_toArray, List.getElem_cons_zero, List.getElem_cons_succ]
                  refine wpAnyH_take (i := 2) (v := ?_) rfl (by kernel_rfl) (by kernel_rfl) (by kernel_rfl) (fun _ _ _ h => h) (Or.inl ⟨by rfl, ?_⟩) (by assumption) ?_
                  rotate_left
                  · (intro w hSw; (try dsimp only at hSw); first | (go_simp; done) | (go_simp; with_reducible rfl))
                  try simp only [Act.put, List.setIfInBounds_toArray, List.set_cons_zero, List.set_cons_succ, List.getElem_toArray, List.getElem_cons_zero, List.getElem_cons_succ]
                  refine wpAnyH_take (i := 3) (v := .bool true) rfl (by kernel_rfl) (by kernel_rfl) (by kernel_rfl) (fun _ _ _ h => h) (Or.inl ⟨by rfl, ?_⟩) (by assumption) ?_
                  · (intro w hSw; (try dsimp only at hSw); first | (go_simp; done) | (go_simp; omega) | (go_simp; omega))
                  try simp only [Act.put, List.setIfInBounds_toArray, List.set_cons_zero, List.set_cons_succ, List.getElem_toArray, List.getElem_cons_zero, List.getElem_cons_succ]
                  refine wpAnyH_take (i := 4) (v := .bool false) rfl (by kernel_rfl) (by kernel_rfl) (by kernel_rfl) (fun _ _ _ h => h) (Or.inl ⟨by rfl, ?_⟩) (by assumption) ?_
                  · (intro w hSw; (try dsimp only at hSw); first | (go_simp; done) | (go_simp; omega) | (go_simp; trivial))
                  try simp only [Act.put, List.setIfInBounds_toArray, List.set_cons_zero, List.set_cons_succ, List.getElem_toArray, List.getElem_cons_zero, List.getElem_cons_succ]
                  refine wpAnyH_take (i := 5) (v := ?_) rfl (by kernel_rfl) (by kernel_rfl) (by kernel_rfl) (fun _ _ _ h => h) (Or.inl ⟨by rfl, ?_⟩) (by assumption) ?_
                  rotate_left
                  · (intro w hSw; (try dsimp only at hSw); first | (go_simp; done) | (go_simp; with_reducible rfl))
                  try simp only [Act.put, List.setIfInBounds_toArray, List.set_cons_zero, List.set_cons_succ, List.getElem_toArray, List.getElem_cons_zero, List.getElem_cons_succ]
                  refine wpAnyH_take (i := 6) (v := ?_) rfl (by kernel_rfl) (by kernel_rfl) (by kernel_rfl) (fun _ _ _ h => h) (Or.inl ⟨by rfl, ?_⟩) (by assumption) ?_
                  rotate_left
                  · (intro w hSw; (try dsimp only at hSw); first | (go_simp; done) | (go_simp; with_reducible rfl))
                  try simp only [Act.put, List.setIfInBounds_toArray, List.set_cons_zero, List.set_cons_succ, List.getElem_toArray, List.getElem_cons_zero, List.getElem_cons_succ]
                  refine wpAnyH_take (i := 7) (v := ?_) rfl (by kernel_rfl) (by kernel_rfl) (by kernel_rfl) (fun _ _ _ h => h) (Or.inl ⟨by rfl, ?_⟩) (by assumption) ?_
                  rotate_left
                  · (intro w hSw; (try dsimp only at hSw); first | (go_simp; done) | (go_simp; with_reducible rfl))
                  try simp only [Act.put, List.setIfInBounds_toArray, List.set_cons_zero, List.set_cons_succ, List.getElem_toArray, List.getElem_cons_zero, List.getElem_cons_succ]
                  refine wpAnyH_take (i := 8) (v := ?_) rfl (by kernel_rfl) (by kernel_rfl) (by kernel_rfl) (fun _ _ _ h => h) (Or.inl ⟨by rfl, ?_⟩) (by assumption) ?_
                  rotate_left
                  · (intro w hSw; (try dsimp only at hSw); first | (go_simp; done) | (go_simp; with_reducible rfl))
                  try simp only [Act.put, List.setIfInBounds_toArray, List.set_cons_zero, List.set_cons_succ, List.getElem_toArray, List.getElem_cons_zero, List.getElem_cons_succ]
                  refine wpAnyH_take (i := 10) (v := ?_) rfl (by kernel_rfl) (by kernel_rfl) (by kernel_rfl) (fun _ _ _ h => h) (Or.inl ⟨by rfl, ?_⟩) (by assumption) ?_
                  rotate_left
                  · (intro w hSw; (try dsimp only at hSw); first | (go_simp; done) | (go_simp; with_reducible rfl))
                  try simp only [Act.put, List.setIfInBounds_toArray, List.set_cons_zero, List.set_cons_succ, List.getElem_toArray, List.getElem_cons_zero, List.getElem_cons_succ]
                  refine wpAnyH_take (i := 11) (v := ?_) rfl (by kernel_rfl) (by kernel_rfl) (by kernel_rfl) (fun _ _ _ h => h) (Or.inl ⟨by rfl, ?_⟩) (by assumption) ?_
                  rotate_left
                  · (intro w hSw; (try dsimp only at hSw); first | (go_simp; done) | (go_simp; with_reducible rfl))
                  try simp only [Act.put, List.setIfInBounds_toArray, List.set_cons_zero, List.set_cons_succ, List.getElem_toArray, List.getElem_cons_zero, List.getElem_cons_succ]
                  refine wpAnyH_take (i := 12) (v := ?_) rfl (by kernel_rfl) (by kernel_rfl) (by kernel_rfl) (fun _ _ _ h => h) (Or.inl ⟨by rfl, ?_⟩) (by assumption) ?_
                  rotate_left
                  · (intro w hSw; (try dsimp only at hSw); first | (go_simp; done) | (go_simp; with_reducible rfl))
                  try simp only [Act.put, List.setIfInBounds_toArray, List.set_cons_zero, List.set_cons_succ, List.getElem_toArray, List.getElem_cons_zero, List.getElem_cons_succ]
                  refine wpAnyH_ready (rs := [9]) (by kernel_rfl) (by simp) ?_
                  refine AllReadyH.cons rfl (fun K hK => ?_) AllReadyH.nil
                  go_simp
                  refine (HO.out w5.drew).mono ?_; rintro e w6 ⟨rfl, hb6⟩; have HB6 := Lib.hid (((Below.refl _ _).drew).trans hb6 : Below w5.heap.size w5 w6); clear hb6
                  refine hK.out _ _ (KX.out _ HB6.out) (fun hHeld => ?_)
                  clear hK K
                  try simp only [Act.put, List.setIfInBounds_toArray, List.set_cons_zero, List.set_cons_succ, List.getElem_toArray, List.getElem_cons_zero, List.getElem_cons_succ]
                  refine wpAnyH_take (i := 13) (v := .bool false) rfl (by kernel_rfl) (by kernel_rfl) (by kernel_rfl) (fun _ _ _ h => h) (Or.inl ⟨by rfl, ?_⟩) (by assumption) ?_
                  · (intro w hSw; (try dsimp only at hSw); first | (go_simp; done) | (go_simp; omega) | (go_simp; simp [q1, q2]))
                  try simp only [Act.put, List.setIfInBounds_toArray, List.set_cons_zero, List.set_cons_succ, List.getElem_toArray, List.getElem_cons_zero, List.getElem_cons_succ]
                  refine wpAnyH_take (i := 14) (v := ?_) rfl (by kernel_rfl) (by kernel_rfl) (by kernel_rfl) (fun _ _ _ h => h) (Or.inl ⟨by rfl, ?_⟩) (by assumption) ?_
                  rotate_left
                  · (intro w hSw; (try dsimp only at hSw); first | (go_simp; done) | (go_simp; with_reducible rfl))
                  try simp only [Act.put, List.setIfInBounds_toArray, List.set_cons_zero, List.set_cons_succ, List.getElem_toArray, List.getElem_cons_zero, List.getElem_cons_succ]
                  refine wpAnyH_take (i := 15) (v := ?_) rfl (by kernel_rfl) (by kernel_rfl) (by kernel_rfl) (fun _ _ _ h => h) (Or.inl ⟨by rfl, ?_⟩) (by assumption) ?_
                  rotate_left
                  · (intro w hSw; (try dsimp only at hSw); first | (go_simp; done) | (go_simp; with_reducible rfl))
                  try simp only [Act.put, List.setIfInBounds_toArray, List.set_cons_zero, List.set_cons_succ, List.getElem_toArray, List.getElem_cons_zero, List.getElem_cons_succ]
                  refine wpAnyH_done (by kernel_rfl) ?_ _
                  go_wp2_with fail
                  go_roundw
                  case rel => exact ⟨s + 1, by omega, by omega, by go_num, Lib.hid (hP3.out.carry (bel_trans hb5.out HB6.out))⟩
                  case measure => simp [intOf] <;> omega
              · obtain rfl : s = 3 := by omega
                go_wp2_with fail
                go_roundw
                case rel => exact ⟨i + 1, by omega, by go_num, Lib.hid ⟨v1, v2, D, O, hP3.out⟩⟩
                case measure => simp [intOf] <;> omega
          · have g1 : (op == 1) = false := by simpa using h1
            have g2 : (op == 2) = false := by simpa using h2
            have g3 : (op == 3) = false := by simpa using h3
            go_wp2_with (go_at_call 16; refine Hid.out ?_)
            clear d0 d1 d2 d3 d4 d5 d6 d7
            refine Lib.hid ?_
            refine (same_any hP1.out).mono ?_
            rintro _ w2 ⟨rfl, hb2⟩
            have hP2 := Lib.hid (hP1.out.carry hb2)
            clear hb2 hP1 hX1
            go_wp2_with fail
            go_loopw [17] (fun v17 wq => ∃ s : Nat, 1 ≤ s ∧ s ≤ 3 ∧ v17 = .int .i64 s ∧ Hid (PlC w0 B g m v1 v2 D D O wq)) (fun v17 _ => 3 - (intOf v17).toNat)
            case atStart => exact ⟨1, by omega, by omega, rfl, hP2⟩
            case round =>
              clear hP2
              obtain ⟨s, hs1, hs3, rfl, hP3⟩ := hrel
              by_cases hs : s < 3
              · have hsi : (s : Int) = 1 ∨ (s : Int) = 2 := by omega
                have d1 : decide ((s : Int) ≤ 2) = true := by simp; omega
                have HF := Lib.hid (cb_front hP3.out.cb s)
                have HS := Lib.hid (fun w' (hb : Below wr.heap.size wr w') => rside_any (hP3.out.carry hb).rf s)
                have hmost := hP3.out.cb.inv.most
                cases hL : rowD s D with
                | nil =>
                  rw [hL] at HF
                  have HR := Lib.hid (hP3.out.rf.row hsi)
                  rw [hL] at HR
                  obtain ⟨Az, cz, hz⟩ := own_slice HR.out
                  rw [hz] at HS
                  clear HR hz hL hmost
                  dsimp only [List.headD, List.isEmpty, coV, zeroC, List.length] at HF HS
                  go_wp2_with ((first
                    | (go_at_call 17; refine HF.out.mono ?_; rintro e w4 ⟨rfl, hb4⟩; replace hb4 := Lib.hid hb4; dsimp only)
                    | (go_at_call 18; refine (HS.out _ (bel_trans hb4.out (bel_new _ _))).mono ?_; rintro e w5 ⟨rfl, hw5⟩)))
                  have hb5 := Lib.hid (hw5 ▸ bel_trans hb4.out (bel_new w4 _) : Below wr.heap.size wr w5)
                  clear hw5
                  refine wp_region_held_drew (S := (fun _ => True)) (by kernel_rfl) (trivial) (fun hHeld => ?_)
                  refine wpAnyH_take (i := 0) (v := ?_) rfl (by kernel_rfl) (by kernel_rfl) (by kernel_rfl) (fun _ _ _ h => h) (Or.inl ⟨by rfl, ?_⟩) (by assumption) ?_
                  rotate_left
                  · (intro w hSw; (try dsimp only at hSw); first | (go_simp; done) | (go_simp; with_reducible rfl))
                  try simp only [Act.put, List.setIfInBounds_toArray, List.set_cons_zero, List.set_cons_succ, List.getElem_toArray, List.getElem_cons_zero, List.getElem_cons_succ]
                  refine wpAnyH_take (i := 1) (v := ?_) rfl (by kernel_rfl) (by kernel_rfl) (by kernel_rfl) (fun _ _ _ h => h) (Or.inl ⟨by rfl, ?_⟩) (by assumption) ?_
                  rotate_left
                  · (intro w hSw; (try dsimp only at hSw); first | (go_simp; done) | (go_simp; with_reducible rfl))
                  try simp only [Act.put, List.setIfInBounds_toArray, List.set_cons_zero, List.set_cons_succ, List.getElem_toArray, List.getElem_cons_zero, List.getElem_cons_succ]
                  refine wpAnyH_take (i := 2) (v := ?_) rfl (by kernel_rfl) (by kernel_rfl) (by kernel_rfl) (fun _ _ _ h => h) (Or.inl ⟨by rfl, ?_⟩) (by assumption) ?_
                  rotate_left
                  · (intro w hSw; (try dsimp only at hSw); first | (go_simp; done) | (go_simp; with_reducible rfl))
                  try simp only [Act.put, List.setIfInBounds_toArray, List.set_cons_zero, List.set_cons_succ, List.getElem_toArray, List.getElem_cons_zero, List.getElem_cons_succ]
                  refine wpAnyH_take (i := 3) (v := .bool false) rfl (by kernel_rfl) (by kernel_rfl) (by kernel_rfl) (fun _ _ _ h => h) (Or.inl ⟨by rfl, ?_⟩) (by assumption) ?_
                  · (intro w hSw; (try dsimp only at hSw); first | (go_simp; done) | (go_simp; omega) | (go_simp; trivial))
                  try simp only [Act.put, List.setIfInBounds_toArray, List.set_cons_zero, List.set_cons_succ, List.getElem_toArray, List.getElem_cons_zero, List.getElem_cons_succ]
                  refine wpAnyH_take (i := 4) (v := .bool false) rfl (by kernel_rfl) (by kernel_rfl) (by kernel_rfl) (fun _ _ _ h => h) (Or.inl ⟨by rfl, ?_⟩) (by assumption) ?_
                  · (intro w hSw; (try dsimp only at hSw); first | (go_simp; done) | (go_simp; omega) | (go_simp; trivial))
                  try simp only [Act.put, List.setIfInBounds_toArray, List.set_cons_zero, List.set_cons_succ, List.getElem_toArray, List.getElem_cons_zero, List.getElem_cons_succ]
                  refine wpAnyH_take (i := 5) (v := ?_) rfl (by kernel_rfl) (by kernel_rfl) (by kernel_rfl) (fun _ _ _ h => h) (Or.inl ⟨by rfl, ?_⟩) (by assumption) ?_
                  rotate_left
                  · (intro w hSw; (try dsimp only at hSw); first | (go_simp; done) | (go_simp; with_reducible rfl))
                  try simp only [Act.put, List.setIfInBounds_toArray, List.set_cons_zero, List.set_cons_succ, List.getElem_toArray, List.getElem_cons_zero, List.getElem_cons_succ]
                  refine wpAnyH_take (i := 6) (v := ?_) rfl (by kernel_rfl) (by kernel_rfl) (by kernel_rfl) (fun _ _ _ h => h) (Or.inl ⟨by rfl, ?_⟩) (by assumption) ?_
                  rotate_left
                  · (intro w hSw; (try dsimp only at hSw); first | (go_simp; done) | (go_simp; with_reducible rfl))
                  try simp only [Act.put, List.setIfInBounds_toArray, List.set_cons_zero, List.set_cons_succ, List.getElem_toArray, List.getElem_cons_zero, List.getElem_cons_succ]
                  refine wpAnyH_take (i := 7) (v := ?_) rfl (by kernel_rfl) (by kernel_rfl) (by kernel_rfl) (fun _ _ _ h => h) (Or.inl ⟨by rfl, ?_⟩) (by assumption) ?_
                  rotate_left
                  · (intro w hSw; (try dsimp only at hSw); first | (go_simp; done) | (go_simp; with_reducible rfl))
                  try simp only [Act.put, List.setIfInBounds_toArray, List.set_cons_zero, List.set_cons_succ, List.getElem_toArray, List.getElem_cons_zero, List.getElem_cons_succ]
                  refine wpAnyH_take (i := 8) (v := undef) rfl (by kernel_rfl) (by kernel_rfl) (by kernel_rfl) (fun _ _ _ h => h) (Or.inr ⟨by rfl, rfl⟩) (by assumption) ?_
                  try simp only [Act.put, List.setIfInBounds_toArray, List.set_cons_zero, List.set_cons_succ, List.getElem_toArray, List.getElem_cons_zero, List.getElem_cons_succ]
                  refine wpAnyH_take (i := 9) (v := undef) rfl (by kernel_rfl) (by kernel_rfl) (by kernel_rfl) (fun _ _ _ h => h) (Or.inr ⟨by rfl, rfl⟩) (by assumption) ?_
                  try simp only [Act.put, List.setIfInBounds_toArray, List.set_cons_zero, List.set_cons_succ, List.getElem_toArray, List.getElem_cons_zero, List.getElem_cons_succ]
                  refine wpAnyH_take (i := 10) (v := undef) rfl (by kernel_rfl) (by kernel_rfl) (by kernel_rfl) (fun _ _ _ h => h) (Or.inr ⟨by rfl, rfl⟩) (by assumption) ?_
                  try simp only [Act.put, List.setIfInBounds_toArray, List.set_cons_zero, List.set_cons_succ, List.getElem_toArray, List.getElem_cons_zero, List.getElem_cons_succ]
                  refine wpAnyH_take (i := 11) (v := undef) rfl (by kernel_rfl) (by kernel_rfl) (by kernel_rfl) (fun _ _ _ h => h) (Or.inr ⟨by rfl, rfl⟩) (by assumption) ?_
                  try simp only [Act.put, List.setIfInBounds_toArray, List.set_cons_zero, List.set_cons_succ, List.getElem_toArray, List.getElem_cons_zero, List.getElem_cons_succ]
                  refine wpAnyH_take (i := 12) (v := undef) rfl (by kernel_rfl) (by kernel_rfl) (by kernel_rfl) (fun _ _ _ h => h) (Or.inr ⟨by rfl, rfl⟩) (by assumption) ?_
                  try simp only [Act.put, List.setIfInBounds_toArray, List.set_cons_zero, List.set_cons_succ, List.getElem_toArray, List.getElem_cons_zero, List.getElem_cons_succ]
                  refine wpAnyH_take (i := 13) (v := undef) rfl (by kernel_rfl) (by kernel_rfl) (by kernel_rfl) (fun _ _ _ h => h) (Or.inr ⟨by rfl, rfl⟩) (by assumption) ?_
                  try simp only [Act.put, List.setIfInBounds_toArray, List.set_cons_zero, List.set_cons_succ, List.getElem_toArray, List.getElem_cons_zero, List.getElem_cons_succ]
                  refine wpAnyH_take (i := 14) (v := ?_) rfl (by kernel_rfl) (by kernel_rfl) (by kernel_rfl) (fun _ _ _ h => h) (Or.inl ⟨by rfl, ?_⟩) (by assumption) ?_
                  rotate_left
                  · (intro w hSw; (try dsimp only at hSw); first | (go_simp; done) | (go_simp; with_reducible rfl))
                  try simp only [Act.put, List.setIfInBounds_toArray, List.set_cons_zero, List.set_cons_succ, List.getElem_toArray, List.getElem_cons_zero, List.getElem_cons_succ]
                  refine wpAnyH_take (i := 15) (v := ?_) rfl (by kernel_rfl) (by kernel_rfl) (by kernel_rfl) (fun _ _ _ h => h) (Or.inl ⟨by rfl, ?_⟩) (by assumption) ?_
                  rotate_left
                  · (intro w hSw; (try dsimp only at hSw); first | (go_simp; done) | (go_simp; with_reducible rfl))
                  try simp only [Act.put, List.setIfInBounds_toArray, List.set_cons_zero, List.set_cons_succ, List.getElem_toArray, List.getElem_cons_zero, List.getElem_cons_succ]
                  refine wpAnyH_done (by kernel_rfl) ?_ _
                  go_wp2_with fail
                  go_roundw
                  case rel => exact ⟨s + 1, by omega, by omega, by go_num, Lib.hid (hP3.out.carry (hb5.out).drew)⟩
                  case measure => simp [intOf] <;> omega
                | cons o L =>
                  rw [hL] at HF
                  have hr := hP3.out.rf.row hsi
                  rw [hL] at hr
                  obtain ⟨b2, c2, hz, _, hb2l, _, hcl, k0, k1, k2, k3, k4, _⟩ := co_cells hr (k := 0) rfl
                  rw [hz] at HS
                  have hlen : L.length + 1 ≤ 256 := by
                    have : (rowD s D).length ≤ 256 := by rcases hsi with e | e <;> rw [e] <;> simp [rowD] <;> omega
                    rw [hL] at this
                    exact this
                  simp only [Nat.zero_mul, Nat.zero_add] at k0 k1 k2 k3 k4
                  have HO := Lib.hid (of_any o)
                  have q1 := neqC o
                  have q2 := neqC_guard o o
                  obtain ⟨xi, xo, xs, xn, xu⟩ := o
                  dsimp only [List.headD, List.isEmpty, coV, List.length, List.headD_cons, List.isEmpty_cons, List.length_cons] at HF HS HO q1 q2 k0 k1 k2 k3 k4 hcl
                  obtain ⟨z, hzl⟩ : ∃ z, L.length + 1 = z := ⟨_, rfl⟩
                  rw [hzl] at HS hlen hcl
                  have hz0 : 0 < z := by omega
                  have i3 : (0 : Int) < (z : Int) := by omega
                  clear hr hz hL hmost hzl
                  go_wp2_with ((first
                    | (go_at_call 17; refine HF.out.mono ?_; rintro e w4 ⟨rfl, hb4⟩; replace hb4 := Lib.hid hb4; dsimp only)
                    | (go_at_call 18; refine (HS.out _ (bel_trans hb4.out (bel_new _ _))).mono ?_; rintro e w5 ⟨rfl, hw5⟩)))
                  have hb5 := bel_trans hb4.out (bel_new w4 (.cells #[.int .i64 xi, .int .i64 xo, .int .i64 xs, .int .i64 xn, .int .i64 xu] 31))
                  have hx5 := Box.fresh w4 31 #[.int .i64 xi, .int .i64 xo, .int .i64 xs, .int .i64 xn, .int .i64 xu] rfl
                  rw [hw5] at hb5 hx5
                  have KX : Hid (∀ w', Below w5.heap.size w5 w' → World.cell? w' ⟨w4.heap.size, 0, Option.none⟩ = some (.int .i64 xi) ∧ World.cell? w' ⟨w4.heap.size, 1, Option.none⟩ = some (.int .i64 xo) ∧ World.cell? w' ⟨w4.heap.size, 2, Option.none⟩ = some (.int .i64 xs) ∧ World.cell? w' ⟨w4.heap.size, 3, Option.none⟩ = some (.int .i64 xn) ∧ World.cell? w' ⟨w4.heap.size, 4, Option.none⟩ = some (.int .i64 xu) ∧ World.cell? w' ⟨b2, 0, Option.none⟩ = some (.int .i64 xi) ∧ World.cell? w' ⟨b2, 1, Option.none⟩ = some (.int .i64 xo) ∧ World.cell? w' ⟨b2, 2, Option.none⟩ = some (.int .i64 xs) ∧ World.cell? w' ⟨b2, 3, Option.none⟩ = some (.int .i64 xn) ∧ World.cell? w' ⟨b2, 4, Option.none⟩ = some (.int .i64 xu)) := Lib.hid (fun w' hb => by
                    have h1 := hx5.kept_below hb hx5.there
                    have h2 := bel_trans hb5 hb
                    exact ⟨h1.reads 0, h1.reads 1, h1.reads 2, h1.reads 3, h1.reads 4, (h2.cell (p := ⟨b2, 0, Option.none⟩) hb2l).trans k0, (h2.cell (p := ⟨b2, 1, Option.none⟩) hb2l).trans k1, (h2.cell (p := ⟨b2, 2, Option.none⟩) hb2l).trans k2, (h2.cell (p := ⟨b2, 3, Option.none⟩) hb2l).trans k3, (h2.cell (p := ⟨b2, 4, Option.none⟩) hb2l).trans k4⟩)
                  replace hb5 := Lib.hid hb5
                  clear hx5 hw5 k0 k1 k2 k3 k4 HF HS
                  obtain ⟨X4, hX4⟩ : ∃ X4, w4.heap.size = X4 := ⟨_, rfl⟩
                  rw [hX4] at KX ⊢
                  clear hX4
                  refine wp_region_held_drew (S := (fun w' => World.cell? w' ⟨X4, 0, Option.none⟩ = some (.int .i64 xi) ∧ World.cell? w' ⟨X4, 1, Option.none⟩ = some (.int .i64 xo) ∧ World.cell? w' ⟨X4, 2, Option.none⟩ = some (.int .i64 xs) ∧ World.cell? w' ⟨X4, 3, Option.none⟩ = some (.int .i64 xn) ∧ World.cell? w' ⟨X4, 4, Option.none⟩ = some (.int .i64 xu) ∧ World.cell? w' ⟨b2, 0, Option.none⟩ = some (.int .i64 xi) ∧ World.cell? w' ⟨b2, 1, Option.none⟩ = some (.int .i64 xo) ∧ World.cell? w' ⟨b2, 2, Option.none⟩ = some (.int .i64 xs) ∧ World.cell? w' ⟨b2, 3, Option.none⟩ = some (.int .i64 xn) ∧ World.cell? w' ⟨b2, 4, Option.none⟩ = some (.int .i64 xu))) (by kernel_rfl) (KX.out _ (Below.refl _ _).drew) (fun hHeld => ?_)
                  refine wpAnyH_take (i := 0) (v := ?_) rfl (by kernel_rfl) (by kernel_rfl) (by kernel_rfl) (fun _ _ _ h => h) (Or.inl ⟨by rfl, ?_⟩) (by assumption) ?_
                  rotate_left
                  · (intro w hSw; (try dsimp only at hSw); first | (go_simp; done) | (go_simp; with_reducible rfl))
                  try simp only [Act.put, List.setIfInBounds_toArray, List.set_cons_zero, List.set_cons_succ, List.getElem_toArray, List.getElem_cons_zero, List.getElem_cons_succ]
                  refine wpAnyH_take (i := 1) (v := ?_) rfl (by kernel_rfl) (by kernel_rfl) (by kernel_rfl) (fun _ _ _ h => h) (Or.inl ⟨by rfl, ?_⟩) (by assumption) ?_
                  rotate_left
                  · (intro w hSw; (try dsimp only at hSw); first | (go_simp; done) | (go_simp; with_reducible rfl))
                  try simp only [Act.put, List.setIfInBounds_toArray, List.set_cons_zero, List.set_cons_succ, List.getElem_toArray, List.getElem_cons_zero, List.getElem_cons_succ]
                  refine wpAnyH_take (i := 2) (v := ?_) rfl (by kernel_rfl) (by kernel_rfl) (by kernel_rfl) (fun _ _ _ h => h) (Or.inl ⟨by rfl, ?_⟩) (by assumption) ?_
                  rotate_left
                  · (intro w hSw; (try dsimp only at hSw); first | (go_simp; done) | (go_simp; with_reducible rfl))
                  try simp only [Act.put, List.setIfInBounds_toArray, List.set_cons_zero, List.set_cons_succ, List.getElem_toArray, List.getElem_cons_zero, List.getElem_cons_succ]
                  refine wpAnyH_take (i := 3) (v := .bool true) rfl (by kernel_rfl) (by kernel_rfl) (by kernel_rfl) (fun _ _ _ h => h) (Or.inl ⟨by rfl, ?_⟩) (by assumption) ?_
                  · (intro w hSw; (try dsimp only at hSw); first | (go_simp; done) | (go_simp; omega) | (go_simp; omega))
                  try simp only [Act.put, List.setIfInBounds_toArray, List.set_cons_zero, List.set_cons_succ, List.getElem_toArray, List.getElem_cons_zero, List.getElem_cons_succ]
                  refine wpAnyH_take (i := 4) (v := .bool false) rfl (by kernel_rfl) (by kernel_rfl) (by kernel_rfl) (fun _ _ _ h => h) (Or.inl ⟨by rfl, ?_⟩) (by assumption) ?_
                  · (intro w hSw; (try dsimp only at hSw); first | (go_simp; done) | (go_simp; omega) | (go_simp; trivial))
                  try simp only [Act.put, List.setIfInBounds_toArray, List.set_cons_zero, List.set_cons_succ, List.getElem_toArray, List.getElem_cons_zero, List.getElem_cons_succ]
                  refine wpAnyH_take (i := 5) (v := ?_) rfl (by kernel_rfl) (by kernel_rfl) (by kernel_rfl) (fun _ _ _ h => h) (Or.inl ⟨by rfl, ?_⟩) (by assumption) ?_
                  rotate_left
                  · (intro w hSw; (try dsimp only at hSw); first | (go_simp; done) | (go_simp; with_reducible rfl))
                  try simp only [Act.put, List.setIfInBounds_toArray, List.set_cons_zero, List.set_cons_succ, List.getElem_toArray, List.getElem_cons_zero, List.getElem_cons_succ]
                  refine wpAnyH_take (i := 6) (v := ?_) rfl (by kernel_rfl) (by kernel_rfl) (by kernel_rfl) (fun _ _ _ h => h) (Or.inl ⟨by rfl, ?_⟩) (by assumption) ?_
                  rotate_left
                  · (intro w hSw; (try dsimp only at hSw); first | (go_simp; done) | (go_simp; with_reducible rfl))
                  try simp only [Act.put, List.setIfInBounds_toArray, List.set_cons_zero, List.set_cons_succ, List.getElem_toArray, List.getElem_cons_zero, List.getElem_cons_succ]
                  refine wpAnyH_take (i := 7) (v := ?_) rfl (by kernel_rfl) (by kernel_rfl) (by kernel_rfl) (fun _ _ _ h => h) (Or.inl ⟨by rfl, ?_⟩) (by assumption) ?_
                  rotate_left
                  · (intro w hSw; (try dsimp only at hSw); first | (go_simp; done) | (go_simp; with_reducible rfl))
                  try simp only [Act.put, List.setIfInBounds_toArray, List.set_cons_zero, List.set_cons_succ, List.getElem_toArray, List.getElem_cons_zero, List.getElem_cons_succ]
                  refine wpAnyH_take (i := 8) (v := ?_) rfl (by kernel_rfl) (by kernel_rfl) (by kernel_rfl) (fun _ _ _ h => h) (Or.inl ⟨by rfl, ?_⟩) (by assumption) ?_
                  rotate_left
                  · (intro w hSw; (try dsimp only at hSw); first | (go_simp; done) | (go_simp; with_reducible rfl))
                  try simp only [Act.put, List.setIfInBounds_toArray, List.set_cons_zero, List.set_cons_succ, List.getElem_toArray, List.getElem_cons_zero, List.getElem_cons_succ]
                  refine wpAnyH_take (i := 10) (v := ?_) rfl (by kernel_rfl) (by kernel_rfl) (by kernel_rfl) (fun _ _ _ h => h) (Or.inl ⟨by rfl, ?_⟩) (by assumption) ?_
                  rotate_left
                  · (intro w hSw; (try dsimp only at hSw); first | (go_simp; done) | (go_simp; with_reducible rfl))
                  try simp only [Act.put, List.setIfInBounds_toArray, List.set_cons_zero, List.set_cons_succ, List.getElem_toArray, List.getElem_cons_zero, List.getElem_cons_succ]
                  refine wpAnyH_take (i := 11) (v := ?_) rfl (by kernel_rfl) (by kernel_rfl) (by kernel_rfl) (fun _ _ _ h => h) (Or.inl ⟨by rfl, ?_⟩) (by assumption) ?_
                  rotate_left
                  · (intro w hSw; (try dsimp only at hSw); first | (go_simp; done) | (go_simp; with_reducible rfl))
                  try simp only [Act.put, List.setIfInBounds_toArray, List.set_cons_zero, List.set_cons_succ, List.getElem_toArray, List.getElem_cons_zero, List.getElem_cons_succ]
                  refine wpAnyH_take (i := 12) (v := ?_) rfl (by kernel_rfl) (by kernel_rfl) (by kernel_rfl) (fun _ _ _ h => h) (Or.inl ⟨by rfl, ?_⟩) (by assumption) ?_
                  rotate_left
                  · (intro w hSw; (try dsimp only at hSw); first | (go_simp; done) | (go_simp; with_reducible rfl))
                  try simp only [Act.put, List.setIfInBounds_toArray, List.set_cons_zero, List.set_cons_succ, List.getElem_toArray, List.getElem_cons_zero, List.getElem_cons_succ]
                  refine wpAnyH_ready (rs := [9]) (by kernel_rfl) (by simp) ?_
                  refine AllReadyH.cons rfl (fun K hK => ?_) AllReadyH.nil
                  go_simp
                  refine (HO.out w5.drew).mono ?_; rintro e w6 ⟨rfl, hb6⟩; have HB6 := Lib.hid (((Below.refl _ _).drew).trans hb6 : Below w5.heap.size w5 w6); clear hb6
                  refine hK.out _ _ (KX.out _ HB6.out) (fun hHeld => ?_)
                  clear hK K
                  try simp only [Act.put, List.setIfInBounds_toArray, List.set_cons_zero, List.set_cons_succ, List.getElem_toArray, List.getElem_cons_zero, List.getElem_cons_succ]
                  refine wpAnyH_take (i := 13) (v := .bool false) rfl (by kernel_rfl) (by kernel_rfl) (by kernel_rfl) (fun _ _ _ h => h) (Or.inl ⟨by rfl, ?_⟩) (by assumption) ?_
                  · (intro w hSw; (try dsimp only at hSw); first | (go_simp; done) | (go_simp; omega) | (go_simp; simp [q1, q2]))
                  try simp only [Act.put, List.setIfInBounds_toArray, List.set_cons_zero, List.set_cons_succ, List.getElem_toArray, List.getElem_cons_zero, List.getElem_cons_succ]
                  refine wpAnyH_take (i := 14) (v := ?_) rfl (by kernel_rfl) (by kernel_rfl) (by kernel_rfl) (fun _ _ _ h => h) (Or.inl ⟨by rfl, ?_⟩) (by assumption) ?_
                  rotate_left
                  · (intro w hSw; (try dsimp only at hSw); first | (go_simp; done) | (go_simp; with_reducible rfl))
                  try simp only [Act.put, List.setIfInBounds_toArray, List.set_cons_zero, List.set_cons_succ, List.getElem_toArray, List.getElem_cons_zero, List.getElem_cons_succ]
                  refine wpAnyH_take (i := 15) (v := ?_) rfl (by kernel_rfl) (by kernel_rfl) (by kernel_rfl) (fun _ _ _ h => h) (Or.inl ⟨by rfl, ?_⟩) (by assumption) ?_
                  rotate_left
                  · (intro w hSw; (try dsimp only at hSw); first | (go_simp; done) | (go_simp; with_reducible rfl))
                  try simp only [Act.put, List.setIfInBounds_toArray, List.set_cons_zero, List.set_cons_succ, List.getElem_toArray, List.getElem_cons_zero, List.getElem_cons_succ]
                  refine wpAnyH_done (by kernel_rfl) ?_ _
                  go_wp2_with fail
                  go_roundw
                  case rel => exact ⟨s + 1, by omega, by omega, by go_num, Lib.hid (hP3.out.carry (bel_trans hb5.out HB6.out))⟩
                  case measure => simp [intOf] <;> omega
              · obtain rfl : s = 3 := by omega
                go_wp2_with fail
                go_roundw
                case rel => exact ⟨i + 1, by omega, by go_num, Lib.hid ⟨v1, v2, D, O, hP3.out⟩⟩
                case measure => simp [intOf] <;> omega
    · skip
      obtain rfl : i = n := by omega
      obtain ⟨v1, v2, D, O, hP⟩ := hJ.out
      have hP1 := Lib.hid hP
      have HG := Lib.hid (cb_get hP.cb id)
      rw [rem_get] at HG
      have HB : Hid (∀ w', Below wr.heap.size wr w' → Below w.heap.size w w') := Lib.hid (fun w' hb => hb0.out.trans ((hP1.out.carry hb).bel.mono HW0.out))
      have HR := Lib.hid (fun w' (hb : Below wr.heap.size wr w') => rget_any (hP1.out.carry hb).rf hP1.out.cb.inv.most id)
      rw [getV_eq] at HR
      obtain ⟨⟨xi, xo, xs, xn, xu⟩, hx⟩ : ∃ x, orderG D id = x := ⟨_, rfl⟩
      obtain ⟨P, hPl⟩ : ∃ P, placeG D id = P := ⟨_, rfl⟩
      rw [hx, hPl] at HG HR
      unfold coV at HG HR
      dsimp only at HG HR
      clear hP hJ hx hPl
      go_wp2_with ((first
        | (go_at_call 19; refine HG.out.mono ?_; rintro e w4 ⟨rfl, hb4⟩; have HB4 := Lib.hid hb4; clear hb4)
        | (go_at_call 20; refine (HR.out _ (bel_trans HB4.out (bel_new _ _))).mono ?_; rintro e w5 ⟨rfl, hb5⟩; have hx5 := (Box.fresh w4 31 #[.int .i64 xi, .int .i64 xo, .int .i64 xs, .int .i64 xn, .int .i64 xu] rfl).kept_below hb5 (by simp); have HB5 := Lib.hid (bel_trans (bel_trans HB4.out (bel_new _ _)) hb5); have HX5 := Lib.hid hx5; clear hb5 hx5)))
      have HO := Lib.hid (of_any ⟨xi, xo, xs, xn, xu⟩)
      have q1 := eqlC ⟨xi, xo, xs, xn, xu⟩
      have q2 := eqlC_guard ⟨xi, xo, xs, xn, xu⟩ ⟨xi, xo, xs, xn, xu⟩
      unfold coV at HO q1 q2
      dsimp only at HO q1 q2
      obtain ⟨X3, hX3⟩ : ∃ X3, w4.heap.size = X3 := ⟨_, rfl⟩
      rw [hX3] at HX5 ⊢
      obtain ⟨W6, hW6⟩ : ∃ W6, w5.alloc (.cells #[.int .i64 xi, .int .i64 xo, .int .i64 xs, .int .i64 xn, .int .i64 xu] 37) = W6 := ⟨_, rfl⟩
      have hb6 := bel_new w5 (.cells #[.int .i64 xi, .int .i64 xo, .int .i64 xs, .int .i64 xn, .int .i64 xu] 37)
      have hy6 := Box.fresh w5 37 #[.int .i64 xi, .int .i64 xo, .int .i64 xs, .int .i64 xn, .int .i64 xu] rfl
      rw [hW6] at hb6 hy6 ⊢
      have hx6 := HX5.out.kept_below hb6 HX5.out.there
      obtain ⟨Y5, hY5⟩ : ∃ Y5, w5.heap.size = Y5 := ⟨_, rfl⟩
      rw [hY5] at hy6 ⊢
      have HB6 := Lib.hid (bel_trans HB5.out hb6)
      have KX : Hid (∀ w', Below W6.heap.size W6 w' → World.cell? w' ⟨X3, 0, Option.none⟩ = some (.int .i64 xi) ∧ World.cell? w' ⟨X3, 1, Option.none⟩ = some (.int .i64 xo) ∧ World.cell? w' ⟨X3, 2, Option.none⟩ = some (.int .i64 xs) ∧ World.cell? w' ⟨X3, 3, Option.none⟩ = some (.int .i64 xn) ∧ World.cell? w' ⟨X3, 4, Option.none⟩ = some (.int .i64 xu) ∧ World.cell? w' ⟨Y5, 0, Option.none⟩ = some (.int .i64 xi) ∧ World.cell? w' ⟨Y5, 1, Option.none⟩ = some (.int .i64 xo) ∧ World.cell? w' ⟨Y5, 2, Option.none⟩ = some (.int .i64 xs) ∧ World.cell? w' ⟨Y5, 3, Option.none⟩ = some (.int .i64 xn) ∧ World.cell? w' ⟨Y5, 4, Option.none⟩ = some (.int .i64 xu)) := Lib.hid (fun w' hb => by
        have h1 := hx6.kept_below hb hx6.there
        have h2 := hy6.kept_below hb hy6.there
        exact ⟨h1.reads 0, h1.reads 1, h1.reads 2, h1.reads 3, h1.reads 4, h2.reads 0, h2.reads 1, h2.reads 2, h2.reads 3, h2.reads 4⟩)
      clear hb6 hy6 hx6 hW6 hY5 hX3 HX5 HB4 HB5 HG HR
      refine wp_region_held_drew (S := (fun w' => World.cell? w' ⟨X3, 0, Option.none⟩ = some (.int .i64 xi) ∧ World.cell? w' ⟨X3, 1, Option.none⟩ = some (.int .i64 xo) ∧ World.cell? w' ⟨X3, 2, Option.none⟩ = some (.int .i64 xs) ∧ World.cell? w' ⟨X3, 3, Option.none⟩ = some (.int .i64 xn) ∧ World.cell? w' ⟨X3, 4, Option.none⟩ = some (.int .i64 xu) ∧ World.cell? w' ⟨Y5, 0, Option.none⟩ = some (.int .i64 xi) ∧ World.cell? w' ⟨Y5, 1, Option.none⟩ = some (.int .i64 xo) ∧ World.cell? w' ⟨Y5, 2, Option.none⟩ = some (.int .i64 xs) ∧ World.cell? w' ⟨Y5, 3, Option.none⟩ = some (.int .i64 xn) ∧ World.cell? w' ⟨Y5, 4, Option.none⟩ = some (.int .i64 xu))) (by kernel_rfl) (KX.out _ (Below.refl _ _).drew) (fun hHeld => ?_)
      refine wpAnyH_take (i := 0) (v := ?_) rfl (by kernel_rfl) (by kernel_rfl) (by kernel_rfl) (fun _ _ _ h => h) (Or.inl ⟨by rfl, ?_⟩) (by assumption) ?_
      rotate_left
      · (intro w hSw; (try dsimp only at hSw); first | (go_simp; done) | (go_simp; with_reducible rfl))
      try simp only [Act.put, List.setIfInBounds_toArray, List.set_cons_zero, List.set_cons_succ, List.getElem_toArray, List.getElem_cons_zero, List.getElem_cons_succ]
      refine wpAnyH_take (i := 1) (v := ?_) rfl (by kernel_rfl) (by kernel_rfl) (by kernel_rfl) (fun _ _ _ h => h) (Or.inl ⟨by rfl, ?_⟩) (by assumption) ?_
      rotate_left
      · (intro w hSw; (try dsimp only at hSw); first | (go_simp; done) | (go_simp; with_reducible rfl))
      try simp only [Act.put, List.setIfInBounds_toArray, List.set_cons_zero, List.set_cons_succ, List.getElem_toArray, List.getElem_cons_zero, List.getElem_cons_succ]
      refine wpAnyH_take (i := 2) (v := .bool (decide (0 ≤ P))) rfl (by kernel_rfl) (by kernel_rfl) (by kernel_rfl) (fun _ _ _ h => h) (Or.inl ⟨by rfl, ?_⟩) (by assumption) ?_
      · (intro w hSw; (try dsimp only at hSw); first | (go_simp; done) | (go_simp; omega) | (go_simp; rfl))
      try simp only [Act.put, List.setIfInBounds_toArray, List.set_cons_zero, List.set_cons_succ, List.getElem_toArray, List.getElem_cons_zero, List.getElem_cons_succ]
      refine wpAnyH_take (i := 3) (v := .bool true) rfl (by kernel_rfl) (by kernel_rfl) (by kernel_rfl) (fun _ _ _ h => h) (Or.inl ⟨by rfl, ?_⟩) (by assumption) ?_
      · (intro w hSw; (try dsimp only at hSw); first | (go_simp; done) | (go_simp; omega) | (go_simp; simp))
      try simp only [Act.put, List.setIfInBounds_toArray, List.set_cons_zero, List.set_cons_succ, List.getElem_toArray, List.getElem_cons_zero, List.getElem_cons_succ]
      refine wpAnyH_take (i := 4) (v := ?_) rfl (by kernel_rfl) (by kernel_rfl) (by kernel_rfl) (fun _ _ _ h => h) (Or.inl ⟨by rfl, ?_⟩) (by assumption) ?_
      rotate_left
      · (intro w hSw; (try dsimp only at hSw); first | (go_simp; done) | (go_simp; with_reducible rfl))
      try simp only [Act.put, List.setIfInBounds_toArray, List.set_cons_zero, List.set_cons_succ, List.getElem_toArray, List.getElem_cons_zero, List.getElem_cons_succ]
      refine wpAnyH_take (i := 5) (v := ?_) rfl (by kernel_rfl) (by kernel_rfl) (by kernel_rfl) (fun _ _ _ h => h) (Or.inl ⟨by rfl, ?_⟩) (by assumption) ?_
      rotate_left
      · (intro w hSw; (try dsimp only at hSw); first | (go_simp; done) | (go_simp; with_reducible rfl))
      try simp only [Act.put, List.setIfInBounds_toArray, List.set_cons_zero, List.set_cons_succ, List.getElem_toArray, List.getElem_cons_zero, List.getElem_cons_succ]
      refine wpAnyH_take (i := 7) (v := ?_) rfl (by kernel_rfl) (by kernel_rfl) (by kernel_rfl) (fun _ _ _ h => h) (Or.inl ⟨by rfl, ?_⟩) (by assumption) ?_
      rotate_left
      · (intro w hSw; (try dsimp only at hSw); first | (go_simp; done) | (go_simp; with_reducible rfl))
      try simp only [Act.put, List.setIfInBounds_toArray, List.set_cons_zero, List.set_cons_succ, List.getElem_toArray, List.getElem_cons_zero, List.getElem_cons_succ]
      refine wpAnyH_ready (rs := [6]) (by kernel_rfl) (by simp) ?_
      refine AllReadyH.cons rfl (fun K hK => ?_) AllReadyH.nil
      go_simp
      refine (HO.out W6.drew).mono ?_; rintro e w7 ⟨rfl, hb7⟩; have HB7 := Lib.hid (((Below.refl _ _).drew).trans hb7 : Below W6.heap.size W6 w7); clear hb7
      refine hK.out _ _ (KX.out _ HB7.out) (fun hHeld => ?_)
      clear hK K
      try simp only [Act.put, List.setIfInBounds_toArray, List.set_cons_zero, List.set_cons_succ, List.getElem_toArray, List.getElem_cons_zero, List.getElem_cons_succ]
      refine wpAnyH_take (i := 8) (v := .bool true) rfl (by kernel_rfl) (by kernel_rfl) (by kernel_rfl) (fun _ _ _ h => h) (Or.inl ⟨by rfl, ?_⟩) (by assumption) ?_
      · (intro w hSw; (try dsimp only at hSw); first | (go_simp; done) | (go_simp; omega) | (go_simp; simp [q1, q2]))
      try simp only [Act.put, List.setIfInBounds_toArray, List.set_cons_zero, List.set_cons_succ, List.getElem_toArray, List.getElem_cons_zero, List.getElem_cons_succ]
      refine wpAnyH_take (i := 9) (v := ?_) rfl (by kernel_rfl) (by kernel_rfl) (by kernel_rfl) (fun _ _ _ h => h) (Or.inl ⟨by rfl, ?_⟩) (by assumption) ?_
      rotate_left
      · (intro w hSw; (try dsimp only at hSw); first | (go_simp; done) | (go_simp; with_reducible rfl))
      try simp only [Act.put, List.setIfInBounds_toArray, List.set_cons_zero, List.set_cons_succ, List.getElem_toArray, List.getElem_cons_zero, List.getElem_cons_succ]
      refine wpAnyH_take (i := 10) (v := ?_) rfl (by kernel_rfl) (by kernel_rfl) (by kernel_rfl) (fun _ _ _ h => h) (Or.inl ⟨by rfl, ?_⟩) (by assumption) ?_
      rotate_left
      · (intro w hSw; (try dsimp only at hSw); first | (go_simp; done) | (go_simp; with_reducible rfl))
      try simp only [Act.put, List.setIfInBounds_toArray, List.set_cons_zero, List.set_cons_succ, List.getElem_toArray, List.getElem_cons_zero, List.getElem_cons_succ]
      refine wpAnyH_done (by kernel_rfl) ?_ _
      go_wp2_with fail
      go_ret
      exact ⟨rfl, HB.out _ (bel_trans HB6.out HB7.out)⟩
end Go.Proofs.Ytekppjigckjgiaa
