/- give, where the desk has no maps yet. -/
import Derived.Test.YtkcgklaoefbglaaGreatDoorQuoGiv
set_option linter.unusedSimpArgs false
namespace Go.Proofs.YtkcgklaoefbglaaGreatDoor
open Go.RowKit Go.Mem1 Go.MapRow Go.QuoMath

/-- Two maps made, and set in the desk. -/
theorem newMaps {w : World} {B g : Nat} (h : DeskAt w B g none [] []) :
    DeskAt ((((w.setCell ⟨g, 0, none⟩ (.map (some w.heap.size))).setCell ⟨g, 1, none⟩ (.map (some (w.heap.size + 1)))).alloc (.map #[] 0)).alloc (.map #[] 0)) B g (some (w.heap.size, w.heap.size + 1)) [] [] ∧
    Chg (Own g none) w ((((w.setCell ⟨g, 0, none⟩ (.map (some w.heap.size))).setCell ⟨g, 1, none⟩ (.map (some (w.heap.size + 1)))).alloc (.map #[] 0)).alloc (.map #[] 0)) := by
  have hx := (h.box.wrote 0 (.map (some w.heap.size))).wrote 1 (.map (some (w.heap.size + 1)))
  have hc : Chg (fun j => j = g) w ((w.setCell ⟨g, 0, none⟩ (.map (some w.heap.size))).setCell ⟨g, 1, none⟩ (.map (some (w.heap.size + 1)))) :=
    Chg.setCell (S := fun j => j = g) (Chg.setCell (S := fun j => j = g) (Chg.refl _ _) (p := ⟨g, 0, none⟩) (fun _ => rfl) _) (p := ⟨g, 1, none⟩) (fun _ => rfl) _
  have hs : ((w.setCell ⟨g, 0, none⟩ (.map (some w.heap.size))).setCell ⟨g, 1, none⟩ (.map (some (w.heap.size + 1)))).heap.size = w.heap.size := by simp [World.setCell]
  have hlt := h.there
  generalize (w.setCell ⟨g, 0, none⟩ (.map (some w.heap.size))).setCell ⟨g, 1, none⟩ (.map (some (w.heap.size + 1))) = W at hx hc hs ⊢
  have hb : Below W.heap.size W ((W.alloc (.map #[] 0)).alloc (.map #[] 0)) := bel_alloc (bel_new _ _) _
  have m1 : MapIs Tryz.prog 47 slV prV (W.alloc (.map #[] 0)) w.heap.size [] := MapIs.made W _ _ _ _ hs.symm
  have m2 : MapIs Tryz.prog 2 idV slV ((W.alloc (.map #[] 0)).alloc (.map #[] 0)) (w.heap.size + 1) [] := MapIs.made _ _ _ _ _ (by simp [hs])
  have m1' : MapIs Tryz.prog 47 slV prV ((W.alloc (.map #[] 0)).alloc (.map #[] 0)) w.heap.size [] := m1.of_block ((bel_new (W.alloc (.map #[] 0)) (.map #[] 0)).block _ m1.lt)
  have hlow : B ≤ g := h.low g (.inl rfl)
  refine ⟨⟨hx.kept_below hb hx.there, ?_, fineNil, (fun e => by cases e), fun p hp => ?_⟩, (hc.mono (fun j _ e => .inl e)).then (Chg.of_below hb (fun _ => False)) (fun _ _ e => e.elim)⟩
  · rintro j (rfl | ⟨p, hp, hj⟩)
    · exact hlow
    · injection hp with hp
      subst hp
      rcases hj with rfl | rfl
      · show B ≤ w.heap.size
        omega
      · show B ≤ w.heap.size + 1
        omega
  · injection hp with hp
    subst hp
    exact ⟨by show ¬ w.heap.size = w.heap.size + 1; omega, m1', m2⟩
theorem own_new {w W1 : World} {g : Nat} (h : w.heap.size ≤ W1.heap.size) : ∀ j, j < w.heap.size → Own g (some (W1.heap.size, W1.heap.size + 1)) j → Own g none j := by
  rintro j hj (rfl | ⟨p, hp, hk⟩)
  · exact .inl rfl
  · injection hp with hp
    subst hp
    rcases hk with rfl | rfl
    · exact absurd hj (by show ¬ W1.heap.size < w.heap.size; omega)
    · exact absurd hj (by show ¬ W1.heap.size + 1 < w.heap.size; omega)
set_option maxRecDepth 100000 in
set_option maxHeartbeats 4000000 in
theorem give_new1 {w : World} {B g : Nat} {Q : QL} {S : SL} (h : DeskAt w B g none Q S) {s : Sl} (hs : OkP s) {q : Pr} (hq : OkP q) (hz : ¬ q.1 = 0) :
    Calls Tryz.prog 25 #[.pointer (some ⟨g, 0, none⟩), slV s, prV q] w (Gave w B g none (givQ Q s q) (givS S s q)) := by
  have hqz : ¬ q = (0, 0) := by rintro rfl; simp at hz
  have hF : givQ Q s q = fput Q s q ∧ givS S s q = givOne (givOne S s q.1) s q.2 := by simp [givQ, givS, hqz]
  rw [hF.1, hF.2]
  clear hF hqz
  obtain ⟨s1, s2⟩ := s
  obtain ⟨q1, q2⟩ := q
  obtain ⟨rfl, rfl⟩ := h.bare rfl
  obtain ⟨W1, hW1⟩ : ∃ W1, (w.alloc (.cells #[.int .i64 s1, .int .i64 s2] 47)).alloc (.cells #[.int .i64 q1, .int .i64 q2] 75) = W1 := ⟨_, rfl⟩
  have BW : Below w.heap.size w W1 := by rw [← hW1]; exact bel_alloc (bel_new _ _) _
  have X4 : Box W1 w.heap.size 47 #[.int .i64 s1, .int .i64 s2] := by rw [← hW1]; exact (Box.fresh w _ _ rfl).kept_below (bel_new _ _) (by simp)
  have X5 : Box W1 (w.heap.size + 1) 75 #[.int .i64 q1, .int .i64 q2] := by rw [← hW1]; exact Box.fresh _ _ _ (by simp)
  have D0 := h.carry BW
  have g00 : W1.cell? ⟨g, 0, none⟩ = some (.map none) := (D0.box.reads 0).trans rfl
  have g01 : W1.cell? ⟨g, 1, none⟩ = some (.map none) := (D0.box.reads 1).trans rfl
  have gf0 := D0.box.unmarked 0
  have gf1 := D0.box.unmarked 1
  have hgl := D0.there
  have hne0 : ¬ g = W1.heap.size := by omega
  have hne1 : ¬ g = W1.heap.size + 1 := by omega
  have NW := newMaps D0
  obtain ⟨W2, hW2⟩ : ∃ W2, (((W1.setCell ⟨g, 0, none⟩ (.map (some W1.heap.size))).setCell ⟨g, 1, none⟩ (.map (some (W1.heap.size + 1)))).alloc (.map #[] 0)).alloc (.map #[] 0) = W2 := ⟨_, rfl⟩
  rw [hW2] at NW
  obtain ⟨D1, C1⟩ := NW
  have CW : Chg (Own g none) w W2 := (Chg.of_below BW _).then C1 (fun _ _ h => h)
  have X4' := X4.kept C1 (D0.off X4 (by decide))
  have X5' := X5.kept C1 (D0.off X5 (by decide))
  have HSZ : Hid (w.heap.size ≤ W1.heap.size) := Lib.hid BW.size
  obtain ⟨w2, hu, D2, C2⟩ := (D1.carry (Below.refl W2.heap.size W2).drew).putQ hs hq
  replace hu : (Instr.mapUpdate 70 (.map (some W1.heap.size)) (.agg #[.int .i64 s1, .int .i64 s2]) (.agg #[.int .i64 q1, .int .i64 q2])).run Tryz.prog W2.drew = .ok () w2 := hu
  have J2 : GivJ w B g (W1.heap.size, W1.heap.size + 1) w.heap.size (fput [] (s1, s2) (q1, q2)) [] (s1, s2) (Own g none) w2 := ⟨D2, CW.drew.then C2 (own_new BW.size), (show Box W2.drew w.heap.size _ _ from X4').kept C2 ((D1.carry (Below.refl _ _).drew).off X4' (by decide))⟩
  have Y5 := (show Box W2.drew (w.heap.size + 1) _ _ from X5').kept C2 ((D1.carry (Below.refl _ _).drew).off X5' (by decide))
  have z40 : W2.cell? ⟨w.heap.size, 0, none⟩ = some (.int .i64 s1) := (X4'.reads 0).trans rfl
  have z41 : W2.cell? ⟨w.heap.size, 1, none⟩ = some (.int .i64 s2) := (X4'.reads 1).trans rfl
  have z50 : W2.cell? ⟨w.heap.size + 1, 0, none⟩ = some (.int .i64 q1) := (X5'.reads 0).trans rfl
  have z51 : W2.cell? ⟨w.heap.size + 1, 1, none⟩ = some (.int .i64 q2) := (X5'.reads 1).trans rfl
  have z0 : W2.cell? ⟨g, 0, none⟩ = some (.map (some W1.heap.size)) := (D1.box.reads 0).trans rfl
  have x40 : W1.cell? ⟨w.heap.size, 0, none⟩ = some (.int .i64 s1) := (X4.reads 0).trans rfl
  have x41 : W1.cell? ⟨w.heap.size, 1, none⟩ = some (.int .i64 s2) := (X4.reads 1).trans rfl
  have x50 : W1.cell? ⟨w.heap.size + 1, 0, none⟩ = some (.int .i64 q1) := (X5.reads 0).trans rfl
  have x51 : W1.cell? ⟨w.heap.size + 1, 1, none⟩ = some (.int .i64 q2) := (X5.reads 1).trans rfl
  have y50 : w2.cell? ⟨w.heap.size + 1, 0, none⟩ = some (.int .i64 q1) := (Y5.reads 0).trans rfl
  have y51 : w2.cell? ⟨w.heap.size + 1, 1, none⟩ = some (.int .i64 q2) := (Y5.reads 1).trans rfl
  have HJ := Lib.hid J2
  have HS := Lib.hid hs
  have HZ := Lib.hid hz
  have HQ := Lib.hid hq
  clear h hs hq BW X4 X5 D0 D1 D2 C1 C2 CW J2 Y5 X4' X5'
  change Calls Tryz.prog 25 #[.pointer (some ⟨g, 0, none⟩), .agg #[.int .i64 s1, .int .i64 s2], .agg #[.int .i64 q1, .int .i64 q2]] w _
  dsimp only at hz
  have MN := map_nil
  have hmm := @run_makeMap Tryz.prog
  go_enter Tryz.func25, Tryz.ntmps25
  go_wp2_with fail
  go_region
  all_goals (go_wp2_with fail)
  all_goals
    clear hu x40 x41 x50 x51 z40 z41 z50 z51 z0 g00 g01 gf0 gf1 hne0 hne1 hgl hW2 y50 y51 MN hmm
    go_loopw [35] (fun v35 wr => ∃ k : Nat, k ≤ 2 ∧ v35 = .int .i64 k ∧ Hid (GivJ w B g (W1.heap.size, W1.heap.size + 1) w.heap.size (fput [] (s1, s2) (q1, q2)) (givK [] (s1, s2) (q1, q2) k) (s1, s2) (Own g none) wr)) (fun v35 _ => 2 - (intOf v35).toNat)
    case atStart => exact ⟨0, by omega, rfl, HJ⟩
    case round =>
      obtain ⟨k, hk, rfl, hJ⟩ := hrel
      clear HJ hz
      have I0 := idx0 q1 q2
      have I1 := idx1 q1 q2
      rcases (show k = 0 ∨ k = 1 ∨ k = 2 by omega) with rfl | rfl | rfl
      · have hq1 : ¬ q1 = 0 := HZ.out
        obtain ⟨w5, hu5, hJ5⟩ := hJ.out.put (own_new HSZ.out) HQ.out.1 HS.out
        have hJ1 : Hid (GivJ w B g (W1.heap.size, W1.heap.size + 1) w.heap.size (fput [] (s1, s2) (q1, q2)) (givK [] (s1, s2) (q1, q2) 1) (s1, s2) (Own g none) w5) := by
          rw [show givK [] (s1, s2) (q1, q2) 1 = fput [] q1 (s1, s2) by simp [givK, givOne, hq1]]
          exact hJ5
        obtain ⟨c1, c2, c3⟩ := hJ.out.cells
        clear hJ hJ5
        go_wp2_with fail
        go_region
        all_goals (go_wp2_with fail)
        all_goals go_roundw
        all_goals first
          | exact ⟨1, by omega, by go_num, hJ1⟩
          | simp [intOf]
      · by_cases hq2 : q2 = 0
        · have hJ1 : Hid (GivJ w B g (W1.heap.size, W1.heap.size + 1) w.heap.size (fput [] (s1, s2) (q1, q2)) (givK [] (s1, s2) (q1, q2) 2) (s1, s2) (Own g none) wr) := by
            rw [show givK [] (s1, s2) (q1, q2) 2 = givK [] (s1, s2) (q1, q2) 1 by simp [givK, givOne, hq2]]
            exact hJ
          subst hq2
          clear hJ
          go_wp2_with fail
          go_roundw
          case rel => exact ⟨2, by omega, by go_num, hJ1⟩
          case measure => simp [intOf]
        · obtain ⟨w5, hu5, hJ5⟩ := hJ.out.put (own_new HSZ.out) HQ.out.2 HS.out
          have hJ1 : Hid (GivJ w B g (W1.heap.size, W1.heap.size + 1) w.heap.size (fput [] (s1, s2) (q1, q2)) (givK [] (s1, s2) (q1, q2) 2) (s1, s2) (Own g none) w5) := by
            rw [show givK [] (s1, s2) (q1, q2) 2 = fput (givK [] (s1, s2) (q1, q2) 1) q2 (s1, s2) by simp [givK, givOne, hq2]]
            exact hJ5
          obtain ⟨c1, c2, c3⟩ := hJ.out.cells
          clear hJ hJ5
          go_wp2_with fail
          go_region
          all_goals (go_wp2_with fail)
          all_goals go_roundw
          all_goals first
            | exact ⟨2, by omega, by go_num, hJ1⟩
            | simp [intOf]
      · have hE : GivJ w B g (W1.heap.size, W1.heap.size + 1) w.heap.size (fput [] (s1, s2) (q1, q2)) (givOne (givOne [] (s1, s2) q1) (s1, s2) q2) (s1, s2) (Own g none) wr := hJ.out
        clear hJ
        go_wp2_with fail
        refine bodyPost_ret (v := .tuple #[]) (by simp [results, Tryz.results25, go_sem]) rfl ⟨rfl, some (W1.heap.size, W1.heap.size + 1), hE.1, hE.2.1, own_new HSZ.out⟩
set_option maxRecDepth 100000 in
set_option maxHeartbeats 4000000 in
theorem give_new2 {w : World} {B g : Nat} {Q : QL} {S : SL} (h : DeskAt w B g none Q S) {s : Sl} (hs : OkP s) {q2 : Int} (hq : OkP (0, q2)) (hz : ¬ q2 = 0) :
    Calls Tryz.prog 25 #[.pointer (some ⟨g, 0, none⟩), slV s, prV (0, q2)] w (Gave w B g none (givQ Q s (0, q2)) (givS S s (0, q2))) := by
  have hqz : ¬ (0, q2) = ((0, 0) : Pr) := fun e => hz (congrArg Prod.snd e)
  have hF : givQ Q s (0, q2) = fput Q s (0, q2) ∧ givS S s (0, q2) = givOne (givOne S s 0) s q2 := by simp [givQ, givS, hqz]
  rw [hF.1, hF.2]
  clear hF hqz
  obtain ⟨s1, s2⟩ := s
  obtain ⟨rfl, rfl⟩ := h.bare rfl
  obtain ⟨W1, hW1⟩ : ∃ W1, (w.alloc (.cells #[.int .i64 s1, .int .i64 s2] 47)).alloc (.cells #[.int .i64 0, .int .i64 q2] 75) = W1 := ⟨_, rfl⟩
  have BW : Below w.heap.size w W1 := by rw [← hW1]; exact bel_alloc (bel_new _ _) _
  have X4 : Box W1 w.heap.size 47 #[.int .i64 s1, .int .i64 s2] := by rw [← hW1]; exact (Box.fresh w _ _ rfl).kept_below (bel_new _ _) (by simp)
  have X5 : Box W1 (w.heap.size + 1) 75 #[.int .i64 0, .int .i64 q2] := by rw [← hW1]; exact Box.fresh _ _ _ (by simp)
  have D0 := h.carry BW
  have g00 : W1.cell? ⟨g, 0, none⟩ = some (.map none) := (D0.box.reads 0).trans rfl
  have g01 : W1.cell? ⟨g, 1, none⟩ = some (.map none) := (D0.box.reads 1).trans rfl
  have gf0 := D0.box.unmarked 0
  have gf1 := D0.box.unmarked 1
  have hgl := D0.there
  have hne0 : ¬ g = W1.heap.size := by omega
  have hne1 : ¬ g = W1.heap.size + 1 := by omega
  have NW := newMaps D0
  obtain ⟨W2, hW2⟩ : ∃ W2, (((W1.setCell ⟨g, 0, none⟩ (.map (some W1.heap.size))).setCell ⟨g, 1, none⟩ (.map (some (W1.heap.size + 1)))).alloc (.map #[] 0)).alloc (.map #[] 0) = W2 := ⟨_, rfl⟩
  rw [hW2] at NW
  obtain ⟨D1, C1⟩ := NW
  have CW : Chg (Own g none) w W2 := (Chg.of_below BW _).then C1 (fun _ _ h => h)
  have X4' := X4.kept C1 (D0.off X4 (by decide))
  have X5' := X5.kept C1 (D0.off X5 (by decide))
  have HSZ : Hid (w.heap.size ≤ W1.heap.size) := Lib.hid BW.size
  obtain ⟨w2, hu, D2, C2⟩ := (D1.carry (Below.refl W2.heap.size W2).drew).putQ hs hq
  replace hu : (Instr.mapUpdate 70 (.map (some W1.heap.size)) (.agg #[.int .i64 s1, .int .i64 s2]) (.agg #[.int .i64 0, .int .i64 q2])).run Tryz.prog W2.drew = .ok () w2 := hu
  have J2 : GivJ w B g (W1.heap.size, W1.heap.size + 1) w.heap.size (fput [] (s1, s2) (0, q2)) [] (s1, s2) (Own g none) w2 := ⟨D2, CW.drew.then C2 (own_new BW.size), (show Box W2.drew w.heap.size _ _ from X4').kept C2 ((D1.carry (Below.refl _ _).drew).off X4' (by decide))⟩
  have Y5 := (show Box W2.drew (w.heap.size + 1) _ _ from X5').kept C2 ((D1.carry (Below.refl _ _).drew).off X5' (by decide))
  have z40 : W2.cell? ⟨w.heap.size, 0, none⟩ = some (.int .i64 s1) := (X4'.reads 0).trans rfl
  have z41 : W2.cell? ⟨w.heap.size, 1, none⟩ = some (.int .i64 s2) := (X4'.reads 1).trans rfl
  have z50 : W2.cell? ⟨w.heap.size + 1, 0, none⟩ = some (.int .i64 0) := (X5'.reads 0).trans rfl
  have z51 : W2.cell? ⟨w.heap.size + 1, 1, none⟩ = some (.int .i64 q2) := (X5'.reads 1).trans rfl
  have z0 : W2.cell? ⟨g, 0, none⟩ = some (.map (some W1.heap.size)) := (D1.box.reads 0).trans rfl
  have x40 : W1.cell? ⟨w.heap.size, 0, none⟩ = some (.int .i64 s1) := (X4.reads 0).trans rfl
  have x41 : W1.cell? ⟨w.heap.size, 1, none⟩ = some (.int .i64 s2) := (X4.reads 1).trans rfl
  have x50 : W1.cell? ⟨w.heap.size + 1, 0, none⟩ = some (.int .i64 0) := (X5.reads 0).trans rfl
  have x51 : W1.cell? ⟨w.heap.size + 1, 1, none⟩ = some (.int .i64 q2) := (X5.reads 1).trans rfl
  have y50 : w2.cell? ⟨w.heap.size + 1, 0, none⟩ = some (.int .i64 0) := (Y5.reads 0).trans rfl
  have y51 : w2.cell? ⟨w.heap.size + 1, 1, none⟩ = some (.int .i64 q2) := (Y5.reads 1).trans rfl
  have HJ := Lib.hid J2
  have HS := Lib.hid hs
  have HQ := Lib.hid hq
  clear h hs hq BW X4 X5 D0 D1 D2 C1 C2 CW J2 Y5 X4' X5'
  change Calls Tryz.prog 25 #[.pointer (some ⟨g, 0, none⟩), .agg #[.int .i64 s1, .int .i64 s2], .agg #[.int .i64 0, .int .i64 q2]] w _
  have MN := map_nil
  have hmm := @run_makeMap Tryz.prog
  go_enter Tryz.func25, Tryz.ntmps25
  go_wp2_with fail
  go_region
  all_goals (go_wp2_with fail)
  all_goals
    clear hu x40 x41 x50 x51 z40 z41 z50 z51 z0 g00 g01 gf0 gf1 hne0 hne1 hgl hW2 y50 y51 MN hmm
    go_loopw [35] (fun v35 wr => ∃ k : Nat, k ≤ 2 ∧ v35 = .int .i64 k ∧ Hid (GivJ w B g (W1.heap.size, W1.heap.size + 1) w.heap.size (fput [] (s1, s2) (0, q2)) (givK [] (s1, s2) (0, q2) k) (s1, s2) (Own g none) wr)) (fun v35 _ => 2 - (intOf v35).toNat)
    case atStart => exact ⟨0, by omega, rfl, HJ⟩
    case round =>
      obtain ⟨k, hk, rfl, hJ⟩ := hrel
      clear HJ hz
      have I0 := idx0 0 q2
      have I1 := idx1 0 q2
      rcases (show k = 0 ∨ k = 1 ∨ k = 2 by omega) with rfl | rfl | rfl
      · have hJ1 : Hid (GivJ w B g (W1.heap.size, W1.heap.size + 1) w.heap.size (fput [] (s1, s2) (0, q2)) (givK [] (s1, s2) (0, q2) 1) (s1, s2) (Own g none) wr) := by
          rw [show givK [] (s1, s2) (0, q2) 1 = [] by simp [givK, givOne]]
          exact hJ
        clear hJ
        go_wp2_with fail
        go_roundw
        case rel => exact ⟨1, by omega, by go_num, hJ1⟩
        case measure => simp [intOf]
      · by_cases hq2 : q2 = 0
        · have hJ1 : Hid (GivJ w B g (W1.heap.size, W1.heap.size + 1) w.heap.size (fput [] (s1, s2) (0, q2)) (givK [] (s1, s2) (0, q2) 2) (s1, s2) (Own g none) wr) := by
            rw [show givK [] (s1, s2) (0, q2) 2 = givK [] (s1, s2) (0, q2) 1 by simp [givK, givOne, hq2]]
            exact hJ
          subst hq2
          clear hJ
          go_wp2_with fail
          go_roundw
          case rel => exact ⟨2, by omega, by go_num, hJ1⟩
          case measure => simp [intOf]
        · obtain ⟨w5, hu5, hJ5⟩ := hJ.out.put (own_new HSZ.out) HQ.out.2 HS.out
          have hJ1 : Hid (GivJ w B g (W1.heap.size, W1.heap.size + 1) w.heap.size (fput [] (s1, s2) (0, q2)) (givK [] (s1, s2) (0, q2) 2) (s1, s2) (Own g none) w5) := by
            rw [show givK [] (s1, s2) (0, q2) 2 = fput (givK [] (s1, s2) (0, q2) 1) q2 (s1, s2) by simp [givK, givOne, hq2]]
            exact hJ5
          obtain ⟨c1, c2, c3⟩ := hJ.out.cells
          clear hJ hJ5
          go_wp2_with fail
          go_region
          all_goals (go_wp2_with fail)
          all_goals go_roundw
          all_goals first
            | exact ⟨2, by omega, by go_num, hJ1⟩
            | simp [intOf]
      · have hE : GivJ w B g (W1.heap.size, W1.heap.size + 1) w.heap.size (fput [] (s1, s2) (0, q2)) (givOne (givOne [] (s1, s2) 0) (s1, s2) q2) (s1, s2) (Own g none) wr := hJ.out
        clear hJ
        go_wp2_with fail
        refine bodyPost_ret (v := .tuple #[]) (by simp [results, Tryz.results25, go_sem]) rfl ⟨rfl, some (W1.heap.size, W1.heap.size + 1), hE.1, hE.2.1, own_new HSZ.out⟩
end Go.Proofs.YtkcgklaoefbglaaGreatDoor
