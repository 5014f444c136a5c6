/- give: orders put into a slot that has none. -/
import Derived.Test.YtkcgklaoefbglaaGreatDoorQuoClr
set_option linter.unusedSimpArgs false
namespace Go.Proofs.YtkcgklaoefbglaaGreatDoor
open Go.RowKit Go.Mem1 Go.MapRow Go.QuoMath

/-- What give leaves. -/
def Gave (w : World) (B g : Nat) (m : Option (Nat × Nat)) (Q : QL) (S : SL) (e : Ending) (w' : World) : Prop :=
  e = .returned (.tuple #[]) ∧ ∃ m', DeskAt w' B g m' Q S ∧ Chg (Own g m) w w' ∧ ∀ j, j < w.heap.size → Own g m' j → Own g m j
set_option maxRecDepth 100000 in
set_option maxHeartbeats 2000000 in
theorem give_none {w : World} {B g : Nat} {m : Option (Nat × Nat)} {Q : QL} {S : SL} (h : DeskAt w B g m Q S) (s : Sl) :
    Calls Tryz.prog 25 #[.pointer (some ⟨g, 0, none⟩), slV s, prV (0, 0)] w (Gave w B g m (givQ Q s (0, 0)) (givS S s (0, 0))) := by
  have hF : Gave w B g m (givQ Q s (0, 0)) (givS S s (0, 0)) = Gave w B g m Q S := by simp [givQ, givS]
  rw [hF]
  obtain ⟨s1, s2⟩ := s
  have H := Lib.hid h
  clear h hF
  change Calls Tryz.prog 25 #[.pointer (some ⟨g, 0, none⟩), .agg #[.int .i64 s1, .int .i64 s2], .agg #[.int .i64 0, .int .i64 0]] w _
  go_enter Tryz.func25, Tryz.ntmps25
  go_wp2_with fail
  refine bodyPost_ret (v := .tuple #[]) (by simp [results, Tryz.results25, go_sem]) rfl ⟨rfl, m, H.out.carry (bel_alloc (bel_new _ _) _), Chg.of_below (bel_alloc (bel_new _ _) _) _, fun _ _ h => h⟩
/-- Is a map nil? -/
theorem map_not (b : Nat) (w : World) : (binOp BinOp.eql 70 (.map (some b)) (.map none)).run Tryz.prog w = .ok (.bool false) w := by kernel_rfl
theorem map_nil (w : World) : (binOp BinOp.eql 70 (.map none) (.map none)).run Tryz.prog w = .ok (.bool true) w := by kernel_rfl
theorem idx0 (a b : Int) (w : World) : (Instr.index 102 (.agg #[.int .i64 a, .int .i64 b]) (.int .i64 0)).run Tryz.prog w = .ok (.int .i64 a) w := by kernel_rfl
theorem idx1 (a b : Int) (w : World) : (Instr.index 102 (.agg #[.int .i64 a, .int .i64 b]) (.int .i64 1)).run Tryz.prog w = .ok (.int .i64 b) w := by kernel_rfl
/-- A round of give's loop: the numbers so far. -/
def givK (S : SL) (s : Sl) (q : Pr) : Nat → SL
  | 0 => S
  | 1 => givOne S s q.1
  | _ => givOne (givOne S s q.1) s q.2
/-- give's state at a round. -/
def GivJ (w : World) (B g : Nat) (p : Nat × Nat) (r : Nat) (Q : QL) (S : SL) (s : Sl) (X : Nat → Prop) (wr : World) : Prop :=
  DeskAt wr B g (some p) Q S ∧ Chg X w wr ∧ Box wr r 47 #[.int .i64 s.1, .int .i64 s.2]
theorem GivJ.cells {w wr : World} {B g : Nat} {p : Nat × Nat} {r : Nat} {Q : QL} {S : SL} {s : Sl} {X : Nat → Prop} (h : GivJ w B g p r Q S s X wr) :
    wr.cell? ⟨g, 1, none⟩ = some (.map (some p.2)) ∧ wr.cell? ⟨r, 0, none⟩ = some (.int .i64 s.1) ∧ wr.cell? ⟨r, 1, none⟩ = some (.int .i64 s.2) :=
  ⟨(h.1.box.reads 1).trans rfl, (h.2.2.reads 0).trans rfl, (h.2.2.reads 1).trans rfl⟩
theorem GivJ.put {w wr : World} {B g : Nat} {p : Nat × Nat} {r : Nat} {Q : QL} {S : SL} {s : Sl} {X : Nat → Prop} (h : GivJ w B g p r Q S s X wr) (hX : ∀ j, j < w.heap.size → Own g (some p) j → X j) {id : Int} (hi : OkI id) (hs : OkP s) :
    ∃ w', (Instr.mapUpdate 71 (.map (some p.2)) (.int .i64 id) (.agg #[.int .i64 s.1, .int .i64 s.2])).run Tryz.prog wr.drew = .ok () w' ∧ GivJ w B g p r Q (fput S id s) s X w' := by
  obtain ⟨w', h1, h2, h3⟩ := (h.1.carry (Below.refl _ _).drew).putS hi hs
  exact ⟨w', h1, h2, h.2.1.drew.then h3 hX, (show Box wr.drew r _ _ from h.2.2).kept h3 ((h.1.carry (Below.refl _ _).drew).off h.2.2 (by decide))⟩
set_option maxRecDepth 100000 in
set_option maxHeartbeats 4000000 in
theorem give_some1 {w : World} {B g : Nat} {p : Nat × Nat} {Q : QL} {S : SL} (h : DeskAt w B g (some p) Q S) {s : Sl} (hs : OkP s) {q : Pr} (hq : OkP q) (hz : ¬ q.1 = 0) :
    Calls Tryz.prog 25 #[.pointer (some ⟨g, 0, none⟩), slV s, prV q] w (Gave w B g (some p) (givQ Q s q) (givS S s q)) := by
  have hqz : ¬ q = (0, 0) := by rintro rfl; simp at hz
  have hF : givQ Q s q = fput Q s q ∧ givS S s q = givOne (givOne S s q.1) s q.2 := by simp [givQ, givS, hqz]
  rw [hF.1, hF.2]
  clear hF hqz
  obtain ⟨s1, s2⟩ := s
  obtain ⟨q1, q2⟩ := q
  obtain ⟨b1, b2⟩ := p
  obtain ⟨W1, hW1⟩ : ∃ W1, (w.alloc (.cells #[.int .i64 s1, .int .i64 s2] 47)).alloc (.cells #[.int .i64 q1, .int .i64 q2] 75) = W1 := ⟨_, rfl⟩
  have BW : Below w.heap.size w W1 := by rw [← hW1]; exact bel_alloc (bel_new _ _) _
  have X4 : Box W1 w.heap.size 47 #[.int .i64 s1, .int .i64 s2] := by rw [← hW1]; exact (Box.fresh w _ _ rfl).kept_below (bel_new _ _) (by simp)
  have X5 : Box W1 (w.heap.size + 1) 75 #[.int .i64 q1, .int .i64 q2] := by rw [← hW1]; exact Box.fresh _ _ _ (by simp)
  have D1 := h.carry BW
  obtain ⟨w2, hu, D2, C2⟩ := (D1.carry (Below.refl W1.heap.size W1).drew).putQ hs hq
  replace hu : (Instr.mapUpdate 70 (.map (some b1)) (.agg #[.int .i64 s1, .int .i64 s2]) (.agg #[.int .i64 q1, .int .i64 q2])).run Tryz.prog W1.drew = .ok () w2 := hu
  have J2 : GivJ w B g (b1, b2) w.heap.size (fput Q (s1, s2) (q1, q2)) S (s1, s2) (Own g (some (b1, b2))) w2 := ⟨D2, (Chg.of_below BW.drew _).then C2 (fun _ _ h => h), (show Box W1.drew w.heap.size _ _ from X4).kept C2 ((D1.carry (Below.refl _ _).drew).off X4 (by decide))⟩
  have Y5 := (show Box W1.drew (w.heap.size + 1) _ _ from X5).kept C2 ((D1.carry (Below.refl _ _).drew).off X5 (by decide))
  have x40 : W1.cell? ⟨w.heap.size, 0, none⟩ = some (.int .i64 s1) := (X4.reads 0).trans rfl
  have x41 : W1.cell? ⟨w.heap.size, 1, none⟩ = some (.int .i64 s2) := (X4.reads 1).trans rfl
  have x50 : W1.cell? ⟨w.heap.size + 1, 0, none⟩ = some (.int .i64 q1) := (X5.reads 0).trans rfl
  have x51 : W1.cell? ⟨w.heap.size + 1, 1, none⟩ = some (.int .i64 q2) := (X5.reads 1).trans rfl
  have g0 : W1.cell? ⟨g, 0, none⟩ = some (.map (some b1)) := (D1.box.reads 0).trans rfl
  have y50 : w2.cell? ⟨w.heap.size + 1, 0, none⟩ = some (.int .i64 q1) := (Y5.reads 0).trans rfl
  have y51 : w2.cell? ⟨w.heap.size + 1, 1, none⟩ = some (.int .i64 q2) := (Y5.reads 1).trans rfl
  have HJ := Lib.hid J2
  have HS := Lib.hid hs
  have HZ := Lib.hid hz
  have HQ := Lib.hid hq
  clear h hs hq BW X4 X5 D1 D2 C2 J2 Y5
  change Calls Tryz.prog 25 #[.pointer (some ⟨g, 0, none⟩), .agg #[.int .i64 s1, .int .i64 s2], .agg #[.int .i64 q1, .int .i64 q2]] w _
  dsimp only at hz
  have MN := map_not b1
  go_enter Tryz.func25, Tryz.ntmps25
  go_wp2_with fail
  go_region
  all_goals (go_wp2_with fail)
  all_goals
    clear hu x40 x41 x50 x51 g0 y50 y51 MN
    go_loopw [35] (fun v35 wr => ∃ k : Nat, k ≤ 2 ∧ v35 = .int .i64 k ∧ Hid (GivJ w B g (b1, b2) w.heap.size (fput Q (s1, s2) (q1, q2)) (givK S (s1, s2) (q1, q2) k) (s1, s2) (Own g (some (b1, b2))) wr)) (fun v35 _ => 2 - (intOf v35).toNat)
    case atStart => exact ⟨0, by omega, rfl, HJ⟩
    case round =>
      obtain ⟨k, hk, rfl, hJ⟩ := hrel
      clear HJ hz
      have I0 := idx0 q1 q2
      have I1 := idx1 q1 q2
      rcases (show k = 0 ∨ k = 1 ∨ k = 2 by omega) with rfl | rfl | rfl
      · have hq1 : ¬ q1 = 0 := HZ.out
        obtain ⟨w5, hu5, hJ5⟩ := hJ.out.put (fun _ _ h => h) HQ.out.1 HS.out
        have hJ1 : Hid (GivJ w B g (b1, b2) w.heap.size (fput Q (s1, s2) (q1, q2)) (givK S (s1, s2) (q1, q2) 1) (s1, s2) (Own g (some (b1, b2))) w5) := by
          rw [show givK S (s1, s2) (q1, q2) 1 = fput S q1 (s1, s2) by simp [givK, givOne, hq1]]
          exact hJ5
        obtain ⟨c1, c2, c3⟩ := hJ.out.cells
        clear hJ hJ5
        go_wp2_with fail
        go_region
        all_goals (go_wp2_with fail)
        all_goals go_roundw
        all_goals first
          | exact ⟨1, by omega, by go_num, hJ1⟩
          | simp [intOf]
      · by_cases hq2 : q2 = 0
        · have hJ1 : Hid (GivJ w B g (b1, b2) w.heap.size (fput Q (s1, s2) (q1, q2)) (givK S (s1, s2) (q1, q2) 2) (s1, s2) (Own g (some (b1, b2))) wr) := by
            rw [show givK S (s1, s2) (q1, q2) 2 = givK S (s1, s2) (q1, q2) 1 by simp [givK, givOne, hq2]]
            exact hJ
          subst hq2
          clear hJ
          go_wp2_with fail
          go_roundw
          case rel => exact ⟨2, by omega, by go_num, hJ1⟩
          case measure => simp [intOf]
        · obtain ⟨w5, hu5, hJ5⟩ := hJ.out.put (fun _ _ h => h) HQ.out.2 HS.out
          have hJ1 : Hid (GivJ w B g (b1, b2) w.heap.size (fput Q (s1, s2) (q1, q2)) (givK S (s1, s2) (q1, q2) 2) (s1, s2) (Own g (some (b1, b2))) w5) := by
            rw [show givK S (s1, s2) (q1, q2) 2 = fput (givK S (s1, s2) (q1, q2) 1) q2 (s1, s2) by simp [givK, givOne, hq2]]
            exact hJ5
          obtain ⟨c1, c2, c3⟩ := hJ.out.cells
          clear hJ hJ5
          go_wp2_with fail
          go_region
          all_goals (go_wp2_with fail)
          all_goals go_roundw
          all_goals first
            | exact ⟨2, by omega, by go_num, hJ1⟩
            | simp [intOf]
      · have hE : GivJ w B g (b1, b2) w.heap.size (fput Q (s1, s2) (q1, q2)) (givOne (givOne S (s1, s2) q1) (s1, s2) q2) (s1, s2) (Own g (some (b1, b2))) wr := hJ.out
        clear hJ
        go_wp2_with fail
        refine bodyPost_ret (v := .tuple #[]) (by simp [results, Tryz.results25, go_sem]) rfl ⟨rfl, some (b1, b2), hE.1, hE.2.1, fun _ _ h => h⟩
set_option maxRecDepth 100000 in
set_option maxHeartbeats 4000000 in
theorem give_some2 {w : World} {B g : Nat} {p : Nat × Nat} {Q : QL} {S : SL} (h : DeskAt w B g (some p) Q S) {s : Sl} (hs : OkP s) {q2 : Int} (hq : OkP (0, q2)) (hz : ¬ q2 = 0) :
    Calls Tryz.prog 25 #[.pointer (some ⟨g, 0, none⟩), slV s, prV (0, q2)] w (Gave w B g (some p) (givQ Q s (0, q2)) (givS S s (0, q2))) := by
  have hqz : ¬ (0, q2) = ((0, 0) : Pr) := fun e => hz (congrArg Prod.snd e)
  have hF : givQ Q s (0, q2) = fput Q s (0, q2) ∧ givS S s (0, q2) = givOne (givOne S s 0) s q2 := by simp [givQ, givS, hqz]
  rw [hF.1, hF.2]
  clear hF hqz
  obtain ⟨s1, s2⟩ := s
  obtain ⟨b1, b2⟩ := p
  obtain ⟨W1, hW1⟩ : ∃ W1, (w.alloc (.cells #[.int .i64 s1, .int .i64 s2] 47)).alloc (.cells #[.int .i64 0, .int .i64 q2] 75) = W1 := ⟨_, rfl⟩
  have BW : Below w.heap.size w W1 := by rw [← hW1]; exact bel_alloc (bel_new _ _) _
  have X4 : Box W1 w.heap.size 47 #[.int .i64 s1, .int .i64 s2] := by rw [← hW1]; exact (Box.fresh w _ _ rfl).kept_below (bel_new _ _) (by simp)
  have X5 : Box W1 (w.heap.size + 1) 75 #[.int .i64 0, .int .i64 q2] := by rw [← hW1]; exact Box.fresh _ _ _ (by simp)
  have D1 := h.carry BW
  obtain ⟨w2, hu, D2, C2⟩ := (D1.carry (Below.refl W1.heap.size W1).drew).putQ hs hq
  replace hu : (Instr.mapUpdate 70 (.map (some b1)) (.agg #[.int .i64 s1, .int .i64 s2]) (.agg #[.int .i64 0, .int .i64 q2])).run Tryz.prog W1.drew = .ok () w2 := hu
  have J2 : GivJ w B g (b1, b2) w.heap.size (fput Q (s1, s2) (0, q2)) S (s1, s2) (Own g (some (b1, b2))) w2 := ⟨D2, (Chg.of_below BW.drew _).then C2 (fun _ _ h => h), (show Box W1.drew w.heap.size _ _ from X4).kept C2 ((D1.carry (Below.refl _ _).drew).off X4 (by decide))⟩
  have Y5 := (show Box W1.drew (w.heap.size + 1) _ _ from X5).kept C2 ((D1.carry (Below.refl _ _).drew).off X5 (by decide))
  have x40 : W1.cell? ⟨w.heap.size, 0, none⟩ = some (.int .i64 s1) := (X4.reads 0).trans rfl
  have x41 : W1.cell? ⟨w.heap.size, 1, none⟩ = some (.int .i64 s2) := (X4.reads 1).trans rfl
  have x50 : W1.cell? ⟨w.heap.size + 1, 0, none⟩ = some (.int .i64 0) := (X5.reads 0).trans rfl
  have x51 : W1.cell? ⟨w.heap.size + 1, 1, none⟩ = some (.int .i64 q2) := (X5.reads 1).trans rfl
  have g0 : W1.cell? ⟨g, 0, none⟩ = some (.map (some b1)) := (D1.box.reads 0).trans rfl
  have y50 : w2.cell? ⟨w.heap.size + 1, 0, none⟩ = some (.int .i64 0) := (Y5.reads 0).trans rfl
  have y51 : w2.cell? ⟨w.heap.size + 1, 1, none⟩ = some (.int .i64 q2) := (Y5.reads 1).trans rfl
  have HJ := Lib.hid J2
  have HS := Lib.hid hs
  have HQ := Lib.hid hq
  clear h hs hq BW X4 X5 D1 D2 C2 J2 Y5
  change Calls Tryz.prog 25 #[.pointer (some ⟨g, 0, none⟩), .agg #[.int .i64 s1, .int .i64 s2], .agg #[.int .i64 0, .int .i64 q2]] w _
  have MN := map_not b1
  go_enter Tryz.func25, Tryz.ntmps25
  go_wp2_with fail
  go_region
  all_goals (go_wp2_with fail)
  all_goals
    clear hu x40 x41 x50 x51 g0 y50 y51 MN
    go_loopw [35] (fun v35 wr => ∃ k : Nat, k ≤ 2 ∧ v35 = .int .i64 k ∧ Hid (GivJ w B g (b1, b2) w.heap.size (fput Q (s1, s2) (0, q2)) (givK S (s1, s2) (0, q2) k) (s1, s2) (Own g (some (b1, b2))) wr)) (fun v35 _ => 2 - (intOf v35).toNat)
    case atStart => exact ⟨0, by omega, rfl, HJ⟩
    case round =>
      obtain ⟨k, hk, rfl, hJ⟩ := hrel
      clear HJ hz
      have I0 := idx0 0 q2
      have I1 := idx1 0 q2
      rcases (show k = 0 ∨ k = 1 ∨ k = 2 by omega) with rfl | rfl | rfl
      · have hJ1 : Hid (GivJ w B g (b1, b2) w.heap.size (fput Q (s1, s2) (0, q2)) (givK S (s1, s2) (0, q2) 1) (s1, s2) (Own g (some (b1, b2))) wr) := by
          rw [show givK S (s1, s2) (0, q2) 1 = S by simp [givK, givOne]]
          exact hJ
        clear hJ
        go_wp2_with fail
        go_roundw
        case rel => exact ⟨1, by omega, by go_num, hJ1⟩
        case measure => simp [intOf]
      · by_cases hq2 : q2 = 0
        · have hJ1 : Hid (GivJ w B g (b1, b2) w.heap.size (fput Q (s1, s2) (0, q2)) (givK S (s1, s2) (0, q2) 2) (s1, s2) (Own g (some (b1, b2))) wr) := by
            rw [show givK S (s1, s2) (0, q2) 2 = givK S (s1, s2) (0, q2) 1 by simp [givK, givOne, hq2]]
            exact hJ
          subst hq2
          clear hJ
          go_wp2_with fail
          go_roundw
          case rel => exact ⟨2, by omega, by go_num, hJ1⟩
          case measure => simp [intOf]
        · obtain ⟨w5, hu5, hJ5⟩ := hJ.out.put (fun _ _ h => h) HQ.out.2 HS.out
          have hJ1 : Hid (GivJ w B g (b1, b2) w.heap.size (fput Q (s1, s2) (0, q2)) (givK S (s1, s2) (0, q2) 2) (s1, s2) (Own g (some (b1, b2))) w5) := by
            rw [show givK S (s1, s2) (0, q2) 2 = fput (givK S (s1, s2) (0, q2) 1) q2 (s1, s2) by simp [givK, givOne, hq2]]
            exact hJ5
          obtain ⟨c1, c2, c3⟩ := hJ.out.cells
          clear hJ hJ5
          go_wp2_with fail
          go_region
          all_goals (go_wp2_with fail)
          all_goals go_roundw
          all_goals first
            | exact ⟨2, by omega, by go_num, hJ1⟩
            | simp [intOf]
      · have hE : GivJ w B g (b1, b2) w.heap.size (fput Q (s1, s2) (0, q2)) (givOne (givOne S (s1, s2) 0) (s1, s2) q2) (s1, s2) (Own g (some (b1, b2))) wr := hJ.out
        clear hJ
        go_wp2_with fail
        refine bodyPost_ret (v := .tuple #[]) (by simp [results, Tryz.results25, go_sem]) rfl ⟨rfl, some (b1, b2), hE.1, hE.2.1, fun _ _ h => h⟩
end Go.Proofs.YtkcgklaoefbglaaGreatDoor
