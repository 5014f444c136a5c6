/- The law's known: a quote's numbers. -/
import Derived.Test.YtkcgklaoefbglaaGreatDoorQuoAsk
import Derived.Test.YtkcgklaoefbglaaGreatDoorQuoChk
set_option linter.unusedSimpArgs false
namespace Go.Proofs.YtkcgklaoefbglaaGreatDoor
open Go.RowKit Go.Mem1 Go.MapRow Go.QuoMath Go.GridMath

/-- The law under way: the desk, a slot's box, all that was there. -/
structure KAt (W wi : World) (g : Nat) (m : Option (Nat × Nat)) (Q : QL) (S : SL) (r3 : Nat) (s : Sl) : Prop where
  desk : DeskAt wi W.heap.size g m Q S
  bel : Below W.heap.size W wi
  x3 : Box wi r3 47 #[.int .i64 s.1, .int .i64 s.2]
theorem KAt.turn {W wi w2 : World} {g : Nat} {m m2 : Option (Nat × Nat)} {Q Q2 : QL} {S S2 : SL} {r3 : Nat} {s : Sl} (h : KAt W wi g m Q S r3 s) (hd : DeskAt w2 W.heap.size g m2 Q2 S2) (hc : Chg (Own g m) wi w2) : KAt W w2 g m2 Q2 S2 r3 s :=
  ⟨hd, Chg.toBelow h.bel hc h.bel.size (fun i hi ho => by have := h.desk.low i ho; omega), h.x3.kept hc (h.desk.off h.x3 (by decide))⟩
theorem KAt.carry {W wi w2 : World} {g : Nat} {m : Option (Nat × Nat)} {Q : QL} {S : SL} {r3 : Nat} {s : Sl} (h : KAt W wi g m Q S r3 s) (hb : Below wi.heap.size wi w2) : KAt W w2 g m Q S r3 s :=
  ⟨h.desk.carry hb, h.bel.trans (hb.mono h.bel.size), h.x3.kept_below hb h.x3.there⟩
theorem KAt.cells {W wi : World} {g : Nat} {m : Option (Nat × Nat)} {Q : QL} {S : SL} {r3 : Nat} {s : Sl} (h : KAt W wi g m Q S r3 s) : wi.cell? ⟨r3, 0, none⟩ = some (.int .i64 s.1) ∧ wi.cell? ⟨r3, 1, none⟩ = some (.int .i64 s.2) :=
  ⟨(h.x3.reads 0).trans rfl, (h.x3.reads 1).trans rfl⟩
theorem okI_of {n : Int} (h : (Lit.int .i64 n).wf = true) : OkI n := h
def kQ1 : QL := [((1, 2), (5, 6))]
def kS1 : SL := [(5, (1, 2)), (6, (1, 2))]
def kQ2 : QL := [((1, 2), (7, 0))]
def kS2 : SL := [(7, (1, 2))]
theorem k1 : setQ [] [] (1, 2) 5 6 = kQ1 ∧ setS [] [] (1, 2) 5 6 = kS1 := by decide
theorem k2 : setQ kQ1 kS1 (1, 2) 7 0 = kQ2 ∧ setS kQ1 kS1 (1, 2) 7 0 = kS2 ∧ prOf kQ1 (1, 2) = (5, 6) := by decide
theorem k3 : forQ kQ2 kS2 7 = [] ∧ forS kS2 7 = [] ∧ fget kS2 7 = some (1, 2) := by decide
def kT : List Stp := [(1, 1)]
theorem kT_ok : chk kT = none := by decide
theorem kC1 : quoE ⟨9, 1, 10, 1⟩ (onT kT 9) (onT kT 10) = none := by decide
theorem kC2 : quoE ⟨10, 1, 10, 1⟩ (onT kT 10) (onT kT 10) = some (2, 11) := by decide
/-- Of a desk without quotes, with maps or not. -/
theorem ofNone_any {w : World} {B g : Nat} {m : Option (Nat × Nat)} {S : SL} (h : DeskAt w B g m [] S) (mk : Int) :
    Calls Tryz.prog 16 #[.pointer (some ⟨g, 0, none⟩), .int .i64 mk] w fun e w' => e = .returned (.slice none 0 0) ∧ Below w.heap.size w w' := by
  cases m with
  | some p => exact of_none h mk
  | none => exact of_nil h mk
set_option maxRecDepth 100000 in
set_option maxHeartbeats 4000000 in
theorem qknown_ok (w : World) : Calls Tryz.prog 4 #[] w fun e w' => e = .returned (.bool true) ∧ Below w.heap.size w w' := by
  obtain ⟨W1, hW1⟩ : ∃ W1, w.alloc (.cells #[.int .i64 1, .int .i64 1] 43) = W1 := ⟨_, rfl⟩
  have B1 : Hid (Below w.heap.size w W1) := by rw [← hW1]; exact bel_new _ _
  have T1 : Hid (TabAt W1 W1.heap.size (some ⟨w.heap.size, 0, none⟩) 1 kT) := by
    rw [← hW1]
    exact TabAt.made w #[.int .i64 1, .int .i64 1] 43 (0, 0) 1 kT rfl (fun k s hs => by
      match k, hs with
      | 0, hs => injection hs with hs; subst hs; exact ⟨rfl, rfl⟩) (g := w.heap.size) (by simp) rfl
  go_enter Tryz.func4, Tryz.ntmps4
  go_wp2_with (go_at_call 11; refine Hid.out ?_)
  clear hW1
  refine Lib.hid ?_
  refine (qnew_any W1).mono ?_
  rintro e w2 ⟨rfl, D2, b2⟩
  obtain ⟨g, hg⟩ : ∃ g, W1.heap.size = g := ⟨_, rfl⟩
  have D2' : DeskAt w2 W1.heap.size g none [] [] := by rw [← hg]; exact D2
  rw [hg]
  clear D2
  go_wp2_with (go_at_call 12; refine Hid.out ?_)
  have K3 : Hid (KAt W1 (w2.alloc (.cells #[.int .i64 1, .int .i64 2] 47)) g none [] [] w2.heap.size (1, 2)) :=
    ⟨D2'.carry (bel_new _ _), b2.trans ((bel_new w2 _).mono b2.size), Box.fresh _ _ _ rfl⟩
  obtain ⟨w3, hw3⟩ : ∃ w3, w2.alloc (.cells #[.int .i64 1, .int .i64 2] 47) = w3 := ⟨_, rfl⟩
  obtain ⟨r3, hr3⟩ : ∃ r, w2.heap.size = r := ⟨_, rfl⟩
  rw [hw3, hr3] at K3
  rw [hw3, hr3]
  clear b2 D2' hw3 hr3
  refine Lib.hid ?_
  refine (set_any (s := (1, 2)) (nb := 5) (na := 6) K3.out.desk ⟨okI_of (by decide), okI_of (by decide)⟩ (okI_of (by decide)) (okI_of (by decide))).mono ?_
  rintro e w4 ⟨rfl, m4, d4, c4, _⟩
  rw [k1.1, k1.2] at d4
  have K4 := Lib.hid (K3.out.turn d4 c4)
  clear d4 c4 K3
  generalize (prOf [] (1, 2)).1 = z1
  generalize (prOf [] (1, 2)).2 = z2
  obtain ⟨x0, x1⟩ := K4.out.cells
  go_wp2_with (go_at_call 12; refine Hid.out ?_)
  refine Lib.hid ?_
  refine (set_any (s := (1, 2)) (nb := 7) (na := 0) K4.out.desk ⟨okI_of (by decide), okI_of (by decide)⟩ (okI_of (by decide)) (okI_of (by decide))).mono ?_
  rintro e w5 ⟨rfl, m5, d5, c5, _⟩
  rw [k2.1, k2.2.1] at d5
  have K5 := Lib.hid (K4.out.turn d5 c5)
  rw [k2.2.2]
  clear d5 c5 K4 x0 x1
  dsimp only
  go_wp2_with (go_at_call 13; refine Hid.out ?_)
  refine Lib.hid ?_
  refine ((whose_any (id := 7) K5.out.desk (okI_of (by decide))).mono (R' := fun e w2 => e = .returned (.tuple #[.agg #[.int .i64 1, .int .i64 2], .bool true]) ∧ Hid (Below w5.heap.size w5 w2)) (fun e w2 he => by rw [k3.2.2] at he; exact he)).mono ?_
  rintro e w6 ⟨rfl, b6⟩
  have K6 : Hid (KAt W1 (w6.alloc (.cells #[.int .i64 1, .int .i64 2] 47)) g m5 kQ2 kS2 r3 (1, 2)) := K5.out.carry (bel_alloc b6.out _)
  have X6 : Hid (Box (w6.alloc (.cells #[.int .i64 1, .int .i64 2] 47)) w6.heap.size 47 #[.int .i64 1, .int .i64 2]) := Box.fresh _ _ _ rfl
  obtain ⟨w7, hw7⟩ : ∃ w7, w6.alloc (.cells #[.int .i64 1, .int .i64 2] 47) = w7 := ⟨_, rfl⟩
  obtain ⟨r6, hr6⟩ : ∃ r, w6.heap.size = r := ⟨_, rfl⟩
  rw [hw7, hr6] at X6
  rw [hw7] at K6
  clear K5 b6
  go_wp2_with (go_at_call 14; refine Hid.out ?_)
  clear hw7 hr6
  refine Lib.hid ?_
  refine ((forget_any (id := 7) K6.out.desk (okI_of (by decide))).mono (R' := fun e w2 => e = .returned (.tuple #[.agg #[.int .i64 1, .int .i64 2], .bool true]) ∧ Hid (DeskAt w2 W1.heap.size g m5 [] []) ∧ Hid (Chg (Own g m5) w7 w2)) (fun e w2 he => by unfold Forgot at he; rw [k3.1, k3.2.1, k3.2.2] at he; exact he)).mono ?_
  rintro e w8 ⟨rfl, d8, c8⟩
  have K8 := Lib.hid (K6.out.turn d8.out c8.out)
  have Y6 := Lib.hid (X6.out.kept c8.out (K6.out.desk.off X6.out (by decide)))
  clear K6 X6 d8 c8
  have K9 : Hid (KAt W1 (w8.alloc (.cells #[.int .i64 1, .int .i64 2] 47)) g m5 [] [] r3 (1, 2)) := K8.out.carry (bel_new _ _)
  have Z6 : Hid (Box (w8.alloc (.cells #[.int .i64 1, .int .i64 2] 47)) r6 47 #[.int .i64 1, .int .i64 2]) := Y6.out.kept_below (bel_new _ _) Y6.out.there
  have Z8 : Hid (Box (w8.alloc (.cells #[.int .i64 1, .int .i64 2] 47)) w8.heap.size 47 #[.int .i64 1, .int .i64 2]) := Box.fresh _ _ _ rfl
  obtain ⟨w9, hw9⟩ : ∃ w9, w8.alloc (.cells #[.int .i64 1, .int .i64 2] 47) = w9 := ⟨_, rfl⟩
  obtain ⟨r8, hr8⟩ : ∃ r, w8.heap.size = r := ⟨_, rfl⟩
  rw [hw9] at K9 Z6
  rw [hw9, hr8] at Z8
  clear K8 Y6
  have HF := Lib.hid (fun w' (hb : Below w9.heap.size w9 w') => (⟨(K9.out.carry hb).cells.1, (K9.out.carry hb).cells.2, ((Z6.out.kept_below hb Z6.out.there).reads 0).trans rfl, ((Z6.out.kept_below hb Z6.out.there).reads 1).trans rfl, ((Z8.out.kept_below hb Z8.out.there).reads 0).trans rfl, ((Z8.out.kept_below hb Z8.out.there).reads 1).trans rfl⟩ :
    w'.cell? ⟨r3, 0, none⟩ = some (.int .i64 1) ∧ w'.cell? ⟨r3, 1, none⟩ = some (.int .i64 2) ∧ w'.cell? ⟨r6, 0, none⟩ = some (.int .i64 1) ∧ w'.cell? ⟨r6, 1, none⟩ = some (.int .i64 2) ∧ w'.cell? ⟨r8, 0, none⟩ = some (.int .i64 1) ∧ w'.cell? ⟨r8, 1, none⟩ = some (.int .i64 2)))
  have HC1 := Lib.hid (fun w' (hb : Below w9.heap.size w9 w') => (show Calls Tryz.prog 10 #[.agg #[.int .i64 9, .int .i64 1, .int .i64 10, .int .i64 1], .slice (some ⟨w.heap.size, 0, none⟩) 1 1] w' fun e w2 => e = .returned .nilIface ∧ Hid (Below w9.heap.size w9 w2) from
    (qcheck_any ⟨9, 1, 10, 1⟩ (some ⟨w.heap.size, 0, none⟩) 1 1 kT w' ((T1.out.carry (K9.out.carry hb).bel).wider (K9.out.carry hb).bel.size) kT_ok).mono (fun e w2 h2 => by rw [kC1] at h2; exact ⟨h2.1, bel_trans hb h2.2⟩)))
  have HC2 := Lib.hid (fun w' (hb : Below w9.heap.size w9 w') => (show Calls Tryz.prog 10 #[.agg #[.int .i64 10, .int .i64 1, .int .i64 10, .int .i64 1], .slice (some ⟨w.heap.size, 0, none⟩) 1 1] w' fun e w2 => ∃ b, e = .returned (.iface 63 (.pointer (some ⟨b, 0, none⟩))) ∧ Hid (Below w9.heap.size w9 w2) from
    (qcheck_any ⟨10, 1, 10, 1⟩ (some ⟨w.heap.size, 0, none⟩) 1 1 kT w' ((T1.out.carry (K9.out.carry hb).bel).wider (K9.out.carry hb).bel.size) kT_ok).mono (fun e w2 h2 => by rw [kC2] at h2; obtain ⟨h3, b, h4, _⟩ := h2; exact ⟨b, h4, bel_trans hb h3⟩)))
  have HL := Lib.hid (fun w' (hb : Below w9.heap.size w9 w') => qlen_any (K9.out.carry hb).desk)
  have HO := Lib.hid (fun w' (hb : Below w9.heap.size w9 w') => ofNone_any (K9.out.carry hb).desk 1)
  have hb0 : Hid (Below w9.heap.size w9 w9) := Below.refl _ _
  have HB9 := Lib.hid (B1.out.trans (K9.out.bel.mono B1.out.size))
  clear Z6 Z8 K9 T1 B1
  go_wp2_with (first
    | (go_at_call 10; refine (HC1.out _ hb0.out).mono ?_; clear HC1; rintro e wa ⟨rfl, hb1⟩)
    | (go_at_call 10; refine (HC2.out _ hb1.out).mono ?_; clear HC2; rintro e wa ⟨b, rfl, hb2⟩; obtain ⟨y0, y1, y2, y3, y4, y5⟩ := HF.out _ hb2.out)
    | (go_at_call 15; refine (HL.out _ hb2.out).mono ?_; rintro e wa ⟨rfl, rfl⟩)
    | (go_at_call 16; refine (HO.out _ hb2.out).mono ?_; rintro e wa ⟨rfl, hb3⟩))
  go_ret
  exact ⟨rfl, HB9.out.trans ((bel_trans hb2.out hb3).mono HB9.out.size)⟩
end Go.Proofs.YtkcgklaoefbglaaGreatDoor
