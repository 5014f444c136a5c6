/- The law's known: a customer's order. -/
import Derived.Test.YtegfionpeimecaaDoorOrdText
import Derived.Test.YtegfionpeimecaaDoorOrdChk
set_option linter.unusedSimpArgs false
namespace Go.Proofs.YtegfionpeimecaaDoor
open Go.RowKit Go.Mem1 Go.OrdMath Go.GridMath

def kO : Ord := ⟨3, 1, 1, 10, 5, true, 2⟩
def kP : Ord := ⟨1, 1, 1, 10, 5, false, 2⟩
def kQ : Ord := ⟨3, 1, 1, 10, 0, true, 2⟩
def kT : List Stp := [(1, 1)]
theorem kT_ok : chk kT = none := by decide
theorem kT_on : onT kT 10 = true := by decide
theorem k_text : textO txSmall kO = ⟨#[51, 32, 49, 32, 66, 32, 53, 64, 49, 48, 32, 105, 111, 99, 32, 99]⟩ := by decide +kernel
theorem kO_ok : chkO kO (onT kT kO.pr) = none := by rw [show onT kT kO.pr = true from kT_on]; decide
theorem kQ_no : chkO kQ (onT kT kQ.pr) = some (4, 1) := by rw [show onT kT kQ.pr = true from kT_on]; decide
theorem kAh : aheadB kO kP = true := by decide
set_option maxRecDepth 100000 in
set_option maxHeartbeats 2000000 in
theorem oknown_ok (w : World) : Calls Tryd.prog 7 #[] w fun e w' => e = .returned (.bool true) ∧ Below w.heap.size w w' := by
  obtain ⟨W1, hW1⟩ : ∃ W1, (((w.alloc (.cells #[.int .i64 3, .int .i64 1, .int .i64 1, .int .i64 10, .int .i64 5, .bool true, .int .i64 2] 23)).alloc (.cells #[.int .i64 1, .int .i64 1] 50)).alloc (.cells #[.int .i64 1, .int .i64 1, .int .i64 1, .int .i64 10, .int .i64 5, .bool false, .int .i64 2] 23)).alloc (.cells #[.int .i64 3, .int .i64 1, .int .i64 1, .int .i64 10, .int .i64 0, .bool true, .int .i64 2] 23) = W1 := ⟨_, rfl⟩
  have B1 : Below w.heap.size w W1 := by rw [← hW1]; exact bel_alloc (bel_alloc (bel_alloc (bel_new _ _) _) _) _
  have xKO : Box W1 w.heap.size 23 #[.int .i64 3, .int .i64 1, .int .i64 1, .int .i64 10, .int .i64 5, .bool true, .int .i64 2] := by rw [← hW1]; exact (((Box.fresh _ _ _ rfl).kept_below (bel_new _ _) (by simp)).kept_below (bel_new _ _) (by simp; omega)).kept_below (bel_new _ _) (by simp; omega)
  have xKP : Box W1 (w.heap.size + 1 + 1) 23 #[.int .i64 1, .int .i64 1, .int .i64 1, .int .i64 10, .int .i64 5, .bool false, .int .i64 2] := by rw [← hW1]; exact (Box.fresh _ _ _ (by simp)).kept_below (bel_new _ _) (by simp)
  have xKQ : Box W1 (w.heap.size + 1 + 1 + 1) 23 #[.int .i64 3, .int .i64 1, .int .i64 1, .int .i64 10, .int .i64 0, .bool true, .int .i64 2] := by rw [← hW1]; exact Box.fresh _ _ _ (by simp)
  have T1 : TabAt W1 W1.heap.size (some ⟨w.heap.size + 1, 0, none⟩) 1 kT := by
    rw [← hW1]
    have h0 := TabAt.made (w.alloc (.cells #[.int .i64 3, .int .i64 1, .int .i64 1, .int .i64 10, .int .i64 5, .bool true, .int .i64 2] 23)) #[.int .i64 1, .int .i64 1] 50 (0, 0) 1 kT rfl (fun k s hs => by
      match k, hs with
      | 0, hs => injection hs with hs; subst hs; exact ⟨rfl, rfl⟩) (g := w.heap.size + 1) (by simp) rfl
    exact (((h0.carry (bel_new _ _)).wider (bel_new _ _).size).carry (bel_new _ _)).wider (bel_new _ _).size
  have KO := Lib.hid (fun w' (hb : Below W1.heap.size W1 w') => (⟨((xKO.kept_below hb xKO.there).reads 0).trans rfl, ((xKO.kept_below hb xKO.there).reads 1).trans rfl, ((xKO.kept_below hb xKO.there).reads 2).trans rfl, ((xKO.kept_below hb xKO.there).reads 3).trans rfl, ((xKO.kept_below hb xKO.there).reads 4).trans rfl, ((xKO.kept_below hb xKO.there).reads 5).trans rfl, ((xKO.kept_below hb xKO.there).reads 6).trans rfl⟩ :
    w'.cell? ⟨w.heap.size, 0, none⟩ = some (.int .i64 3) ∧ w'.cell? ⟨w.heap.size, 1, none⟩ = some (.int .i64 1) ∧ w'.cell? ⟨w.heap.size, 2, none⟩ = some (.int .i64 1) ∧ w'.cell? ⟨w.heap.size, 3, none⟩ = some (.int .i64 10) ∧ w'.cell? ⟨w.heap.size, 4, none⟩ = some (.int .i64 5) ∧ w'.cell? ⟨w.heap.size, 5, none⟩ = some (.bool true) ∧ w'.cell? ⟨w.heap.size, 6, none⟩ = some (.int .i64 2)))
  have KP := Lib.hid (fun w' (hb : Below W1.heap.size W1 w') => (⟨((xKP.kept_below hb xKP.there).reads 0).trans rfl, ((xKP.kept_below hb xKP.there).reads 1).trans rfl, ((xKP.kept_below hb xKP.there).reads 2).trans rfl, ((xKP.kept_below hb xKP.there).reads 3).trans rfl, ((xKP.kept_below hb xKP.there).reads 4).trans rfl, ((xKP.kept_below hb xKP.there).reads 5).trans rfl, ((xKP.kept_below hb xKP.there).reads 6).trans rfl⟩ :
    w'.cell? ⟨w.heap.size + 1 + 1, 0, none⟩ = some (.int .i64 1) ∧ w'.cell? ⟨w.heap.size + 1 + 1, 1, none⟩ = some (.int .i64 1) ∧ w'.cell? ⟨w.heap.size + 1 + 1, 2, none⟩ = some (.int .i64 1) ∧ w'.cell? ⟨w.heap.size + 1 + 1, 3, none⟩ = some (.int .i64 10) ∧ w'.cell? ⟨w.heap.size + 1 + 1, 4, none⟩ = some (.int .i64 5) ∧ w'.cell? ⟨w.heap.size + 1 + 1, 5, none⟩ = some (.bool false) ∧ w'.cell? ⟨w.heap.size + 1 + 1, 6, none⟩ = some (.int .i64 2)))
  have KQ := Lib.hid (fun w' (hb : Below W1.heap.size W1 w') => (⟨((xKQ.kept_below hb xKQ.there).reads 0).trans rfl, ((xKQ.kept_below hb xKQ.there).reads 1).trans rfl, ((xKQ.kept_below hb xKQ.there).reads 2).trans rfl, ((xKQ.kept_below hb xKQ.there).reads 3).trans rfl, ((xKQ.kept_below hb xKQ.there).reads 4).trans rfl, ((xKQ.kept_below hb xKQ.there).reads 5).trans rfl, ((xKQ.kept_below hb xKQ.there).reads 6).trans rfl⟩ :
    w'.cell? ⟨w.heap.size + 1 + 1 + 1, 0, none⟩ = some (.int .i64 3) ∧ w'.cell? ⟨w.heap.size + 1 + 1 + 1, 1, none⟩ = some (.int .i64 1) ∧ w'.cell? ⟨w.heap.size + 1 + 1 + 1, 2, none⟩ = some (.int .i64 1) ∧ w'.cell? ⟨w.heap.size + 1 + 1 + 1, 3, none⟩ = some (.int .i64 10) ∧ w'.cell? ⟨w.heap.size + 1 + 1 + 1, 4, none⟩ = some (.int .i64 0) ∧ w'.cell? ⟨w.heap.size + 1 + 1 + 1, 5, none⟩ = some (.bool true) ∧ w'.cell? ⟨w.heap.size + 1 + 1 + 1, 6, none⟩ = some (.int .i64 2)))
  have C1 := Lib.hid (fun w' (hb : Below W1.heap.size W1 w') => (show Calls Tryd.prog 11 #[.agg #[.int .i64 3, .int .i64 1, .int .i64 1, .int .i64 10, .int .i64 5, .bool true, .int .i64 2], .slice (some ⟨w.heap.size + 1, 0, none⟩) 1 1] w' fun e w2 => e = .returned .nilIface ∧ Hid (Below W1.heap.size W1 w2) from (ocheck_any kO (some ⟨w.heap.size + 1, 0, none⟩) 1 1 kT w' ((T1.carry hb).wider hb.size) kT_ok).mono (fun e w2 h2 => by unfold OChk at h2; rw [kO_ok] at h2; exact ⟨h2.1, bel_trans hb h2.2⟩)))
  have C2 := Lib.hid (fun w' (hb : Below W1.heap.size W1 w') => (show Calls Tryd.prog 11 #[.agg #[.int .i64 3, .int .i64 1, .int .i64 1, .int .i64 10, .int .i64 0, .bool true, .int .i64 2], .slice (some ⟨w.heap.size + 1, 0, none⟩) 1 1] w' fun e w2 => ∃ b, e = .returned (.iface 57 (.pointer (some ⟨b, 0, none⟩))) ∧ Hid (Below W1.heap.size W1 w2) from (ocheck_any kQ (some ⟨w.heap.size + 1, 0, none⟩) 1 1 kT w' ((T1.carry hb).wider hb.size) kT_ok).mono (fun e w2 h2 => by unfold OChk at h2; rw [kQ_no] at h2; obtain ⟨h3, b, h4, _⟩ := h2; exact ⟨b, h4, bel_trans hb h3⟩)))
  have D1 := Lib.hid (fun w' (hb : Below W1.heap.size W1 w') => (show Calls Tryd.prog 16 #[.agg #[.int .i64 3, .int .i64 1, .int .i64 1, .int .i64 10, .int .i64 5, .bool true, .int .i64 2], .int .i64 10] w' fun e w2 => e = .returned (.bool true) ∧ Hid (Below W1.heap.size W1 w2) from (takes_any kO 10 w').mono (fun e w2 h2 => ⟨h2.1, bel_trans hb h2.2⟩)))
  have D2 := Lib.hid (fun w' (hb : Below W1.heap.size W1 w') => (show Calls Tryd.prog 16 #[.agg #[.int .i64 3, .int .i64 1, .int .i64 1, .int .i64 10, .int .i64 5, .bool true, .int .i64 2], .int .i64 11] w' fun e w2 => e = .returned (.bool false) ∧ Hid (Below W1.heap.size W1 w2) from (takes_any kO 11 w').mono (fun e w2 h2 => ⟨h2.1, bel_trans hb h2.2⟩)))
  have D3 := Lib.hid (fun w' (hb : Below W1.heap.size W1 w') => (show Calls Tryd.prog 20 #[.agg #[.int .i64 3, .int .i64 1, .int .i64 1, .int .i64 10, .int .i64 5, .bool true, .int .i64 2], .agg #[.int .i64 1, .int .i64 1, .int .i64 1, .int .i64 10, .int .i64 5, .bool false, .int .i64 2]] w' fun e w2 => e = .returned (.bool true) ∧ Hid (Below W1.heap.size W1 w2) from (ahead_any kO kP w').mono (fun e w2 h2 => ⟨by rw [h2.1, kAh], bel_trans hb h2.2⟩)))
  have D4 := Lib.hid (fun w' => (show Calls Tryd.prog 14 #[.int .i64 1] w' fun e w2 => e = .returned (.int .i64 2) ∧ w' = w2 from (opp_any 1 w').mono (fun e w2 h2 => ⟨h2.1, h2.2⟩)))
  have D5 := Lib.hid (fun w' => (show Calls Tryd.prog 14 #[.int .i64 5] w' fun e w2 => e = .returned (.int .i64 0) ∧ w' = w2 from (opp_any 5 w').mono (fun e w2 h2 => ⟨h2.1, h2.2⟩)))
  have D6 := Lib.hid (fun w' (hb : Below W1.heap.size W1 w') => (show Calls Tryd.prog 18 #[.agg #[.int .i64 3, .int .i64 1, .int .i64 1, .int .i64 10, .int .i64 5, .bool true, .int .i64 2]] w' fun e w2 => e = .returned (.string ⟨#[51, 32, 49, 32, 66, 32, 53, 64, 49, 48, 32, 105, 111, 99, 32, 99]⟩) ∧ Hid (Below W1.heap.size W1 w2) from (otext_any numTSmall kO w' trivial (by decide) (by decide) (by decide) (by decide)).mono (fun e w2 h2 => ⟨by rw [h2.1, k_text], bel_trans hb h2.2⟩)))
  have hb : Hid (Below W1.heap.size W1 W1) := Below.refl _ _
  have HB := Lib.hid B1
  obtain ⟨c0, c1, c2, c3, c4, c5, c6⟩ := KO.out _ hb.out
  clear xKO xKP xKQ T1 B1
  go_enter Tryd.func7, Tryd.ntmps7
  go_wp2_with (go_at_call 11; refine Hid.out ?_)
  clear hW1
  refine Lib.hid ?_
  refine (C1.out _ hb.out).mono ?_
  rintro e w2 ⟨rfl, hb⟩
  obtain ⟨a0, a1, a2, a3, a4, a5, a6⟩ := KQ.out _ hb.out
  go_wp2_with ((first
    | (go_at_call 11; refine (C2.out _ hb.out).mono ?_; clear C2; rintro e w2 ⟨b, rfl, hb⟩; obtain ⟨a0, a1, a2, a3, a4, a5, a6⟩ := KO.out _ hb.out)
    | (go_at_call 16; refine (D1.out _ hb.out).mono ?_; clear D1; rintro e w2 ⟨rfl, hb⟩; obtain ⟨a0, a1, a2, a3, a4, a5, a6⟩ := KO.out _ hb.out)
    | (go_at_call 16; refine (D2.out _ hb.out).mono ?_; clear D2; rintro e w2 ⟨rfl, hb⟩; obtain ⟨a0, a1, a2, a3, a4, a5, a6⟩ := KO.out _ hb.out; obtain ⟨b0, b1, b2, b3, b4, b5, b6⟩ := KP.out _ hb.out)
    | (go_at_call 20; refine (D3.out _ hb.out).mono ?_; clear D3; rintro e w2 ⟨rfl, hb⟩; obtain ⟨a0, a1, a2, a3, a4, a5, a6⟩ := KO.out _ hb.out)
    | (go_at_call 14; refine (D4.out _).mono ?_; clear D4; rintro e w2 ⟨rfl, rfl⟩)
    | (go_at_call 14; refine (D5.out _).mono ?_; clear D5; rintro e w2 ⟨rfl, rfl⟩)
    | (go_at_call 18; refine (D6.out _ hb.out).mono ?_; clear D6; rintro e w2 ⟨rfl, hb⟩)))
  go_ret
  exact ⟨rfl, HB.out.trans (hb.out.mono HB.out.size)⟩
end Go.Proofs.YtegfionpeimecaaDoor
