/- The reference's CheckOrder, whatever the order, over a table that may be. -/
import Derived.Test.YtegfionpeimecaaDoorOrdSmall
import Derived.Test.YtegfionpeimecaaDoorAtTell
import Derived.Test.YtegfionpeimecaaDoorGrdRef
set_option linter.unusedSimpArgs false
namespace Go.Proofs.YtegfionpeimecaaDoor
open Go.RowKit Go.Mem1 Go.OrdMath Go.GridMath

def ordW : ByteArray := ⟨#[111, 114, 100, 101, 114]⟩
/-- The reference's error at a place of an order. -/
def RO (w : World) (k x : Nat) (e : Ending) (w' : World) : Prop :=
  ∃ b, e = .returned (.agg #[.slice (some ⟨b, 0, none⟩) 1 1, .int .i64 (x : Int)]) ∧ b < w'.heap.size ∧ w'.cell? ⟨b, 0, none⟩ = some (.string ordW) ∧ w'.cell? ⟨b, 1, none⟩ = some (.int .i64 (k : Int)) ∧ Below w.heap.size w w'
theorem oat_any (k x : Nat) (k' x' : Int) (w : World) (hk : k' = (k : Int)) (hx : x' = (x : Int)) : Calls Tryd.prog 22 #[.string ordW, .int .i64 k', .int .i64 x'] w fun e w' => ∃ b, e = .returned (.agg #[.slice (some ⟨b, 0, none⟩) 1 1, .int .i64 x']) ∧ w.heap.size ≤ b ∧ b < w'.heap.size ∧ w'.cell? ⟨b, 0, none⟩ = some (.string ordW) ∧ w'.cell? ⟨b, 1, none⟩ = some (.int .i64 (k : Int)) ∧ Below w.heap.size w w' := by
  subst hk; subst hx
  go_enter Tryd.func22, Tryd.ntmps22
  go_wp2_with fail
  exact bodyPost_ret (v := .agg #[.slice (some ⟨w.heap.size + 1, 0, none⟩) 1 1, .int .i64 (x : Int)]) (by simp [results, Tryd.results22, go_sem]) rfl ⟨_, rfl, by omega, by simp, by simp, by simp, bel_alloc (bel_new w _) _⟩
theorem ro_end {W : World} {R : Ending → World → Prop} {tmps : Array Value} {q : Nat} {u v : Value} (t2 : tmps[4]? = some (.pointer (some ⟨q, 0, none⟩))) (hq : Box W q 29 #[u, v]) (hR : R (.returned (.agg #[u, v])) W) :
    bodyPost Tryd.prog Tryd.f12 R .ret { tmps := tmps, defers := [] } W := by
  have c0 := (hq.reads 0).trans rfl
  have c1 := (hq.reads 1).trans rfl
  exact bodyPost_ret (v := .agg #[u, v]) (by simp [results, Tryd.results12, go_sem, t2, c0, c1]) rfl hR
/-- Behind a call of At: what the walk wants to know; how it ends. -/
def RBO (w w1 : World) (k x b : Nat) : Prop :=
  ∀ v0 v1, v0 = .slice (some ⟨b, 0, none⟩) 1 1 → v1 = .int .i64 (x : Int) → Box ((w1.setCell ⟨w.heap.size + 1, 0, none⟩ v0).setCell ⟨w.heap.size + 1, 1, none⟩ v1) (w.heap.size + 1) 29 #[v0, v1] ∧ RO w k x (.returned (.agg #[v0, v1])) ((w1.setCell ⟨w.heap.size + 1, 0, none⟩ v0).setCell ⟨w.heap.size + 1, 1, none⟩ v1)
theorem rbo_of {w wr w1 : World} {k x b : Nat} (hbx : Box wr (w.heap.size + 1) 29 #[.slice none 0 0, .int .i64 0]) (hb : Below w.heap.size w wr) (hlt : w.heap.size + 1 < wr.heap.size)
    (h1 : wr.heap.size ≤ b) (h2 : b < w1.heap.size) (h3 : w1.cell? ⟨b, 0, none⟩ = some (.string ordW)) (h4 : w1.cell? ⟨b, 1, none⟩ = some (.int .i64 (k : Int))) (hb1 : Below wr.heap.size wr w1) :
    (w1.cell? ⟨w.heap.size + 1, 0, none⟩ = some (.slice none 0 0) ∧ w1.cell? ⟨w.heap.size + 1, 1, none⟩ = some (.int .i64 0) ∧ w1.frozen? ⟨w.heap.size + 1, 0, none⟩ = false ∧ w1.frozen? ⟨w.heap.size + 1, 1, none⟩ = false) ∧ Hid (RBO w w1 k x b) := by
  have hx1 := hbx.kept_below hb1 hlt
  refine ⟨⟨(hx1.reads 0).trans rfl, (hx1.reads 1).trans rfl, hx1.unmarked 0, hx1.unmarked 1⟩, ?_⟩
  rintro v0 v1 rfl rfl
  have e : ∀ i, ((w1.setCell ⟨w.heap.size + 1, 0, none⟩ (.slice (some ⟨b, 0, none⟩) 1 1)).setCell ⟨w.heap.size + 1, 1, none⟩ (.int .i64 (x : Int))).cell? ⟨b, i, none⟩ = w1.cell? ⟨b, i, none⟩ := fun i =>
    World.cell?_of_block (w := w1) ((Below.heap_setCell _ ⟨w.heap.size + 1, 1, none⟩ _ b (by dsimp only; omega)).trans (Below.heap_setCell _ ⟨w.heap.size + 1, 0, none⟩ _ b (by dsimp only; omega)))
  exact ⟨(hx1.wrote 0 _).wrote 1 _, b, rfl, by simp [World.setCell]; exact h2, by rw [e]; exact h3, by rw [e]; exact h4, (((hb.trans (hb1.mono hb.size))).setCell (p := ⟨w.heap.size + 1, 0, none⟩) (Nat.le_succ _) _).setCell (p := ⟨w.heap.size + 1, 1, none⟩) (Nat.le_succ _) _⟩
theorem box_facts {w : World} {q : Nat} {u v : Value} (h : Box w q 29 #[u, v]) : w.cell? ⟨q, 0, none⟩ = some u ∧ w.cell? ⟨q, 1, none⟩ = some v ∧ w.frozen? ⟨q, 0, none⟩ = false ∧ w.frozen? ⟨q, 1, none⟩ = false :=
  ⟨(h.reads 0).trans rfl, (h.reads 1).trans rfl, h.unmarked 0, h.unmarked 1⟩
/-- What CheckOrder answers. -/
def ROChk (o : Ord) (l : List Stp) (w : World) (e : Ending) (w' : World) : Prop :=
  match chkO o (onT l o.pr) with
    | none => e = .returned (.agg #[.slice none 0 0, .int .i64 0]) ∧ Below w.heap.size w w'
    | some (k, x) => RO w k x e w'
theorem ROChk.bad {o : Ord} {l : List Stp} {w : World} {e : Ending} {w' : World} {k x : Nat} (h : chkO o (onT l o.pr) = some (k, x)) (hv : RO w k x e w') : ROChk o l w e w' := by
  unfold ROChk; rw [h]; exact hv
theorem ROChk.good {o : Ord} {l : List Stp} {w w' : World} (h : chkO o (onT l o.pr) = none) (hb : Below w.heap.size w w') : ROChk o l w (.returned (.agg #[.slice none 0 0, .int .i64 0])) w' := by
  unfold ROChk; rw [h]; exact ⟨rfl, hb⟩
set_option maxRecDepth 100000 in
set_option maxHeartbeats 1000000 in
theorem rocheck_any (o : Ord) (A : Option Addr) (n c : Nat) (l : List Stp) (w : World) (h : TabAt w w.heap.size A n l) (hc : chk l = none) :
    Calls Tryd.prog 12 #[ordV o, .slice A n c] w (ROChk o l w) := by
  obtain ⟨i, ow, s, p, q, cu, lf⟩ := o
  obtain ⟨W1, hW1⟩ : ∃ W1, (w.alloc (.cells #[.int .i64 i, .int .i64 ow, .int .i64 s, .int .i64 p, .int .i64 q, .bool cu, .int .i64 lf] 38)).alloc (.cells #[.slice none 0 0, .int .i64 0] 29) = W1 := ⟨_, rfl⟩
  have B1 : Below w.heap.size w W1 := by rw [← hW1]; exact bel_alloc (bel_new _ _) _
  have z1 : w.heap.size + 1 < W1.heap.size := by rw [← hW1]; simp
  have c4 : W1.cell? ⟨w.heap.size, 4, none⟩ = some (.int .i64 q) := by rw [← hW1]; simp
  have c6 : W1.cell? ⟨w.heap.size, 6, none⟩ = some (.int .i64 lf) := by rw [← hW1]; simp
  have hx : Box W1 (w.heap.size + 1) 29 #[.slice none 0 0, .int .i64 0] := by rw [← hW1]; exact Box.fresh _ _ _ (by simp)
  have HO := Lib.hid ((ron_any A n c l p W1 ((h.carry B1).wider B1.size) hc).mono (R' := fun e w2 => e = .returned (.bool (onT l p)) ∧ Hid (Below w.heap.size w w2 ∧ w.heap.size + 1 < w2.heap.size ∧ Box w2 (w.heap.size + 1) 29 #[.slice none 0 0, .int .i64 0]) ∧ w2.cell? ⟨w.heap.size, 4, none⟩ = some (.int .i64 q) ∧ w2.cell? ⟨w.heap.size, 6, none⟩ = some (.int .i64 lf)) (fun e w2 ⟨he, h2⟩ => ⟨he, ⟨bel_trans B1 h2, Nat.lt_of_lt_of_le z1 h2.size, hx.kept_below h2 z1⟩, (h2.cell (p := ⟨w.heap.size, 4, none⟩) (Nat.lt_trans (Nat.lt_succ_self _) z1)).trans c4, (h2.cell (p := ⟨w.heap.size, 6, none⟩) (Nat.lt_trans (Nat.lt_succ_self _) z1)).trans c6⟩))
  have HX := Lib.hid (show Below w.heap.size w W1 ∧ w.heap.size + 1 < W1.heap.size ∧ Box W1 (w.heap.size + 1) 29 #[.slice none 0 0, .int .i64 0] from ⟨B1, z1, hx⟩)
  rw [← hW1] at HO HX
  clear B1 z1 c4 c6 hW1 hx
  have HB := Lib.hid (fun k x e w' h hv => ROChk.bad (o := ⟨i, ow, s, p, q, cu, lf⟩) (l := l) (w := w) (e := e) (w' := w') (k := k) (x := x) h hv)
  have HG := Lib.hid (fun w' h hb => ROChk.good (o := ⟨i, ow, s, p, q, cu, lf⟩) (l := l) (w := w) (w' := w') h hb)
  generalize ROChk ⟨i, ow, s, p, q, cu, lf⟩ l w = R at *
  dsimp only at HB HG
  generalize onT l p = on at *
  have hK : chkO ⟨i, ow, s, p, q, cu, lf⟩ on = if i < 1 then some (0, 1) else if ¬ (0 ≤ ow ∧ ow ≤ 64) then some (1, 1) else if s ≠ 1 ∧ s ≠ 2 then some (2, 1) else if ¬ (1 ≤ p ∧ p ≤ 1000000) then some (3, 1) else if on = false then some (3, 10) else if ¬ (1 ≤ q ∧ q ≤ 1000000) then some (4, 1) else if ¬ (1 ≤ lf ∧ lf ≤ 4) then some (6, 1) else none := rfl
  generalize chkO ⟨i, ow, s, p, q, cu, lf⟩ on = K at *
  clear h hc
  by_cases h0 : i < 1
  · skip
    rw [if_pos h0] at hK
    have HK := Lib.hid hK
    clear hK
    go_enter Tryd.func12, Tryd.ntmps12
    go_wp2_with ((first
      | (go_at_call 22; refine (oat_any 0 1 _ _ _ rfl rfl).mono ?_; rintro e wf ⟨b, rfl, a1, a2, a3, a4, aB⟩; obtain ⟨⟨z0, z1, u0, u1⟩, HR⟩ := rbo_of (x := 1) HX.out.2.2 HX.out.1 HX.out.2.1 a1 a2 a3 a4 aB; clear a1 a2 a3 a4 aB)))
    obtain ⟨hbx, hfin⟩ := HR.out _ _ rfl rfl
    exact ro_end rfl hbx (HB.out 0 1 _ _ HK.out hfin)
  by_cases h1a : ow < 0
  · skip
    rw [if_neg h0, if_pos (by omega)] at hK
    have HK := Lib.hid hK
    clear hK
    go_enter Tryd.func12, Tryd.ntmps12
    go_wp2_with ((first
      | (go_at_call 22; refine (oat_any 1 1 _ _ _ rfl rfl).mono ?_; rintro e wf ⟨b, rfl, a1, a2, a3, a4, aB⟩; obtain ⟨⟨z0, z1, u0, u1⟩, HR⟩ := rbo_of (x := 1) HX.out.2.2 HX.out.1 HX.out.2.1 a1 a2 a3 a4 aB; clear a1 a2 a3 a4 aB)))
    obtain ⟨hbx, hfin⟩ := HR.out _ _ rfl rfl
    exact ro_end rfl hbx (HB.out 1 1 _ _ HK.out hfin)
  by_cases h1b : 64 < ow
  · skip
    rw [if_neg h0, if_pos (by omega)] at hK
    have HK := Lib.hid hK
    clear hK
    go_enter Tryd.func12, Tryd.ntmps12
    go_wp2_with ((first
      | (go_at_call 22; refine (oat_any 1 1 _ _ _ rfl rfl).mono ?_; rintro e wf ⟨b, rfl, a1, a2, a3, a4, aB⟩; obtain ⟨⟨z0, z1, u0, u1⟩, HR⟩ := rbo_of (x := 1) HX.out.2.2 HX.out.1 HX.out.2.1 a1 a2 a3 a4 aB; clear a1 a2 a3 a4 aB)))
    obtain ⟨hbx, hfin⟩ := HR.out _ _ rfl rfl
    exact ro_end rfl hbx (HB.out 1 1 _ _ HK.out hfin)
  by_cases h2 : s ≠ 1 ∧ s ≠ 2
  · obtain ⟨h2a, h2b⟩ := h2
    have t1 : (s != 1) = true := by simpa using h2a
    have t2 : (s != 2) = true := by simpa using h2b
    rw [if_neg h0, if_neg (by omega), if_pos ⟨h2a, h2b⟩] at hK
    have HK := Lib.hid hK
    clear hK
    go_enter Tryd.func12, Tryd.ntmps12
    go_wp2_with ((first
      | (go_at_call 22; refine (oat_any 2 1 _ _ _ rfl rfl).mono ?_; rintro e wf ⟨b, rfl, a1, a2, a3, a4, aB⟩; obtain ⟨⟨z0, z1, u0, u1⟩, HR⟩ := rbo_of (x := 1) HX.out.2.2 HX.out.1 HX.out.2.1 a1 a2 a3 a4 aB; clear a1 a2 a3 a4 aB)))
    obtain ⟨hbx, hfin⟩ := HR.out _ _ rfl rfl
    exact ro_end rfl hbx (HB.out 2 1 _ _ HK.out hfin)
  rw [if_neg h0, if_neg (by omega), if_neg h2] at hK
  rcases (show s = 1 ∨ s = 2 by omega) with rfl | rfl
  all_goals
    clear h2
    by_cases h3a : p < 1
    · skip
      rw [if_pos (by omega)] at hK
      have HK := Lib.hid hK
      clear hK
      go_enter Tryd.func12, Tryd.ntmps12
      go_wp2_with ((first
        | (go_at_call 22; refine (oat_any 3 1 _ _ _ rfl rfl).mono ?_; rintro e wf ⟨b, rfl, a1, a2, a3, a4, aB⟩; obtain ⟨⟨z0, z1, u0, u1⟩, HR⟩ := rbo_of (x := 1) HX.out.2.2 HX.out.1 HX.out.2.1 a1 a2 a3 a4 aB; clear a1 a2 a3 a4 aB)))
      obtain ⟨hbx, hfin⟩ := HR.out _ _ rfl rfl
      exact ro_end rfl hbx (HB.out 3 1 _ _ HK.out hfin)
    by_cases h3b : 1000000 < p
    · skip
      rw [if_pos (by omega)] at hK
      have HK := Lib.hid hK
      clear hK
      go_enter Tryd.func12, Tryd.ntmps12
      go_wp2_with ((first
        | (go_at_call 22; refine (oat_any 3 1 _ _ _ rfl rfl).mono ?_; rintro e wf ⟨b, rfl, a1, a2, a3, a4, aB⟩; obtain ⟨⟨z0, z1, u0, u1⟩, HR⟩ := rbo_of (x := 1) HX.out.2.2 HX.out.1 HX.out.2.1 a1 a2 a3 a4 aB; clear a1 a2 a3 a4 aB)))
      obtain ⟨hbx, hfin⟩ := HR.out _ _ rfl rfl
      exact ro_end rfl hbx (HB.out 3 1 _ _ HK.out hfin)
    rw [if_neg (by omega)] at hK
    cases on with
    | false =>
      rw [if_pos rfl] at hK
      have HK := Lib.hid hK
      clear hK
      go_enter Tryd.func12, Tryd.ntmps12
      go_wp2_with ((first
        | (go_at_call 30; refine HO.out.mono ?_; rintro e w2 ⟨rfl, hB2, k4, k6⟩)
        | (go_at_call 22; refine (oat_any 3 10 _ _ _ rfl rfl).mono ?_; rintro e wf ⟨b, rfl, a1, a2, a3, a4, aB⟩; obtain ⟨⟨z0, z1, u0, u1⟩, HR⟩ := rbo_of (x := 10) hB2.out.2.2 hB2.out.1 hB2.out.2.1 a1 a2 a3 a4 aB; clear a1 a2 a3 a4 aB)))
      obtain ⟨hbx, hfin⟩ := HR.out _ _ rfl rfl
      exact ro_end rfl hbx (HB.out 3 10 _ _ HK.out hfin)
    | true =>
      rw [if_neg (by simp)] at hK
      by_cases h4a : q < 1
      · skip
        rw [if_pos (by omega)] at hK
        have HK := Lib.hid hK
        clear hK
        go_enter Tryd.func12, Tryd.ntmps12
        go_wp2_with ((first
          | (go_at_call 30; refine HO.out.mono ?_; rintro e w2 ⟨rfl, hB2, k4, k6⟩)
          | (go_at_call 22; refine (oat_any 4 1 _ _ _ rfl rfl).mono ?_; rintro e wf ⟨b, rfl, a1, a2, a3, a4, aB⟩; obtain ⟨⟨z0, z1, u0, u1⟩, HR⟩ := rbo_of (x := 1) hB2.out.2.2 hB2.out.1 hB2.out.2.1 a1 a2 a3 a4 aB; clear a1 a2 a3 a4 aB)))
        obtain ⟨hbx, hfin⟩ := HR.out _ _ rfl rfl
        exact ro_end rfl hbx (HB.out 4 1 _ _ HK.out hfin)
      by_cases h4b : 1000000 < q
      · skip
        rw [if_pos (by omega)] at hK
        have HK := Lib.hid hK
        clear hK
        go_enter Tryd.func12, Tryd.ntmps12
        go_wp2_with ((first
          | (go_at_call 30; refine HO.out.mono ?_; rintro e w2 ⟨rfl, hB2, k4, k6⟩)
          | (go_at_call 22; refine (oat_any 4 1 _ _ _ rfl rfl).mono ?_; rintro e wf ⟨b, rfl, a1, a2, a3, a4, aB⟩; obtain ⟨⟨z0, z1, u0, u1⟩, HR⟩ := rbo_of (x := 1) hB2.out.2.2 hB2.out.1 hB2.out.2.1 a1 a2 a3 a4 aB; clear a1 a2 a3 a4 aB)))
        obtain ⟨hbx, hfin⟩ := HR.out _ _ rfl rfl
        exact ro_end rfl hbx (HB.out 4 1 _ _ HK.out hfin)
      rw [if_neg (by omega)] at hK
      by_cases h5a : lf < 1
      · skip
        rw [if_pos (by omega)] at hK
        have HK := Lib.hid hK
        clear hK
        go_enter Tryd.func12, Tryd.ntmps12
        go_wp2_with ((first
          | (go_at_call 30; refine HO.out.mono ?_; rintro e w2 ⟨rfl, hB2, k4, k6⟩)
          | (go_at_call 22; refine (oat_any 6 1 _ _ _ rfl rfl).mono ?_; rintro e wf ⟨b, rfl, a1, a2, a3, a4, aB⟩; obtain ⟨⟨z0, z1, u0, u1⟩, HR⟩ := rbo_of (x := 1) hB2.out.2.2 hB2.out.1 hB2.out.2.1 a1 a2 a3 a4 aB; clear a1 a2 a3 a4 aB)))
        obtain ⟨hbx, hfin⟩ := HR.out _ _ rfl rfl
        exact ro_end rfl hbx (HB.out 6 1 _ _ HK.out hfin)
      by_cases h5b : 4 < lf
      · skip
        rw [if_pos (by omega)] at hK
        have HK := Lib.hid hK
        clear hK
        go_enter Tryd.func12, Tryd.ntmps12
        go_wp2_with ((first
          | (go_at_call 30; refine HO.out.mono ?_; rintro e w2 ⟨rfl, hB2, k4, k6⟩)
          | (go_at_call 22; refine (oat_any 6 1 _ _ _ rfl rfl).mono ?_; rintro e wf ⟨b, rfl, a1, a2, a3, a4, aB⟩; obtain ⟨⟨z0, z1, u0, u1⟩, HR⟩ := rbo_of (x := 1) hB2.out.2.2 hB2.out.1 hB2.out.2.1 a1 a2 a3 a4 aB; clear a1 a2 a3 a4 aB)))
        obtain ⟨hbx, hfin⟩ := HR.out _ _ rfl rfl
        exact ro_end rfl hbx (HB.out 6 1 _ _ HK.out hfin)
      rw [if_neg (by omega)] at hK
      have HK := Lib.hid hK
      clear hK
      go_enter Tryd.func12, Tryd.ntmps12
      go_wp2_with ((first
        | (go_at_call 30; refine HO.out.mono ?_; rintro e w2 ⟨rfl, hB2, k4, k6⟩; obtain ⟨z0, z1, u0, u1⟩ := box_facts hB2.out.2.2)))
      exact ro_end rfl ((hB2.out.2.2.wrote 0 _).wrote 1 _) (HG.out _ HK.out ((hB2.out.1.setCell (p := ⟨w.heap.size + 1, 0, none⟩) (Nat.le_succ _) _).setCell (p := ⟨w.heap.size + 1, 1, none⟩) (Nat.le_succ _) _))
end Go.Proofs.YtegfionpeimecaaDoor
