/- The reference's In, Left; its rows that are read. -/
import Derived.Test.YtjfjdicdokdekaaDoorMsgRefDec
import Derived.Deep.QuietTactic
import Derived.BigQuiet
set_option linter.unusedSimpArgs false
namespace Go.Proofs.YtjfjdicdokdekaaDoor
open Go.RowKit Go.Mem1 Go.CodMath

theorem RDec.kept {w w' : World} {g : Nat} {L : List Nat} {s : St} {S : Nat → Prop} (h : RDec w g L s) (hc : Chg S w w') (hg : ¬ S g) (hlow : ∀ b, b < g → ¬ S b) (hP : ∀ b, (∃ s k, Box w b 84 #[.string s, .int .i64 k]) → ¬ S b) : RDec w' g L s := by
  rcases h with ⟨a1, a2, a3, a4, A, c, hb, hy⟩ | ⟨a1, a2, v, q, bP, pc, hb, hp⟩
  · exact .inl ⟨a1, a2, a3, a4, A, c, hb.kept hc hg, hy.low hc (fun b hb => hlow b hb)⟩
  · exact .inr ⟨a1, a2, v, q, bP, pc, hb.kept hc hg, hp.kept hc (hP bP ⟨_, _, hp⟩)⟩
theorem RDec.below {w w' : World} {g : Nat} {L : List Nat} {s : St} (h : RDec w g L s) (hb : Below w.heap.size w w') : RDec w' g L s :=
  h.kept (Chg.of_below hb (fun _ => False)) (fun h => h) (fun _ _ h => h) (fun _ _ h => h)
theorem RDec.there {w : World} {g : Nat} {L : List Nat} {s : St} (h : RDec w g L s) : g < w.heap.size := by
  rcases h with ⟨_, _, _, _, A, c, hb, _⟩ | ⟨_, _, v, q, bP, pc, hb, _⟩
  · exact hb.there
  · exact hb.there
theorem RDec.bad3 {w : World} {g : Nat} {L : List Nat} {s : St} (h : RDec w g L s) : w.cell? ⟨g, 3, none⟩ = some (.int .i64 (s.e : Int)) := by
  rcases h with ⟨a1, _, _, _, A, c, hb, _⟩ | ⟨_, _, v, q, bP, pc, hb, _⟩
  · rw [a1]; exact (hb.reads 3).trans rfl
  · exact (hb.reads 3).trans rfl
set_option maxHeartbeats 1000000 in
theorem refLeft_ok (g : Nat) (L : List Nat) (s : St) (w : World) (h : RDec w g L s) (he : s.e = 0) :
    Calls Tryd.prog 54 #[.pointer (some ⟨g, 0, none⟩)] w fun e w' => e = .returned (.int .i64 (s.l.length : Int)) ∧ Below w.heap.size w w' := by
  rcases h with ⟨_, hl, hp, hL, A, c, hb, _⟩ | h
  · have c0 := (hb.reads 0).trans (show _ = some (Value.slice A L.length c) from rfl)
    have c1 := (hb.reads 1).trans (show _ = some (Value.int .i64 (s.p : Int)) from rfl)
    have c3 := (hb.reads 3).trans (show _ = some (Value.int .i64 0) from rfl)
    have hlen : (s.l.length : Int) = (L.length : Int) - (s.p : Int) := by rw [hl, List.length_drop]; omega
    rw [hlen]
    clear hb hl hlen
    generalize L.length = n at *
    generalize s.p = p at *
    go_enter Tryd.func54, Tryd.ntmps54
    go_wp2_with fail
    go_quiet (fail)
    go_wp2_with fail
    go_ret
    exact ⟨rfl, ⟨rfl, rfl, rfl, Nat.le_refl _, fun _ _ => rfl⟩⟩
  · exact absurd he h.1
/-- In: one part more ahead. -/
def InBox (w : World) (l : List (ByteArray × Int)) (x : Int) (e : Ending) (w' : World) : Prop :=
  ∃ A n c, e = .returned (.agg #[.slice A n c, .int .i64 x]) ∧ PartsAt w' w'.heap.size A n l ∧ Below w.heap.size w w'
theorem part_info : (Tryd.prog.info? 84).map (fun i => (i.zero, i.size, i.bytes)) = some (some (.agg #[.string ByteArray.empty, .int .i64 0]), 2, 24) := by kernel_rfl
set_option maxRecDepth 100000 in
set_option maxHeartbeats 1000000 in
theorem refIn_one (s s2 : ByteArray) (k k2 x : Int) (bP pc : Nat) (w : World) (h : Box w bP 84 #[.string s2, .int .i64 k2]) :
    Calls Tryd.prog 22 #[.string s, .int .i64 k, .agg #[.slice (some ⟨bP, 0, none⟩) 1 pc, .int .i64 x]] w (InBox w [(s, k), (s2, k2)] x) := by
  obtain ⟨i0, hi0, hz0, hz1, hz2⟩ := info_parts part_info
  have H := Lib.hid h
  clear h
  go_enter Tryd.func22, Tryd.ntmps22
  go_wp2_with fail
  have hbP : Box ((w.alloc (.cells #[.slice (some ⟨bP, 0, none⟩) 1 pc, .int .i64 x] 29)).alloc (.cells #[.slice none 0 0, .int .i64 0] 29)) w.heap.size 29 #[.slice (some ⟨bP, 0, none⟩) 1 pc, .int .i64 x] := (Box.fresh w _ _ rfl).kept_below (bel_new _ _) (by simp)
  have hbR : Box ((w.alloc (.cells #[.slice (some ⟨bP, 0, none⟩) 1 pc, .int .i64 x] 29)).alloc (.cells #[.slice none 0 0, .int .i64 0] 29)) (w.heap.size + 1) 29 #[.slice none 0 0, .int .i64 0] := Box.fresh _ _ _ (by simp)
  have hB : Below w.heap.size w ((w.alloc (.cells #[.slice (some ⟨bP, 0, none⟩) 1 pc, .int .i64 x] 29)).alloc (.cells #[.slice none 0 0, .int .i64 0] 29)) := bel_alloc (bel_new w _) _
  have hsz : ((w.alloc (.cells #[.slice (some ⟨bP, 0, none⟩) 1 pc, .int .i64 x] 29)).alloc (.cells #[.slice none 0 0, .int .i64 0] 29)).heap.size = w.heap.size + 2 := by simp
  generalize ((w.alloc (.cells #[.slice (some ⟨bP, 0, none⟩) 1 pc, .int .i64 x] 29)).alloc (.cells #[.slice none 0 0, .int .i64 0] 29)) = W at *
  have p0 := (hbP.reads 0).trans (show _ = some (Value.slice (some ⟨bP, 0, none⟩) 1 pc) from rfl)
  have p1 := (hbP.reads 1).trans (show _ = some (Value.int .i64 x) from rfl)
  have p0' : ∀ o, (W.drew.alloc o).cell? ⟨w.heap.size, 0, none⟩ = some (.slice (some ⟨bP, 0, none⟩) 1 pc) := fun o => ((bel_new W.drew o).cell (p := ⟨w.heap.size, 0, none⟩) (by show w.heap.size < W.heap.size; omega)).trans p0
  have p1' : ∀ o, (W.drew.alloc o).cell? ⟨w.heap.size, 1, none⟩ = some (.int .i64 x) := fun o => ((bel_new W.drew o).cell (p := ⟨w.heap.size, 1, none⟩) (by show w.heap.size < W.heap.size; omega)).trans p1
  have hsrc : Box (W.drew.alloc (.cells #[.string s, .int .i64 k] 84)) bP 84 #[.string s2, .int .i64 k2] := ((H.out.kept_below hB H.out.there).kept_below (Below.refl W.heap.size W).drew (by have := H.out.there; omega)).kept_below (bel_new W.drew _) (by show bP < W.heap.size; have := H.out.there; omega)
  have hown : (W.drew.alloc (.cells #[.string s, .int .i64 k] 84)).ownsRow W.heap.size 84 2 (.slice (some ⟨W.heap.size, 0, none⟩) 1 1) 1 [.string s, .int .i64 k] := ⟨rfl, .inr ⟨W.heap.size, 1, _, rfl, Nat.le_refl _, heap_alloc_new W.drew _, Nat.le_refl _, by unfold maxLen; omega, rfl, rfl⟩⟩
  have hnews : ∀ j u, [Value.string s2, Value.int .i64 k2][j]? = some u → (W.drew.alloc (.cells #[.string s, .int .i64 k] 84)).cell? ((⟨bP, 0, none⟩ : Addr).add j) = some u := by
    intro j u hu
    match j, hu with
    | 0, hu => injection hu with hu; subst hu; simpa [Addr.add] using hsrc.reads 0
    | 1, hu => injection hu with hu; subst hu; simpa [Addr.add] using hsrc.reads 1
    | j + 2, hu => simp at hu
  rw [hsz] at hown
  have HOW := Lib.hid hown
  have HNW := Lib.hid hnews
  have HBR := Lib.hid hbR
  have HBP := Lib.hid hbP
  have HB := Lib.hid hB
  clear hown hnews hsrc hbR hbP hB
  go_region_law (refine step_append_at rfl (.tmp 10) (.tmp 12) _ rfl (w.heap.size + 2) 84 i0 _ 2 24 Tryd.underlying27 hi0 hz0 hz1 hz2 rfl (by omega) (.slice (some ⟨w.heap.size + 2, 0, none⟩) 1 1) 1 _ rfl HOW.out ⟨bP, 0, none⟩ 1 pc [.string s2, .int .i64 k2] rfl rfl HNW.out (by intro u hu; simp at hu; rcases hu with rfl | rfl <;> rfl) (by simp only [maxLen]; omega) (by omega) (by show w.heap.size + 2 ≤ (W.drew.alloc _).heap.size; simp; omega) ?_; intro v7 w7 hown7 hgr7 _; obtain ⟨A7, c7, rfl⟩ := own_slice hown7; have hc7 : Chg (fun i => some i = (Value.slice (some ⟨w.heap.size + 2, 0, none⟩) 1 1).ownBlock) W w7 := ((Chg.refl _ W).drew.alloc _).grown hgr7 (fun _ _ e => e); have hq7 := HBR.out.kept hc7 (fun e => by injection e with e; have : w.heap.size + 1 = w.heap.size + 2 := e; omega); have hp7 := HBP.out.kept hc7 (fun e => by injection e with e; have : w.heap.size = w.heap.size + 2 := e; omega); have H7 := Lib.hid hown7; have HC7 := Lib.hid hc7; have HQ7 := Lib.hid hq7; have m1 := (hp7.reads 1).trans (show _ = some (Value.int .i64 x) from rfl); have r0 := (hq7.reads 0).trans (show _ = some (Value.slice none 0 0) from rfl); have r1 := (hq7.reads 1).trans (show _ = some (Value.int .i64 0) from rfl); have f0 := hq7.unmarked 0; have f1 := hq7.unmarked 1; clear hown7 hgr7 hc7 hq7 hp7)
  all_goals
    go_wp2_with fail
    rw [set2_def]
    have hb9 := set2_box HQ7.out (.slice A7 2 c7) (.int .i64 x)
    have hch := set2_chg w7 (w.heap.size + 1) (.slice A7 2 c7) (.int .i64 x)
    have hsz9 := set2_size w7 (w.heap.size + 1) (.slice A7 2 c7) (.int .i64 x)
    have hb7 : Below w.heap.size w w7 := HB.out.trans (HC7.out.small (by omega) (fun i hi e => by injection e with e; have : i = w.heap.size + 2 := e; omega))
    have fin : InBox w [(s, k), (s2, k2)] x (.returned (.agg #[.slice A7 2 c7, .int .i64 x])) (set2 w7 (w.heap.size + 1) (.slice A7 2 c7) (.int .i64 x)) := by
      refine ⟨A7, 2, c7, rfl, ⟨rfl, fun i y hi => ?_⟩, Chg.toBelow hb7 hch hb7.size (fun i hi e => by omega)⟩
      rcases H7.out.2 with ⟨_, h0⟩ | ⟨g, cap, cur, hv, hbb, hg, _⟩
      · omega
      · injection hv with hA _ _
        subst hA
        have hlt : g < w7.heap.size := (Array.getElem?_eq_some_iff.1 hg).1
        have hcell : ∀ j u, [Value.string s, Value.int .i64 k, Value.string s2, Value.int .i64 k2][j]? = some u → (set2 w7 (w.heap.size + 1) (.slice (some ⟨g, 0, none⟩) 2 c7) (.int .i64 x)).cell? ⟨g, 0 + j, none⟩ = some u := by
          intro j u hu
          have h1 := H7.out.cells (g := g) rfl j u hu
          refine hch.cell (p := ⟨g, 0 + j, none⟩) ?_ (by show g ≠ w.heap.size + 1; omega)
          rcases Nat.eq_zero_or_pos j with h0 | h0
          · subst h0; simpa [Addr.add] using h1
          · simpa [Addr.add, show j ≠ 0 by omega] using h1
        match i, hi with
        | 0, hi =>
          injection hi with hi
          subst hi
          exact ⟨g, 0, rfl, by rw [hsz9]; exact hlt, hcell 0 _ rfl, hcell 1 _ rfl⟩
        | 1, hi =>
          injection hi with hi
          subst hi
          exact ⟨g, 0, rfl, by rw [hsz9]; exact hlt, hcell 2 _ rfl, hcell 3 _ rfl⟩
        | j + 2, hi => simp at hi
    generalize set2 w7 (w.heap.size + 1) (.slice A7 2 c7) (.int .i64 x) = W9 at *
    have q0 := (hb9.reads 0).trans (show _ = some (Value.slice A7 2 c7) from rfl)
    have q1 := (hb9.reads 1).trans (show _ = some (Value.int .i64 x) from rfl)
    exact bodyPost_ret (v := .agg #[.slice A7 2 c7, .int .i64 x]) (by simp [results, Tryd.results22, go_sem, q0, q1]) rfl fin
end Go.Proofs.YtjfjdicdokdekaaDoor
