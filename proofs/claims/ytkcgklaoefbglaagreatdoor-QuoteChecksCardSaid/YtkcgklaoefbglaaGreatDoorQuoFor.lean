/- Forget: a number struck from the slot that has it. -/
import Derived.Test.YtkcgklaoefbglaaGreatDoorQuoMem
import Derived.Deep.RegionHeld3
import Derived.Deep.RegionLaw
import Derived.StillTailTactics
set_option linter.unusedSimpArgs false
namespace Go.Proofs.YtkcgklaoefbglaaGreatDoor
open Go.RowKit Go.Mem1 Go.MapRow Go.QuoMath

theorem chg_turned {w w' : World} {b : Nat} (h : Turned w w' b) : Chg (fun j => j = b) w w' := by
  obtain ⟨es, c, es', c', hb, rfl⟩ := h
  exact ⟨rfl, rfl, rfl, by simp, fun k _ hn => (MapKept.heap_set hb).2 k hn⟩
theorem chg_own1 {w w' : World} {g : Nat} {m : Option (Nat × Nat)} {p : Nat × Nat} (hp : m = some p) (h : Chg (fun j => j = p.1) w w') : Chg (Own g m) w w' := h.mono (fun _ _ e => .inr ⟨p, hp, .inl e⟩)
theorem chg_own2 {w w' : World} {g : Nat} {m : Option (Nat × Nat)} {p : Nat × Nat} (hp : m = some p) (h : Chg (fun j => j = p.2) w w') : Chg (Own g m) w w' := h.mono (fun _ _ e => .inr ⟨p, hp, .inr e⟩)
section
variable {w : World} {B g : Nat} {p : Nat × Nat} {Q : QL} {S : SL}
/-- The desk behind a turn of its quotes. -/
theorem DeskAt.turnQ {m : Option (Nat × Nat)} (h : DeskAt w B g m Q S) (hp : m = some p) {w' : World} {Q' : QL} (hm : MapIs Tryz.prog 47 slV prV w' p.1 Q') (ht : Turned w w' p.1) (hf : ∀ x ∈ Q', OkP x.2) : DeskAt w' B g m Q' S := by
  have hc := chg_turned ht
  obtain ⟨h1, h2, h3⟩ := h.maps p hp
  refine ⟨h.box.kept hc (fun e => (h.off_map hp).1 e.symm), h.low, ⟨hf, h.fine.sls⟩, (fun e => by rw [hp] at e; cases e), fun p' hp' => ?_⟩
  have e : p' = p := by rw [hp] at hp'; injection hp' with e; exact e.symm
  subst e
  exact ⟨h1, hm, h3.of_block (hc.block _ h3.lt (fun e => h1 e.symm))⟩
theorem DeskAt.turnS {m : Option (Nat × Nat)} (h : DeskAt w B g m Q S) (hp : m = some p) {w' : World} {S' : SL} (hm : MapIs Tryz.prog 2 idV slV w' p.2 S') (ht : Turned w w' p.2) (hf : ∀ x ∈ S', OkP x.2) : DeskAt w' B g m Q S' := by
  have hc := chg_turned ht
  obtain ⟨h1, h2, h3⟩ := h.maps p hp
  refine ⟨h.box.kept hc (fun e => (h.off_map hp).2 e.symm), h.low, ⟨h.fine.prs, hf⟩, (fun e => by rw [hp] at e; cases e), fun p' hp' => ?_⟩
  have e : p' = p := by rw [hp] at hp'; injection hp' with e; exact e.symm
  subst e
  exact ⟨h1, h2.of_block (hc.block _ h2.lt (fun e => h1 e)), hm⟩
/-- The four writes. -/
theorem DeskAt.putQ (h : DeskAt w B g (some p) Q S) {s : Sl} (hs : OkP s) {x : Pr} (hx : OkP x) :
    ∃ w', (Instr.mapUpdate 70 (.map (some p.1)) (slV s) (prV x)).run Tryz.prog w = .ok () w' ∧ DeskAt w' B g (some p) (fput Q s x) S ∧ Chg (Own g (some p)) w w' := by
  obtain ⟨w', h1, h2, h3⟩ := (h.maps p rfl).2.1.store keyS slV_inj Tryz.underlying70 (okS_key hs) x
  exact ⟨w', h1, h.turnQ rfl h2 h3 (fput_all (R := OkP) h.fine.prs hx), chg_own1 rfl (chg_turned h3)⟩
theorem DeskAt.delQ (h : DeskAt w B g (some p) Q S) {s : Sl} (hs : OkP s) :
    ∃ w', (∀ ty, (Builtin.delete_ #[70, 47] ty #[.map (some p.1), slV s]).run Tryz.prog w = .ok (.tuple #[]) w') ∧ DeskAt w' B g (some p) (fdel Q s) S ∧ Chg (Own g (some p)) w w' := by
  obtain ⟨w', h1, h2, h3⟩ := (h.maps p rfl).2.1.drop keyS slV_inj Tryz.underlying70 (okS_key hs)
  exact ⟨w', h1, h.turnQ rfl h2 h3 (fdel_all (R := OkP) h.fine.prs), chg_own1 rfl (chg_turned h3)⟩
theorem DeskAt.putS (h : DeskAt w B g (some p) Q S) {id : Int} (hi : OkI id) {s : Sl} (hs : OkP s) :
    ∃ w', (Instr.mapUpdate 71 (.map (some p.2)) (idV id) (slV s)).run Tryz.prog w = .ok () w' ∧ DeskAt w' B g (some p) Q (fput S id s) ∧ Chg (Own g (some p)) w w' := by
  obtain ⟨w', h1, h2, h3⟩ := (h.maps p rfl).2.2.store keyI idV_inj Tryz.underlying71 (okI_key hi) s
  exact ⟨w', h1, h.turnS rfl h2 h3 (fput_all (R := OkP) h.fine.sls hs), chg_own2 rfl (chg_turned h3)⟩
theorem DeskAt.delS (h : DeskAt w B g (some p) Q S) {id : Int} (hi : OkI id) :
    ∃ w', (∀ ty, (Builtin.delete_ #[71, 2] ty #[.map (some p.2), idV id]).run Tryz.prog w = .ok (.tuple #[]) w') ∧ DeskAt w' B g (some p) Q (fdel S id) ∧ Chg (Own g (some p)) w w' := by
  obtain ⟨w', h1, h2, h3⟩ := (h.maps p rfl).2.2.drop keyI idV_inj Tryz.underlying71 (okI_key hi)
  exact ⟨w', h1, h.turnS rfl h2 h3 (fdel_all (R := OkP) h.fine.sls), chg_own2 rfl (chg_turned h3)⟩
end
theorem DeskAt.kept {w w' : World} {B g : Nat} {m : Option (Nat × Nat)} {Q : QL} {S : SL} (h : DeskAt w B g m Q S) {X : Nat → Prop} (hc : Chg X w w') (hX : ∀ j, Own g m j → ¬ X j) : DeskAt w' B g m Q S :=
  ⟨h.box.kept hc (hX g (.inl rfl)), h.low, h.fine, h.bare, fun p hp => ⟨(h.maps p hp).1, (h.maps p hp).2.1.of_block (hc.block _ (h.maps p hp).2.1.lt (hX _ (.inr ⟨p, hp, .inl rfl⟩))), (h.maps p hp).2.2.of_block (hc.block _ (h.maps p hp).2.2.lt (hX _ (.inr ⟨p, hp, .inr rfl⟩)))⟩⟩
/-- Two cells of a box of the caller's own set. -/
theorem DeskAt.put2 {w : World} {B g : Nat} {m : Option (Nat × Nat)} {Q : QL} {S : SL} (h : DeskAt w B g m Q S) {k : Nat} {t : TypeId} {cs : Array Value} (hx : Box w k t cs) (ht : t ≠ 73) (u v : Value) : DeskAt ((w.setCell ⟨k, 0, none⟩ u).setCell ⟨k, 1, none⟩ v) B g m Q S :=
  h.kept (X := fun j => j = k) (Chg.setCell (S := fun j => j = k) (Chg.setCell (S := fun j => j = k) (Chg.refl _ _) (p := ⟨k, 0, none⟩) (fun _ => rfl) u) (p := ⟨k, 1, none⟩) (fun _ => rfl) v) (fun _ hj e => h.off hx ht (e ▸ hj))
theorem cell?_put2 {w : World} {k : Nat} {t : TypeId} {a b u v : Value} (hx : Box w k t #[a, b]) : ((w.setCell ⟨k, 0, none⟩ u).setCell ⟨k, 1, none⟩ v).cell? ⟨k, 0, none⟩ = some u ∧ ((w.setCell ⟨k, 0, none⟩ u).setCell ⟨k, 1, none⟩ v).cell? ⟨k, 1, none⟩ = some v := by
  have h := (hx.wrote 0 u).wrote 1 v
  exact ⟨(h.reads 0).trans rfl, (h.reads 1).trans rfl⟩
/-- What Forget leaves. -/
def Forgot (w : World) (B g : Nat) (m : Option (Nat × Nat)) (Q : QL) (S : SL) (id : Int) (e : Ending) (w' : World) : Prop :=
  e = .returned (.tuple #[slV ((fget S id).getD (0, 0)), .bool (fget S id).isSome]) ∧ DeskAt w' B g m (forQ Q S id) (forS S id) ∧ Chg (Own g m) w w'
set_option maxHeartbeats 1000000 in
set_option maxRecDepth 100000 in
theorem forget_none {w : World} {B g : Nat} {m : Option (Nat × Nat)} {Q : QL} {S : SL} (h : DeskAt w B g m Q S) {id : Int} (hi : OkI id) (hn : fget S id = none) :
    Calls Tryz.prog 14 #[.pointer (some ⟨g, 0, none⟩), .int .i64 id] w (Forgot w B g m Q S id) := by
  have hF : Forgot w B g m Q S id = fun e w' => e = .returned (.tuple #[.agg #[.int .i64 0, .int .i64 0], .bool false]) ∧ DeskAt w' B g m Q S ∧ Chg (Own g m) w w' := by
    unfold Forgot forQ forS
    rw [hn]
    rfl
  rw [hF]
  have B1 : Below w.heap.size w (w.alloc (.cells #[.int .i64 0, .int .i64 0] 47)) := bel_new _ _
  have LK := (h.carry B1).lookS hi
  rw [hn] at LK
  have c1 : ∀ o, (w.alloc o).cell? ⟨g, 1, none⟩ = some (.map (m.map (·.2))) := fun o => (((h.carry (bel_new w o)).box.reads 1).trans rfl)
  obtain ⟨v, hv⟩ : ∃ v, m.map (·.2) = v := ⟨_, rfl⟩
  rw [hv] at LK c1
  replace LK : (Instr.lookup 71 (.map v) (.int .i64 id) true).run Tryz.prog (w.alloc (.cells #[.int .i64 0, .int .i64 0] 47)) = .ok (.tuple #[.agg #[.int .i64 0, .int .i64 0], .bool false]) (w.alloc (.cells #[.int .i64 0, .int .i64 0] 47)) := LK
  have H := Lib.hid h
  clear h hn hF hv B1
  go_enter Tryz.func14, Tryz.ntmps14
  go_wp2_with (at_lookup; refine wpList_lookup_run rfl _ _ _ _ rfl (.map v) (.int .i64 id) _ rfl rfl LK ?_)
  refine bodyPost_ret (v := .tuple #[.agg #[.int .i64 0, .int .i64 0], .bool false]) (by simp [results, Tryz.results14, go_sem]) rfl ⟨rfl, H.out.carry (bel_alloc (bel_new _ _) _), Chg.of_below (bel_alloc (bel_new _ _) _) _⟩
/-- What is known behind the number's delete. -/
def ForK (w3 : World) (g r4 r6 : Nat) (p : Nat × Nat) (s : Sl) : Prop := ∀ w', Below w3.heap.size w3 w' →
  w'.cell? ⟨g, 0, none⟩ = some (.map (some p.1)) ∧ w'.cell? ⟨r6, 0, none⟩ = some (.int .i64 s.1) ∧ w'.cell? ⟨r6, 1, none⟩ = some (.int .i64 s.2) ∧
  w'.cell? ⟨r4, 0, none⟩ = some (.int .i64 0) ∧ w'.cell? ⟨r4, 1, none⟩ = some (.int .i64 0) ∧ w'.frozen? ⟨r4, 0, none⟩ = false ∧ w'.frozen? ⟨r4, 1, none⟩ = false
/-- A pair's box behind a world, in a later one. -/
structure PairAt (w3 : World) (r8 : Nat) (w6 : World) (x y : Int) : Prop where
  bel : Below w3.heap.size w3 w6
  box : Box w6 r8 75 #[.int .i64 x, .int .i64 y]
  high : w3.heap.size ≤ r8
theorem PairAt.made {w3 w5 : World} {x y : Int} (h : Below w3.heap.size w3 w5) : PairAt w3 w5.heap.size (w5.alloc (.cells #[.int .i64 x, .int .i64 y] 75)) x y := ⟨bel_alloc h _, Box.fresh _ _ _ rfl, h.size⟩
theorem PairAt.wrote {w3 w5 : World} {r8 : Nat} {x y : Int} (h : PairAt w3 r8 w5 x y) (x' y' : Int) : PairAt w3 r8 ((w5.setCell ⟨r8, 0, none⟩ (.int .i64 x')).setCell ⟨r8, 1, none⟩ (.int .i64 y')) x' y' := by
  refine ⟨?_, (h.box.wrote 0 _).wrote 1 _, h.high⟩
  have hc : Chg (fun j => j = r8) w5 ((w5.setCell ⟨r8, 0, none⟩ (.int .i64 x')).setCell ⟨r8, 1, none⟩ (.int .i64 y')) := Chg.setCell (S := fun j => j = r8) (Chg.setCell (S := fun j => j = r8) (Chg.refl _ _) (p := ⟨r8, 0, none⟩) (fun _ => rfl) _) (p := ⟨r8, 1, none⟩) (fun _ => rfl) _
  exact Chg.toBelow h.bel hc h.bel.size (fun i hi e => by have := h.high; omega)
set_option maxRecDepth 100000 in
set_option maxHeartbeats 2000000 in
theorem forget_gone {w : World} {B g : Nat} {p : Nat × Nat} {Q : QL} {S : SL} (h : DeskAt w B g (some p) Q S) {id : Int} (hi : OkI id) {s : Sl} (hs : fget S id = some s) {x y : Int} (hq : wo (prOf Q s) id = (x, y)) (hz : x = 0 ∧ y = 0) :
    Calls Tryz.prog 14 #[.pointer (some ⟨g, 0, none⟩), .int .i64 id] w (Forgot w B g (some p) Q S id) := by
  have hok : OkP s := h.fine.slot hs
  obtain ⟨s1, s2⟩ := s
  have hF : Forgot w B g (some p) Q S id = fun e w' => e = .returned (.tuple #[.agg #[.int .i64 s1, .int .i64 s2], .bool true]) ∧ DeskAt w' B g (some p) (fdel Q (s1, s2)) (fdel S id) ∧ Chg (Own g (some p)) w w' := by
    unfold prOf at hq
    unfold Forgot forQ forS
    rw [hs]
    dsimp only
    rw [hq, hz.1, hz.2, if_pos rfl]
    rfl
  rw [hF]
  obtain ⟨b1, b2⟩ := p
  have B1 : Below w.heap.size w (w.alloc (.cells #[.int .i64 0, .int .i64 0] 47)) := bel_new _ _
  have B2 : Below w.heap.size w ((w.alloc (.cells #[.int .i64 0, .int .i64 0] 47)).alloc (.cells #[.int .i64 s1, .int .i64 s2] 47)) := bel_alloc (bel_new _ _) _
  have LK := (h.carry B1).lookS hi
  rw [hs] at LK
  replace LK : (Instr.lookup 71 (.map (some b2)) (.int .i64 id) true).run Tryz.prog (w.alloc (.cells #[.int .i64 0, .int .i64 0] 47)) = .ok (.tuple #[.agg #[.int .i64 s1, .int .i64 s2], .bool true]) (w.alloc (.cells #[.int .i64 0, .int .i64 0] 47)) := LK
  have c1 : ∀ o, (w.alloc o).cell? ⟨g, 1, none⟩ = some (.map (some b2)) := fun o => ((h.carry (bel_new w o)).box.reads 1).trans rfl
  have c1' : ∀ o o', ((w.alloc o).alloc o').cell? ⟨g, 1, none⟩ = some (.map (some b2)) := fun o o' => ((h.carry (bel_alloc (bel_new w o) o')).box.reads 1).trans rfl
  have X4 : Box ((w.alloc (.cells #[.int .i64 0, .int .i64 0] 47)).alloc (.cells #[.int .i64 s1, .int .i64 s2] 47)) w.heap.size 47 #[.int .i64 0, .int .i64 0] := (Box.fresh w _ _ rfl).kept_below (bel_new _ _) (by simp)
  have X6 : Box ((w.alloc (.cells #[.int .i64 0, .int .i64 0] 47)).alloc (.cells #[.int .i64 s1, .int .i64 s2] 47)) (w.heap.size + 1) 47 #[.int .i64 s1, .int .i64 s2] := Box.fresh _ _ _ (by simp)
  have D2 := h.carry B2
  obtain ⟨w3, hd, D3, C3⟩ := D2.delS hi
  have Y4 := X4.kept C3 (D2.off X4 (by decide))
  have Y6 := X6.kept C3 (D2.off X6 (by decide))
  have K : ForK w3 g w.heap.size (w.heap.size + 1) (b1, b2) (s1, s2) := fun w' hb => ⟨((D3.carry hb).box.reads 0).trans rfl, ((Y6.kept_below hb Y6.there).reads 0).trans rfl, ((Y6.kept_below hb Y6.there).reads 1).trans rfl,
    ((Y4.kept_below hb Y4.there).reads 0).trans rfl, ((Y4.kept_below hb Y4.there).reads 1).trans rfl, (Y4.kept_below hb Y4.there).unmarked 0, (Y4.kept_below hb Y4.there).unmarked 1⟩
  have C03 : Chg (Own g (some (b1, b2))) w w3 := (Chg.of_below B2 _).then C3 (fun _ _ h => h)
  have HK := Lib.hid K
  have HD3 := Lib.hid D3
  have HC := Lib.hid C03
  obtain ⟨⟨q1, q2⟩, hq0⟩ : ∃ q, prOf Q (s1, s2) = q := ⟨_, rfl⟩
  rw [hq0] at hq
  replace hq0 := Lib.hid hq0
  have HQ := Lib.hid hq
  have HZ := Lib.hid hz
  have HY4 := Lib.hid Y4
  have HY6 := Lib.hid Y6
  clear hz h hF B1 B2 X4 X6 D2 D3 C3 Y4 Y6 K C03 hq hs
  go_enter Tryz.func14, Tryz.ntmps14
  go_wp2_with (first
    | (at_lookup; refine wpList_lookup_run rfl _ _ _ _ rfl (.map (some b2)) (.int .i64 id) _ rfl rfl LK ?_)
    | (at_delete; refine wpList_delete_run rfl _ _ _ _ rfl (.map (some b2)) (.int .i64 id) rfl rfl hd ?_))
  obtain ⟨k0, k1, k2, k3, k4, k5, k6⟩ := HK.out _ (Below.refl _ _)
  have KS : ∀ w', Below w3.heap.size w3 w' → (w'.cell? ⟨g, 0, none⟩ = some (.map (some b1)) ∧ w'.cell? ⟨w.heap.size + 1, 0, none⟩ = some (.int .i64 s1) ∧ w'.cell? ⟨w.heap.size + 1, 1, none⟩ = some (.int .i64 s2) ∧
      (Instr.lookup 70 (.map (some b1)) (.agg #[.int .i64 s1, .int .i64 s2]) false).run Tryz.prog w' = .ok (.agg #[.int .i64 q1, .int .i64 q2]) w') := fun w' hb => by
    obtain ⟨a0, a1, a2, _⟩ := HK.out w' hb
    have lq := ((HD3.out.carry hb).lookQ hok).1
    rw [hq0.out] at lq
    exact ⟨a0, a1, a2, lq⟩
  have HS := Lib.hid KS
  have WO : ∀ w', Below w3.heap.size w3 w' → Calls Tryz.prog 26 #[.agg #[.int .i64 q1, .int .i64 q2], .int .i64 id] w' fun e w2 => e = .returned (.agg #[.int .i64 x, .int .i64 y]) ∧ Hid (Below w3.heap.size w3 w2) := fun w' hb =>
    (wo_any (q1, q2) id w').mono fun e w2 he => by rw [HQ.out] at he; exact ⟨he.1, bel_trans hb he.2⟩
  have WO2 : Calls Tryz.prog 26 #[.agg #[.int .i64 q1, .int .i64 q2], .int .i64 id] (w3.alloc (.cells #[.int .i64 0, .int .i64 0] 75)).drew fun e w2 => e = .returned (.agg #[.int .i64 x, .int .i64 y]) ∧ Hid (PairAt w3 w3.heap.size w2 0 0) ∧
      w2.cell? ⟨w3.heap.size, 0, none⟩ = some (.int .i64 0) ∧ w2.cell? ⟨w3.heap.size, 1, none⟩ = some (.int .i64 0) ∧ w2.frozen? ⟨w3.heap.size, 0, none⟩ = false ∧ w2.frozen? ⟨w3.heap.size, 1, none⟩ = false :=
    (wo_any (q1, q2) id _).mono fun e w2 he => by
      rw [HQ.out] at he
      have hx : Box (w3.alloc (.cells #[.int .i64 0, .int .i64 0] 75)).drew w3.heap.size 75 #[.int .i64 0, .int .i64 0] := Box.fresh w3 _ _ rfl
      have hy := hx.kept_below he.2 hx.there
      exact ⟨he.1, ⟨bel_trans (bel_new w3 _).drew he.2, hy, Nat.le_refl _⟩, (hy.reads 0).trans rfl, (hy.reads 1).trans rfl, hy.unmarked 0, hy.unmarked 1⟩
  have S3 := KS w3.drew (Below.refl _ _).drew
  go_region_held3 (fun w' => w'.cell? ⟨g, 0, none⟩ = some (.map (some b1)) ∧ w'.cell? ⟨w.heap.size + 1, 0, none⟩ = some (.int .i64 s1) ∧ w'.cell? ⟨w.heap.size + 1, 1, none⟩ = some (.int .i64 s2) ∧
      (Instr.lookup 70 (.map (some b1)) (.agg #[.int .i64 s1, .int .i64 s2]) false).run Tryz.prog w' = .ok (.agg #[.int .i64 q1, .int .i64 q2]) w')
    (first | exact S3 | exact HS.out _ (bel_new w3 _).drew | exact HS.out _ B5.out | exact HS.out _ (bel_alloc B5.out _) | exact HS.out _ B5.out.bel | exact HS.out _ (B5.out.wrote x y).bel)
    (first
      | (go_at_call 26; refine (WO w3.drew (Below.refl _ _).drew).mono ?_; rintro e w5 ⟨rfl, B5⟩)
      | (go_at_call 26; refine WO2.mono ?_; rintro e w5 ⟨rfl, B5, n0, n1, n2, n3⟩))
  all_goals first
    | (have HP := Lib.hid (PairAt.made (x := x) (y := y) B5.out); generalize w5.alloc (.cells #[.int .i64 x, .int .i64 y] 75) = w6 at HP ⊢; generalize w5.heap.size = r8 at HP ⊢)
    | (have HP := Lib.hid (B5.out.wrote x y); generalize (w5.setCell ⟨w3.heap.size, 0, none⟩ (.int .i64 x)).setCell ⟨w3.heap.size, 1, none⟩ (.int .i64 y) = w6 at HP ⊢; generalize w3.heap.size = r8 at HP ⊢)
  all_goals clear LK c1 c1' hd k0 k1 k2 k3 k4 k5 k6 KS HS WO WO2 S3
  all_goals
    have D6 := HD3.out.carry HP.out.bel.drew
    have Z4 := HY4.out.kept_below HP.out.bel.drew HY4.out.there
    have Z6 := HY6.out.kept_below HP.out.bel.drew HY6.out.there
    obtain ⟨w7, hd7, D7, C7⟩ := D6.delQ hok
    have V4 := Z4.kept C7 (D6.off Z4 (by decide))
    have V6 := Z6.kept C7 (D6.off Z6 (by decide))
    have HD7 := Lib.hid D7
    have HC7 := Lib.hid ((HC.out.then (Chg.of_below HP.out.bel.drew _) (fun _ _ h => h)).then C7 (fun _ _ h => h))
    obtain ⟨k0, k1, k2, k3, k4, k5, k6⟩ := HK.out _ HP.out.bel
    have p0 : w6.cell? ⟨r8, 0, none⟩ = some (.int .i64 x) := (HP.out.box.reads 0).trans rfl
    have p1 : w6.cell? ⟨r8, 1, none⟩ = some (.int .i64 y) := (HP.out.box.reads 1).trans rfl
    have v40 : w7.cell? ⟨w.heap.size, 0, none⟩ = some (.int .i64 0) := (V4.reads 0).trans rfl
    have v41 : w7.cell? ⟨w.heap.size, 1, none⟩ = some (.int .i64 0) := (V4.reads 1).trans rfl
    have u40 := V4.unmarked 0
    have u41 := V4.unmarked 1
    have v60 : w7.cell? ⟨w.heap.size + 1, 0, none⟩ = some (.int .i64 s1) := (V6.reads 0).trans rfl
    have v61 : w7.cell? ⟨w.heap.size + 1, 1, none⟩ = some (.int .i64 s2) := (V6.reads 1).trans rfl
    have HV4 := Lib.hid V4
    obtain ⟨rfl, rfl⟩ := HZ.out
    clear D6 Z4 Z6 D7 C7 V4 V6
    go_wp2_with fail
    go_region_law (refine step_delete rfl _ _ _ _ rfl (.map (some b1)) (.agg #[.int .i64 s1, .int .i64 s2]) rfl rfl hd7 ?_)
    go_wp2_with fail
  all_goals
    have hc := (HC7.out.setCell (p := ⟨w.heap.size, 0, none⟩) (fun h => absurd h (Nat.lt_irrefl _)) (.int .i64 s1)).setCell (p := ⟨w.heap.size, 1, none⟩) (fun h => absurd h (Nat.lt_irrefl _)) (.int .i64 s2)
    refine bodyPost_ret (v := .tuple #[.agg #[.int .i64 s1, .int .i64 s2], .bool true]) (by simp [results, Tryz.results14, go_sem, cell?_put2 HV4.out]) rfl ⟨rfl, HD7.out.put2 HV4.out (by decide) _ _, hc⟩
end Go.Proofs.YtkcgklaoefbglaaGreatDoor
