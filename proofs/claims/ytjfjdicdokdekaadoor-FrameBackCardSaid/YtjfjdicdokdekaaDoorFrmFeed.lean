/- The stream's Feed. -/
import Derived.Test.YtjfjdicdokdekaaDoorFrmOpen
import Derived.Test.YtjfjdicdokdekaaDoorParts
import Derived.Deep.RegionLaw
set_option linter.unusedSimpArgs false
namespace Go.Proofs.YtjfjdicdokdekaaDoor
open Go.RowKit Go.Mem1

theorem sl_info : (Tryd.prog.info? 22).map (fun i => (i.zero, i.size, i.bytes)) = some (some (.slice none 0 0), 1, 24) := by kernel_rfl
/-- Bodies that were told: each lies off the blocks F. -/
def BodsAt (w : World) (vs : List Value) (ls : List (List Nat)) (F : Nat → Prop) : Prop :=
  vs.length = ls.length ∧ ∀ (i : Nat) (v : Value) (l : List Nat), vs[i]? = some v → ls[i]? = some l →
    ∃ (A1 : Option Addr) (n1 c1 : Nat), v = Value.slice A1 n1 c1 ∧ (A1 = none → c1 = 0) ∧ Byt w w.heap.size A1 n1 l ∧ (∀ b o, A1 = some ⟨b, o, none⟩ → 0 < n1 → ¬ F b ∧ Bod w b)
theorem BodsAt.nil (w : World) (F : Nat → Prop) : BodsAt w [] [] F := ⟨rfl, fun i v l hv => by simp at hv⟩
theorem BodsAt.kept {w w' : World} {vs : List Value} {ls : List (List Nat)} {F S : Nat → Prop} (h : BodsAt w vs ls F) (hc : Chg S w w') (hS : ∀ i, i < w.heap.size → Bod w i → S i → F i) : BodsAt w' vs ls F := by
  refine ⟨h.1, fun i v l hv hl => ?_⟩
  obtain ⟨A1, n1, c1, e, h1, h2, h3⟩ := h.2 i v l hv hl
  have hlt : ∀ b o, A1 = some ⟨b, o, none⟩ → 0 < n1 → b < w.heap.size := by
    intro b o e1 hn
    obtain ⟨b', o', e2, hlt, _⟩ := h2.rd.cells hn
    rw [e1] at e2
    injection e2 with e2
    injection e2 with e2 _
    omega
  refine ⟨A1, n1, c1, e, h1, h2.kept hc (fun b o e1 hn hs => (h3 b o e1 hn).1 (hS b (hlt b o e1 hn) (h3 b o e1 hn).2 hs)), fun b o e1 hn => ⟨(h3 b o e1 hn).1, ?_⟩⟩
  obtain ⟨hF, cur, hcur⟩ := h3 b o e1 hn
  exact ⟨cur, (hc.block b (hlt b o e1 hn) (fun hs => hF (hS b (hlt b o e1 hn) ⟨cur, hcur⟩ hs))).trans hcur⟩
theorem BodsAt.sets {w : World} {vs : List Value} {ls : List (List Nat)} {F F' : Nat → Prop} (h : BodsAt w vs ls F) (hF : ∀ i, i < w.heap.size → Bod w i → F' i → F i) : BodsAt w vs ls F' := by
  refine ⟨h.1, fun i v l hv hl => ?_⟩
  obtain ⟨A1, n1, c1, e, h1, h2, h3⟩ := h.2 i v l hv hl
  refine ⟨A1, n1, c1, e, h1, h2, fun b o e1 hn => ⟨fun hs => ?_, (h3 b o e1 hn).2⟩⟩
  obtain ⟨b', o', e2, hlt, _⟩ := h2.rd.cells hn
  rw [e1] at e2
  injection e2 with e2
  injection e2 with e2 _
  exact (h3 b o e1 hn).1 (hF b (by omega) (h3 b o e1 hn).2 hs)
theorem BodsAt.snoc {w : World} {vs : List Value} {ls : List (List Nat)} {F : Nat → Prop} (h : BodsAt w vs ls F) {A1 : Option Addr} {n1 c1 : Nat} {l : List Nat} (h1 : A1 = none → c1 = 0) (h2 : Byt w w.heap.size A1 n1 l) (h3 : ∀ b o, A1 = some ⟨b, o, none⟩ → 0 < n1 → ¬ F b ∧ Bod w b) :
    BodsAt w (vs ++ [.slice A1 n1 c1]) (ls ++ [l]) F := by
  refine ⟨by simp [h.1], fun i v l' hv hl => ?_⟩
  rcases Nat.lt_or_ge i vs.length with hi | hi
  · rw [List.getElem?_append_left hi] at hv
    rw [List.getElem?_append_left (by rw [← h.1]; exact hi)] at hl
    exact h.2 i v l' hv hl
  · rw [List.getElem?_append_right hi] at hv
    rw [List.getElem?_append_right (by rw [← h.1]; exact hi), ← h.1] at hl
    match hj : i - vs.length with
    | 0 =>
      rw [hj] at hv hl
      injection hv with hv; injection hl with hl
      subst hv; subst hl
      exact ⟨A1, n1, c1, rfl, h1, h2, h3⟩
    | j + 1 => rw [hj] at hv; simp at hv
theorem BodsAt.parts {w : World} {vs : List Value} {ls : List (List Nat)} {F : Nat → Prop} (h : BodsAt w vs ls F) {A : Option Addr} {n : Nat} (hr : Rd w w.heap.size A n vs) : Parts w w.heap.size A n ls :=
  ⟨vs, hr, h.1, fun i v l hv hl => by
    obtain ⟨A1, n1, c1, e, h1, h2, _⟩ := h.2 i v l hv hl
    exact ⟨A1, n1, c1, e, h1, h2⟩⟩

/-- Where the held row may lie behind calls from w0 on. -/
def RowOk (w0 : World) (R R' : Option Nat) : Prop := R' = none ∨ R' = R ∨ ∃ j, R' = some j ∧ w0.heap.size ≤ j
theorem RowOk.refl (w0 : World) (R : Option Nat) : RowOk w0 R R := .inr (.inl rfl)
theorem RowOk.old {w0 : World} {R R' : Option Nat} (h : RowOk w0 R R') {i : Nat} (hi : i < w0.heap.size) (hR : R' = some i) : R = some i := by
  rcases h with h | h | ⟨j, h, hj⟩
  · rw [h] at hR; cases hR
  · rw [← h]; exact hR
  · rw [h] at hR; injection hR with hR; omega
theorem RowOk.set {w0 : World} {R R' : Option Nat} (h : RowOk w0 R R') {g i : Nat} (hi : i < w0.heap.size) (hs : StrSet g R' i) : StrSet g R i := by
  rcases hs with hs | hs
  · exact .inl hs
  · exact .inr (h.old hi hs.symm).symm
theorem RowOk.next {w0 w1 : World} {R R' R'' : Option Nat} (h : RowOk w0 R R') (h' : RowOk w1 R' R'') (hz : w0.heap.size ≤ w1.heap.size) : RowOk w0 R R'' := by
  rcases h' with h' | h' | ⟨j, h', hj⟩
  · exact .inl h'
  · rw [h']; exact h
  · exact .inr (.inr ⟨j, h', by omega⟩)
/-- So many bytes were taken. -/
def FeedI (w0 : World) (B g : Nat) (R : Option Nat) (s1 : FM.FS) (v4 : Value) (wr : World) : Prop :=
  ∃ R', StrAt wr B g R' s1 ∧ RowOk w0 R R' ∧ Chg (StrSet g R) w0 wr ∧ ∃ vs, wr.ownsRow w0.heap.size 22 1 v4 s1.out.length vs ∧ BodsAt wr vs s1.out (StrSet g R')
def FeedPost (w : World) (B g : Nat) (R : Option Nat) (s1 : FM.FS) (e : Ending) (w' : World) : Prop :=
  ∃ A c ev, e = .returned (.tuple #[.slice A s1.out.length c, ev]) ∧ FeedI w B g R s1 (.slice A s1.out.length c) w' ∧ ErrOf w' s1 ev
theorem FeedI.start {w : World} {B g : Nat} {R : Option Nat} {s : FM.FS} (h : StrAt w B g R s) : FeedI w B g R { s with out := [] } (.slice none 0 0) w :=
  ⟨R, h, .refl _ _, Chg.refl _ _, [], World.ownsRow_nil _ _ _ _, BodsAt.nil _ _⟩
theorem FeedI.below {w0 : World} {B g : Nat} {R : Option Nat} {s1 : FM.FS} {v4 : Value} {wr w' : World} (h : FeedI w0 B g R s1 v4 wr) (hb : Below wr.heap.size wr w') : FeedI w0 B g R s1 v4 w' := by
  obtain ⟨R', h1, h2, h3, vs, h4, h5⟩ := h
  exact ⟨R', h1.carry hb, h2, h3.below hb, vs, own_chg h4 (Chg.of_below hb (fun _ => False)) (fun _ _ h => h), h5.kept (Chg.of_below hb (fun _ => False)) (fun _ _ _ h => h.elim)⟩
set_option maxHeartbeats 400000 in
/-- Nothing comes, or it is dead. -/
theorem feed_none (A : Option Addr) (n c : Nat) {w : World} {B g : Nat} {R : Option Nat} {s : FM.FS} (hg : ErrType w) (h : StrAt w B g R s) (hn : n = 0 ∨ s.e ≠ 0) :
    Calls Tryd.prog 12 #[.pointer (some ⟨g, 0, none⟩), .slice A n c] w (FeedPost w B g R { s with out := [] }) := by
  have hE := strErr hg h
  have HI := Lib.hid (FeedI.start h)
  obtain ⟨A0, c0, v, hr, hb, ho, hx, hB, hl, h0, h1⟩ := h
  have c2 := (hb.reads 2).trans (show _ = some v from rfl)
  have HE := Lib.hid hE
  by_cases hz : n = 0
  · subst hz
    clear hr hb ho hx hB hl h0 h1 hg hn hE c2
    go_enter Tryd.func12, Tryd.ntmps12
    go_wp2_with fail
    refine wp_loop_rounds 1 ?_
    rw [rounds_succ]
    go_wp2_with fail
    refine HE.out.mono ?_
    rintro e w1 ⟨B1, ev, rfl, hO⟩
    have HO := Lib.hid hO
    clear hO
    go_wp2_with fail
    go_ret2
    exact ⟨none, 0, ev, rfl, HI.out.below B1, HO.out⟩
  · have he : s.e ≠ 0 := hn.resolve_left hz
    obtain ⟨b, rfl, _⟩ := h1 he
    have i1 : 0 < n := by omega
    clear hr hb ho hx hB hl h0 h1 hg hn hE he hz
    go_enter Tryd.func12, Tryd.ntmps12
    go_wp2_with fail
    refine wp_loop_rounds 1 ?_
    rw [rounds_succ]
    go_wp2_with fail
    refine HE.out.mono ?_
    rintro e w1 ⟨B1, ev, rfl, hO⟩
    have HO := Lib.hid hO
    clear hO
    go_wp2_with fail
    go_ret2
    exact ⟨none, 0, ev, rfl, HI.out.below B1, HO.out⟩

theorem StrAt.put {w : World} {B g : Nat} {R : Option Nat} {s : FM.FS} (h : StrAt w B g R s) (he : s.e = 0) : ∃ A c, w.cell? ⟨g, 0, none⟩ = some (.slice A s.h.length c) ∧ w.ownsRow B 5 1 (.slice A s.h.length c) s.h.length (s.h.map bv) ∧ (Value.slice A s.h.length c).ownBlock = R ∧
    ∀ (xs : List Nat) (m : Nat) (v : Value) (w2 : World), (∀ x ∈ xs, x < 256) → xs.length = m → s.h.length + m ≤ 1030 → w2.ownsRow B 5 1 v (s.h.length + m) (s.h.map bv ++ xs.map bv) → w.grownBy w2 R → (v.ownBlock = R ∨ v.ownBlock = some w.heap.size) →
      w2.cell? ⟨g, 0, none⟩ = some (.slice A s.h.length c) ∧ w2.frozen? ⟨g, 0, none⟩ = false ∧ StrAt (w2.setCell ⟨g, 0, none⟩ v) B g v.ownBlock { s with h := s.h ++ xs } ∧ Chg (StrSet g R) w (w2.setCell ⟨g, 0, none⟩ v) ∧ RowOk w R v.ownBlock := by
  have hne := h.row_ne
  obtain ⟨A, c, v0, hr, hb, ho, hx, hB, hl, h0, h1⟩ := h
  refine ⟨A, c, hb.reads 0, ho, hr.symm, ?_⟩
  intro xs m v w2 hxs hxl hm hown hgr hat
  have hb2 := hb.kept (Chg.of_grown hgr) (fun h => hne h.symm)
  have hng : v.ownBlock ≠ some g := hb2.off_row hown (by decide)
  refine ⟨hb2.reads 0, hb2.unmarked 0, ?_, ?_, ?_⟩
  · obtain ⟨A', c', rfl⟩ := own_slice hown
    have e : (s.h ++ xs).length = s.h.length + m := by rw [List.length_append, hxl]
    refine ⟨A', c', v0, by dsimp only; rw [e], ?_, ?_, ?_, hB, by dsimp only; rw [e]; exact hm, h0, fun h => absurd he h⟩
    · dsimp only; rw [e]; simpa using hb2.wrote 0 (.slice A' (s.h.length + m) c')
    · dsimp only; rw [e, List.map_append]; exact own_set hown ⟨g, 0, none⟩ _ hng
    · intro x hx'
      rcases List.mem_append.1 hx' with h | h
      · exact hx x h
      · exact hxs x h
  · exact (((Chg.refl (StrSet g R) w).grown hgr (fun i _ e => .inr e)).setCell (fun _ => .inl rfl) v)
  · rcases hat with h | h
    · rw [h]; exact .refl _ _
    · exact .inr (.inr ⟨_, h, Nat.le_refl _⟩)
theorem FM.run_take (s : FM.FS) (l : List Nat) (k m : Nat) : FM.run s (l.take (k + m)) = FM.run (FM.run s (l.take k)) ((l.drop k).take m) := by
  rw [← FM.run_append]
  congr 1
  rw [List.take_add]
theorem slice_eq {b x x' n n' c c' : Nat} (h1 : x = x') (h2 : n = n') (h3 : c = c') : Value.slice (some ⟨b, x, none⟩) n c = Value.slice (some ⟨b, x', none⟩) n' c' := by rw [h1, h2, h3]
theorem FM.look_k (s : FM.FS) : (FM.look s).k ≤ s.k + 1 ∧ (FM.look s).out.length ≤ s.out.length + 1 := by
  unfold FM.look
  split
  · omega
  · split
    · dsimp only; omega
    · split
      · omega
      · split
        · dsimp only; simp
        · dsimp only; omega
/-- FeedI, its held row's block said. -/
def FeedJ (w0 : World) (B g : Nat) (R R' : Option Nat) (s1 : FM.FS) (v4 : Value) (wr : World) : Prop :=
  StrAt wr B g R' s1 ∧ RowOk w0 R R' ∧ Chg (StrSet g R) w0 wr ∧ ∃ vs, wr.ownsRow w0.heap.size 22 1 v4 s1.out.length vs ∧ BodsAt wr vs s1.out (StrSet g R')
theorem FeedJ.toI {w0 : World} {B g : Nat} {R R' : Option Nat} {s1 : FM.FS} {v4 : Value} {wr : World} (h : FeedJ w0 B g R R' s1 v4 wr) : FeedI w0 B g R s1 v4 wr := ⟨R', h⟩
theorem FeedJ.put {w0 wr W1 W4 : World} {B g : Nat} {R R' Rv : Option Nat} {s1 : FM.FS} {v4 : Value} {xs : List Nat} (h : FeedJ w0 B g R R' s1 v4 wr) (hg0 : g < w0.heap.size) (hB : Below wr.heap.size wr W1)
    (hS : StrAt W4 B g Rv { s1 with h := s1.h ++ xs }) (hC : Chg (StrSet g R') W1 W4) (hR : RowOk W1 R' Rv) : FeedJ w0 B g R Rv { s1 with h := s1.h ++ xs } v4 W4 := by
  obtain ⟨h1, h2, h3, vs, h4, h5⟩ := h
  have hz : w0.heap.size ≤ W1.heap.size := Nat.le_trans h3.size hB.size
  refine ⟨hS, h2.next hR hz, (h3.below hB).then hC (fun i hi hs => h2.set hi hs), vs, ?_, ?_⟩
  · have h4' : W1.ownsRow w0.heap.size 22 1 v4 s1.out.length vs := own_chg h4 (Chg.of_below hB (fun _ => False)) (fun _ _ h => h)
    refine own_chg h4' hC (fun k hk hs => ?_)
    rcases hs with hs | hs
    · have := (h4.lt k hk).1; omega
    · obtain ⟨A, c, v, hr, _, ho, _⟩ := h1
      exact own_apart h4 ho (by decide) k hk (by rw [← hr, ← hs])
  · have a1 : BodsAt W1 vs s1.out (fun i => StrSet g R' i ∨ StrSet g Rv i) := (h5.kept (Chg.of_below hB (fun _ => False)) (fun _ _ _ h => h.elim)).sets (fun i hi _ hs => hs.elim id (fun hs => hR.set hi hs))
    exact (a1.kept hC (fun _ _ _ hs => .inl hs)).sets (fun _ _ _ hs => .inr hs)
theorem FeedJ.look {w0 W4 W5 : World} {B g : Nat} {R Rv R5 : Option Nat} {s2 : FM.FS} {v4 : Value} (h : FeedJ w0 B g R Rv s2 v4 W4) (hg0 : g < w0.heap.size) (hR : R5 = none ∨ R5 = Rv) (hC : Chg (· = g) W4 W5) :
    RowOk w0 R R5 ∧ Chg (StrSet g R) w0 W5 ∧ ∃ vs, W5.ownsRow w0.heap.size 22 1 v4 s2.out.length vs ∧ BodsAt W5 vs s2.out (StrSet g R5) := by
  obtain ⟨h1, h2, h3, vs, h4, h5⟩ := h
  refine ⟨?_, h3.then hC (fun i _ e => .inl e), vs, own_chg h4 hC (fun k hk hs => by have := (h4.lt k hk).1; omega), ?_⟩
  · rcases hR with h | h
    · exact .inl h
    · rw [h]; exact h2
  · refine (h5.kept hC (fun i _ _ e => .inl e)).sets (fun i _ _ hs => ?_)
    rcases hs with hs | hs
    · exact .inl hs
    · rcases hR with h | h
      · rw [h] at hs; cases hs
      · rw [h] at hs; exact .inr hs
theorem row_bod {w : World} {base n : Nat} {v : Value} {xs : List Value} {e : TypeId} (h : w.ownsRow base e 1 v n xs) (he : e ≠ 5) {k : Nat} (hb : Bod w k) : v.ownBlock ≠ some k := by
  intro hk
  rcases h.2 with ⟨rfl, _⟩ | ⟨g, _, cur, rfl, _, hg, _⟩
  · cases hk
  · injection hk with hk
    have : g = k := hk
    subst this
    obtain ⟨cur', hc⟩ := hb
    rw [hc] at hg
    injection hg with hg
    injection hg with _ ht _
    exact he ht.symm
theorem FeedJ.told {w0 W4 W5 W6 w7 : World} {B g : Nat} {R Rv R5 : Option Nat} {s2 s3 : FM.FS} {A4 A1 A7 : Option Addr} {c4 n1 c1 c7 : Nat} {l1 : List Nat} (hg0 : g < w0.heap.size) (hrv : ∀ k, Rv = some k → k < W4.heap.size) (hz4 : w0.heap.size ≤ W4.heap.size)
    (hS : StrAt W5 B g R5 s3) (hR : R5 = none ∨ R5 = Rv) (he : s3.e = 0) (ho : s3.out = s2.out ++ [l1]) (hby : Byt W5 W5.heap.size A1 n1 l1) (hc1 : A1 = none → c1 = 0) (hb1 : ∀ b o, A1 = some ⟨b, o, none⟩ → 0 < n1 → W4.heap.size ≤ b ∧ Bod W5 b)
    (vs : List Value) (hown : W5.ownsRow w0.heap.size 22 1 (.slice A4 s2.out.length c4) s2.out.length vs) (hbods : BodsAt W5 vs s2.out (StrSet g R5)) (hro : RowOk w0 R R5) (hch : Chg (StrSet g R) w0 W5)
    (hB6 : Below W5.heap.size W5 W6) (hown7 : w7.ownsRow w0.heap.size 22 1 (.slice A7 (s2.out.length + 1) c7) (s2.out.length + 1) (vs ++ [.slice A1 n1 c1])) (hgr : W6.grownBy w7 (Value.slice A4 s2.out.length c4).ownBlock) :
    FeedJ w0 B g R R5 s3 (.slice A7 s3.out.length c7) w7 := by
  have hk : ∀ k, (Value.slice A4 s2.out.length c4).ownBlock = some k → w0.heap.size ≤ k ∧ k ≠ g ∧ R5 ≠ some k := by
    intro k hk
    have h1 := (hown.lt k hk).1
    refine ⟨h1, by omega, ?_⟩
    obtain ⟨A, c, v, hr, _, hox, _⟩ := hS
    rw [hr]
    exact own_apart hown hox (by decide) k hk
  have hC7 : Chg (fun k => some k = (Value.slice A4 s2.out.length c4).ownBlock) W5 w7 := ((Chg.refl _ W5).below hB6).grown hgr (fun _ _ e => e)
  have hlen : s3.out.length = s2.out.length + 1 := by rw [ho]; simp
  refine ⟨?_, hro, hch.then hC7 (fun i hi e => by have := (hk i e.symm).1; omega), vs ++ [.slice A1 n1 c1], by rw [hlen]; exact hown7, ?_⟩
  · obtain ⟨A, c, v, hr, hb, hox, hx, hB, hl, h0, h1⟩ := hS
    exact ⟨A, c, v, hr, hb.kept hC7 (fun e => (hk g e.symm).2.1 rfl), own_chg hox hC7 (fun k hk' e => (hk k e.symm).2.2 (hr.trans hk')), hx, hB, hl, h0, fun h => absurd he h⟩
  · rw [ho]
    have a0 := hbods.snoc hc1 hby (fun b o e hn => by
      have h1 := hb1 b o e hn
      refine ⟨fun hs => ?_, h1.2⟩
      rcases hs with hs | hs
      · have h2 := h1.1; omega
      · rcases hR with h | h
        · rw [h] at hs; cases hs
        · rw [h] at hs
          have := hrv b hs.symm
          have h2 := h1.1; omega)
    have a1 : BodsAt W5 (vs ++ [.slice A1 n1 c1]) (s2.out ++ [l1]) (fun k => StrSet g R5 k ∨ some k = (Value.slice A4 s2.out.length c4).ownBlock) :=
      a0.sets (fun i _ hb hs => hs.elim id (fun e => absurd e.symm (row_bod hown (by decide) hb)))
    exact (a1.kept hC7 (fun _ _ _ hs => .inr hs)).sets (fun _ _ _ hs => .inl hs)
/-- What a round holds. -/
def FeedR (w0 : World) (B g : Nat) (R : Option Nat) (s : FM.FS) (l : List Nat) (k : Nat) (v4 : Value) (wr : World) : Prop :=
  ∃ s1, FM.run { s with out := [] } (l.take k) = s1 ∧ (FM.Live s1 ∨ s1.e ≠ 0) ∧ s1.k ≤ s.k + k ∧ s1.out.length ≤ k ∧ FeedI w0 B g R s1 v4 wr
set_option maxRecDepth 100000 in
set_option maxHeartbeats 1000000 in
theorem feed_main (b o n c : Nat) (l : List Nat) {w : World} {B g : Nat} {R : Option Nat} {s : FM.FS} (hg : ErrType w) (hT : Halves w) (h : StrAt w B g R s) (hL : FM.Live s) (hn : 0 < n) (hn2 : n ≤ 100000000) (hnc : n ≤ c) (hk : s.k ≤ 1000000) (hB0 : 1 < B ∧ 0 < B)
    (hb : Byt w w.heap.size (some ⟨b, o, none⟩) n l) (hoff : ¬ StrSet g R b) :
    Calls Tryd.prog 12 #[.pointer (some ⟨g, 0, none⟩), .slice (some ⟨b, o, none⟩) n c] w (FeedPost w B g R (FM.run { s with out := [] } l)) := by
  obtain ⟨i0, hi0, hz0, hz1, hz2⟩ := info_parts u8_info
  obtain ⟨j0, hj0, hy0, hy1, hy2⟩ := info_parts sl_info
  have HG := Lib.hid hg
  have HT := Lib.hid hT
  have HB := Lib.hid hb
  have HL := Lib.hid hL
  have hgw := h.there.2
  have hBw0 : B ≤ w.heap.size := by have := h.there; omega
  have hoffB : ∀ i, i < B → ¬ StrSet g R i := fun i hi hs => by
    rcases hs with hs | hs
    · have := h.there.1; omega
    · have := (h.row i hs.symm).1; omega
  have HOB := Lib.hid hoffB
  have HI : Hid (FeedR w B g R s l 0 (.slice none 0 0) w) := Lib.hid ⟨_, rfl, .inl ⟨hL.1, hL.2⟩, Nat.le_refl _, Nat.zero_le _, FeedI.start h⟩
  clear h hg hT hb hL hoffB
  go_enter Tryd.func12, Tryd.ntmps12
  go_wp2_with fail
  go_loopw [1, 6] (fun v1 v4 wr => ∃ k x : Nat, k ≤ n ∧ (k < n → x = o + k) ∧ v1 = .slice (some ⟨b, x, none⟩) (n - k) (c - k) ∧ Hid (FeedR w B g R s l k v4 wr)) (fun v1 _ _ => match v1 with | .slice _ m _ => m | _ => 0)
  case atStart => exact ⟨0, o, Nat.zero_le _, fun _ => rfl, rfl, HI⟩
  case round =>
    obtain ⟨k, x, hkn, hxo, rfl, hR⟩ := hrel
    obtain ⟨s1, hs1, hlv, hk1, ho1, R', hS, hRo, hC, vs, hown, hbods⟩ := hR.out
    have HS := Lib.hid hS
    have HRo := Lib.hid hRo
    have HC := Lib.hid hC
    have HO := Lib.hid hown
    have HBo := Lib.hid hbods
    have HS1 := Lib.hid hs1
    have HK1 := Lib.hid hk1
    have HO1 := Lib.hid ho1
    obtain ⟨A4, c4, rfl⟩ := own_slice hown
    by_cases hlt : k < n
    · obtain rfl := hxo hlt
      have i1 : 0 < n - k := by omega
      rcases hlv with hlv | hdead
      · obtain ⟨A0, c0, v0, hr, hbx, ho, hx, hB, hlen, hv0, _⟩ := hS
        obtain rfl := hv0 hlv.1
        have r0 := (hbx.reads 0).trans (show _ = some (Value.slice A0 s1.h.length c0) from rfl)
        have r2 := (hbx.reads 2).trans (show _ = some Value.nilIface from rfl)
        have hw := fun w' (hb' : Below wr.heap.size wr w') => strWants (HS.out.carry hb') hlv
        have HW := Lib.hid hw
        have HLV := Lib.hid hlv
        clear hs1 hk1 ho1 hRo hC hown hbods hr hbx ho hx hlen hv0 hlv hw HI HL hR
        go_wp2_with fail
        refine (HW.out _ (Below.refl _ _)).mono ?_
        rintro e w1 ⟨rfl, B1⟩
        have hgl := HLV.out.goal_lt
        have hgo := FM.goal_le HLV.out
        generalize hM : FM.goal s1 - s1.h.length = M at *
        have r1 := (B1.cell (p := ⟨g, 0, none⟩) HS.out.there.2).trans r0
        have HM := Lib.hid hM
        clear HW hM r0 r2
        generalize hN : n - k = N at *
        generalize hC2 : c - k = C at *
        have HN := Lib.hid hN
        have HC2 := Lib.hid hC2
        have hNC : N ≤ C := by omega
        have hM0 : 0 < M := by have := HM.out; omega
        clear hN hC2
        go_wp2_with fail
        case' inl =>
          obtain ⟨m, rfl⟩ : ∃ m, m = N := ⟨_, rfl⟩
          have m1 : m ≤ FM.goal s1 - s1.h.length := by have := HM.out; omega
          have m2 : m ≤ n - k := by have := HN.out; omega
          have m3 : 0 < m := i1
          have m4 : m ≤ m := Nat.le_refl _
        case' inr =>
          obtain ⟨m, rfl⟩ : ∃ m, m = M := ⟨_, rfl⟩
          have m1 : m ≤ FM.goal s1 - s1.h.length := by have := HM.out; omega
          have m2 : m ≤ n - k := by have := HN.out; omega
          have m3 : 0 < m := hM0
          have m4 : m ≤ N := by omega
        all_goals
          have hS1 := HS.out.carry (show Below wr.heap.size wr w1.drew from B1.drew)
          have e0 : s1.e = 0 := HLV.out.1
          obtain ⟨A5, c5, q0, hown5, hR5, hput⟩ := hS1.put e0
          have qq : A5 = A0 ∧ c5 = c0 := by
            have : (some (Value.slice A5 s1.h.length c5)) = some (Value.slice A0 s1.h.length c0) := q0.symm.trans (show w1.drew.cell? ⟨g, 0, none⟩ = _ from r1)
            injection this with this
            injection this with h1 _ h2
            exact ⟨h1, h2⟩
          obtain ⟨rfl, rfl⟩ := qq
          have hsrc : Byt w1.drew w1.heap.size (some ⟨b, o + k, none⟩) m ((l.drop k).take m) := by
            have h1 : Byt wr wr.heap.size (some ⟨b, o, none⟩) n l := HB.out.kept HC.out (fun b' o' e _ => by injection e with e; injection e with e1 _; subst e1; exact hoff)
            exact ((((h1.cut hkn).head (k := m) m2).carry B1).wider B1.size).drew
          have hBw : B ≤ w1.heap.size := by have := HS.out.there.2; have := B1.size; omega
          have hlen : s1.h.length + m ≤ 1030 := by omega
          have HPUT := Lib.hid hput
          have HSRC := Lib.hid hsrc
          have HOW5 := Lib.hid hown5
          have HR5 := Lib.hid hR5
          have hP : 0 ≤ (m : Int) := by omega
          have mC : m ≤ C := by omega
          clear hput hsrc hown5 hR5 hS1 q0 hgl hgo
          generalize hLL : s1.h.length = L at *
          have HLL := Lib.hid hLL
          clear hLL
          go_region_law (refine step_append rfl (.tmp 29) (.tmp 32) _ rfl B 5 i0 _ 1 Tryd.underlying22 hi0 hz0 hz1 hz2 rfl (.slice A5 L c5) L _ rfl HOW5.out (some ⟨b, o + k, none⟩) m C (by intro h; cases h) _ rfl HSRC.out.rd (oneCell_bv _) (by simp only [maxLen]; omega) (by omega) hBw ?_; intro v3 w3 hown3 hgr3 hat3; obtain ⟨A3, c3, rfl⟩ := own_slice hown3; rw [HR5.out] at hgr3 hat3; obtain ⟨y0, y1, hS4, hC4, hR4⟩ := HPUT.out _ m _ w3 HSRC.out.bnd HSRC.out.len hlen hown3 hgr3 hat3; have HS4 := Lib.hid hS4; have HC4 := Lib.hid hC4; have HR4 := Lib.hid hR4; clear hS4 hC4 hR4 hown3 hgr3 hat3)
        all_goals
          have hJ4 := FeedJ.put (Rv := (Value.slice A3 (L + m) c3).ownBlock) (⟨HS.out, HRo.out, HC.out, vs, HO.out, HBo.out⟩ : FeedJ w B g R R' s1 (.slice A4 s1.out.length c4) wr) hgw B1.drew HS4.out HC4.out HR4.out
          have hT4 : Halves (w3.setCell ⟨g, 0, none⟩ (.slice A3 (L + m) c3)) := HT.out.carry (hJ4.2.2.1.small hBw0 HOB.out) hB0.1
          have hlr : FM.look { s1 with h := s1.h ++ (l.drop k).take m } = FM.run { s with out := [] } (l.take (k + m)) := by
            rw [FM.run_take, HS1.out]
            have hlm := HSRC.out.len
            exact (FM.run_more _ HLV.out (by intro h; rw [h] at hlm; simp at hlm; omega) (by rw [hlm]; have := HLV.out.goal_lt; have := HM.out; have := HLL.out; omega)).symm
          have hopn := strOpen hT4 HS4.out e0 (fun h2 => by
            have hlm := HSRC.out.len
            have hg1 := HLV.out.goal_lt
            have hll := HLL.out
            dsimp only at h2 ⊢
            rw [List.length_append, hlm] at h2 ⊢
            unfold FM.goal at m1 hg1
            split at m1
            · omega
            · rw [FM.size_app (by omega)]; omega) (by have := HK1.out; dsimp only; omega)
          generalize hW4 : (w3.setCell ⟨g, 0, none⟩ (.slice A3 (L + m) c3)) = W4 at *
          generalize hRV : (Value.slice A3 (L + m) c3).ownBlock = Rv at *
          have hlk := FM.look_ok (s := { s1 with h := s1.h ++ (l.drop k).take m }) e0
          have hkk := FM.look_k { s1 with h := s1.h ++ (l.drop k).take m }
          have hs2o : ({ s1 with h := s1.h ++ (l.drop k).take m } : FM.FS).out = s1.out := rfl
          have hs2k : ({ s1 with h := s1.h ++ (l.drop k).take m } : FM.FS).k = s1.k := rfl
          generalize ({ s1 with h := s1.h ++ (l.drop k).take m } : FM.FS) = s2 at *
          have hr4 : ∀ j, Rv = some j → j < W4.heap.size := fun j hj => (hJ4.1.row j hj).2
          have hz4 : w.heap.size ≤ W4.heap.size := hJ4.2.2.1.size
          have fin : ∀ (v4 : Value) (w7 : World), FeedI w B g R (FM.look s2) v4 w7 → FeedR w B g R s l (k + m) v4 w7 := fun v4 w7 h =>
            ⟨_, hlr.symm, hlk, by have := HK1.out; omega, by have := HO1.out; rw [hs2o] at hkk; omega, h⟩
          have FIN := Lib.hid fin
          have HOPN := Lib.hid hopn
          have HJ4 := Lib.hid hJ4
          have HS2 := Lib.hid hs2o
          clear fin hopn hJ4 hlr hlk hkk hs2k hT4 hW4 hRV hs2o HPUT HSRC HOW5 HR5 HS4 HC4 HR4 HS HRo HC HO HBo HS1 y0 y1 r1 B1 hBw HLL m1
          by_cases hCm : C = m
          all_goals
            go_wp2_with (go_at_call 30; refine Hid.out ?_)
            refine Lib.hid ?_
            refine HOPN.out.mono ?_
            rintro e w5 ⟨A1, n1, c1, whole, R5, rfl, hS5, hR5', hC5, ⟨rfl, ho⟩ | ⟨rfl, l1, ho, hby, hc1, hb1, he5⟩⟩
            · obtain ⟨q1, q2, vs5, q3, q4⟩ := HJ4.out.look hgw hR5' hC5
              rw [HS2.out] at q3 q4 ho
              have hI : FeedI w B g R (FM.look s2) (.slice A4 s1.out.length c4) w5 := ⟨R5, hS5, q1, q2, vs5, by rw [ho]; exact q3, by rw [ho]; exact q4⟩
              have HF := Lib.hid (FIN.out _ _ hI)
              clear q1 q2 q3 q4 hI ho hS5 hR5' hC5 HJ4 HOPN FIN
              go_wp2_with fail
              go_roundw
              case rel =>
                have hn' := HN.out
                have hc' := HC2.out
                first
                  | exact ⟨k + m, o + k + m, by omega, fun h => by omega, slice_eq rfl (by omega) (by omega), HF⟩
                  | exact ⟨k + m, o + k, by omega, fun h => by omega, slice_eq rfl (by omega) (by omega), HF⟩
              case measure => have := HN.out; simp; omega
            · have hk1 := HK1.out
              obtain ⟨q1, q2, vs5, q3, q4⟩ := HJ4.out.look hgw hR5' hC5
              have hs2 := HS2.out
              have hJ := fun (W6 w7 : World) (A7 : Option Addr) (c7 : Nat) (hB6 : Below w5.heap.size w5 W6) (hown7 : w7.ownsRow w.heap.size 22 1 (.slice A7 (s2.out.length + 1) c7) (s2.out.length + 1) (vs5 ++ [.slice A1 n1 c1])) (hgr : W6.grownBy w7 (Value.slice A4 s2.out.length c4).ownBlock) =>
                FeedJ.told hgw hr4 hz4 hS5 hR5' he5 ho hby hc1 hb1 vs5 (by rw [hs2] at q3 ⊢; exact q3) q4 q1 q2 hB6 hown7 hgr
              rw [ho, hs2] at hJ
              rw [show (s1.out ++ [l1]).length = s1.out.length + 1 by simp] at hJ
              rw [hs2] at q3
              have HJ := Lib.hid hJ
              have HOW := Lib.hid q3
              have HOL := Lib.hid ho
              have hsz : w.heap.size ≤ w5.heap.size := by have := hC5.size; omega
              have hol := HO1.out
              clear q1 q2 q3 q4 ho hS5 hR5' hC5 HJ4 HOPN hby hc1 hb1 hJ hs2
              generalize s1.out.length = OL at *
              go_wp2_with (at_builtin; refine wpList_append rfl (.tmp 45) (.tmp 47) _ rfl w.heap.size 22 j0 _ 24 Tryd.underlying32 hj0 hy0 hy1 hy2 rfl (.slice A4 OL c4) OL vs5 rfl (HOW.out.alloc _) (some ⟨w5.heap.size, 0, none⟩) 1 1 (by intro h; cases h) _ rfl (Rd.made w5 #[.slice A1 n1 c1] 22 1 rfl) (by intro u hu; simp at hu; subst hu; rfl) (by simp only [maxLen]; omega) (by omega) (by simp; omega) ?_; intro v7 w7 hown7 hgr7 _; obtain ⟨A7, c7, rfl⟩ := own_slice hown7; have hI := (HJ.out _ w7 A7 c7 (bel_new w5 _) hown7 hgr7).toI; have HF := Lib.hid (FIN.out _ _ hI); clear hown7 hgr7 hI HJ HOW)
              go_roundw
              case rel =>
                have hn' := HN.out
                have hc' := HC2.out
                first
                  | exact ⟨k + m, o + k + m, by omega, fun h => by omega, slice_eq rfl (by omega) (by omega), HF⟩
                  | exact ⟨k + m, o + k, by omega, fun h => by omega, slice_eq rfl (by omega) (by omega), HF⟩
              case measure => have := HN.out; simp; omega
      · obtain ⟨A0, c0, v0, hr, hbx, ho, hx, hB, hlen, _, hv1⟩ := hS
        obtain ⟨bb, rfl, _⟩ := hv1 hdead
        have r2 := (hbx.reads 2).trans (show _ = some (Value.iface 78 (.pointer (some ⟨bb, 0, none⟩))) from rfl)
        have hrun : FM.run { s with out := [] } l = s1 := by
          have h1 := FM.run_append { s with out := [] } (l.take k) (l.drop k)
          rw [List.take_append_drop, HS1.out, FM.run_dead hdead] at h1
          exact h1
        have hge : ErrType wr := HC.out.cell (p := ⟨0, 0, none⟩) HG.out (HOB.out _ hB0.2)
        have HE := Lib.hid (strErr hge HS.out)
        have HI := Lib.hid (show FeedI w B g R s1 (.slice A4 s1.out.length c4) wr from ⟨R', HS.out, HRo.out, HC.out, vs, HO.out, HBo.out⟩)
        have HRU := Lib.hid hrun
        clear hs1 hk1 ho1 hRo hC hown hbods hr hbx ho hx hlen hv1 HL hR hrun hge HS HRo HC HO HBo HS1 HK1 HO1
        go_wp2_with fail
        refine HE.out.mono ?_
        rintro e w1 ⟨B1, ev, rfl, hO⟩
        have HO := Lib.hid hO
        clear hO
        go_wp2_with fail
        go_ret2
        rw [HRU.out]
        exact ⟨A4, c4, ev, rfl, HI.out.below B1, HO.out⟩
    · have hkn' : k = n := by omega
      have hrun : FM.run { s with out := [] } l = s1 := by
        rw [← HS1.out, hkn', List.take_of_length_le (by have := HB.out.len; omega)]
      have hge : ErrType wr := HC.out.cell (p := ⟨0, 0, none⟩) HG.out (HOB.out _ hB0.2)
      have HE := Lib.hid (strErr hge HS.out)
      have HI := Lib.hid (show FeedI w B g R s1 (.slice A4 s1.out.length c4) wr from ⟨R', HS.out, HRo.out, HC.out, vs, HO.out, HBo.out⟩)
      have HRU := Lib.hid hrun
      have hz0 : n - k = 0 := by omega
      clear hs1 hk1 ho1 hRo hC hown hbods HL hR hrun hge HS HRo HC HO HBo HS1 HK1 HO1 hS hlv
      rw [hz0]
      go_wp2_with fail
      refine HE.out.mono ?_
      rintro e w1 ⟨B1, ev, rfl, hO⟩
      have HO := Lib.hid hO
      clear hO
      go_wp2_with fail
      go_ret2
      rw [HRU.out]
      exact ⟨A4, c4, ev, rfl, HI.out.below B1, HO.out⟩
end Go.Proofs.YtjfjdicdokdekaaDoor
