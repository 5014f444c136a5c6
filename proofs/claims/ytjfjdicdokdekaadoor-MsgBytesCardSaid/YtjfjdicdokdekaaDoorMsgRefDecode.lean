/- The reference's Decode, whatever the bytes. -/
import Derived.Test.YtjfjdicdokdekaaDoorMsgRefDec2
import Derived.Test.YtjfjdicdokdekaaDoorMsgDec
set_option linter.unusedSimpArgs false
namespace Go.Proofs.YtjfjdicdokdekaaDoor
open Go.RowKit Go.Mem1 Go.CodMath

/-- So many numbers were read into a row of cells. -/
def RTake (w : World) (gd : Nat) (L : List Nat) (gt o : Nat) (ty : TypeId) (cs : Array Value) (s : St) (k : Nat) (wr : World) : Prop :=
  RDec wr gd L (intsSt k s) ∧ Box wr gt ty (putL cs o (intsVal k s)) ∧ Chg (fun i => i = gd ∨ i = gt) w wr
theorem RDec.aside {w w' : World} {g gt : Nat} {L : List Nat} {s : St} {ty : TypeId} {cs : Array Value} (h : RDec w g L s) (hb : Box w gt ty cs) (hty : ty ≠ 84) (hlt : g < gt) (hc : Chg (· = gt) w w') : RDec w' g L s :=
  h.kept hc (by omega) (fun b hb e => by omega) (fun b ⟨_, _, hp⟩ e => by subst e; exact (hp.apart hb (fun e => hty e.symm)) rfl)
theorem RTake.step {w wr w1 : World} {gd gt o k : Nat} {L : List Nat} {ty : TypeId} {cs : Array Value} {s : St} (h : RTake w gd L gt o ty cs s k wr) (hty : ty ≠ 84) (hlt : gd < gt) (hd : RDecPost wr gd L (intSt (intsSt k s)) w1) :
    w1.frozen? ⟨gt, o + k, none⟩ = false ∧ (o + k < cs.size → ∃ v, w1.cell? ⟨gt, o + k, none⟩ = some v) ∧ RTake w gd L gt o ty cs s (k + 1) (w1.setCell ⟨gt, o + k, none⟩ (.int .i64 (intVal (intsSt k s).l))) := by
  obtain ⟨h1, h2, h3⟩ := h
  obtain ⟨d1, d2⟩ := hd
  have hb : Box w1 gt ty (putL cs o (intsVal k s)) := h2.kept d2 (by omega)
  have e : putL cs o (intsVal (k + 1) s) = (putL cs o (intsVal k s)).setIfInBounds (o + k) (.int .i64 (intVal (intsSt k s).l)) := by rw [intsVal_snoc, putL_snoc, intsVal_len]
  have hc : Chg (· = gt) w1 (w1.setCell ⟨gt, o + k, none⟩ (.int .i64 (intVal (intsSt k s).l))) := (Chg.refl (· = gt) w1).setCell (p := ⟨gt, o + k, none⟩) (fun _ => rfl) _
  refine ⟨hb.unmarked _, fun hlt => ⟨(putL cs o (intsVal k s))[o + k]'(by rw [putL_size]; exact hlt), by rw [hb.reads]; exact Array.getElem?_eq_getElem _⟩, ?_, ?_, ?_⟩
  · rw [intsSt_snoc]; exact d1.aside hb hty hlt hc
  · rw [e]; exact hb.wrote _ _
  · exact (h3.then d2 (fun i _ e => .inl e)).then hc (fun i _ e => .inr e)
/-- What the reference's Decode tells. -/
def RDecodePost (w : World) (o : Out) (e : Ending) (w' : World) : Prop :=
  ∃ A n c P m pc, e = .returned (.tuple #[.agg #[.int .i64 o.hd.k, .int .i64 o.hd.s, .int .i64 o.hd.a, .int .i64 o.hd.b, .int .i64 o.hd.c, .int .i64 o.hd.d, .int .i64 o.hd.e, .int .i64 o.hd.f, .slice A n c], .agg #[.slice P m pc, .int .i64 (o.err : Int)]]) ∧
    RowsAt w' w'.heap.size A n o.rows ∧ Below w.heap.size w w' ∧ (o.err ≠ 0 → PartsAt w' w'.heap.size P m o.parts)
theorem refmrow_info : (Tryd.prog.info? 105).map (fun i => (i.zero, i.size, i.bytes)) = some (some (.agg #[.int .i64 0, .int .i64 0, .int .i64 0, .int .i64 0, .int .i64 0]), 5, 40) := by kernel_rfl
/-- So many rows are read. -/
def RLoop (w w5 : World) (gd gm : Nat) (L : List Nat) (h : Hd) (s : St) (k : Nat) (wr : World) : Prop :=
  RDec wr gd L (rowsSt k s) ∧ (∃ A c, Box wr gm 63 #[.int .i64 h.k, .int .i64 h.s, .int .i64 h.a, .int .i64 h.b, .int .i64 h.c, .int .i64 h.d, .int .i64 h.e, .int .i64 h.f, .slice A k c] ∧
    wr.ownsRow w5.heap.size 105 5 (.slice A k c) k (rowCells (rowsVal k s))) ∧
  Box wr w.heap.size 63 #[.int .i64 0, .int .i64 0, .int .i64 0, .int .i64 0, .int .i64 0, .int .i64 0, .int .i64 0, .int .i64 0, .slice none 0 0] ∧
  Box wr (w.heap.size + 1) 29 #[.slice none 0 0, .int .i64 0] ∧ Below w.heap.size w wr ∧ w5.heap.size ≤ wr.heap.size
/-- A row is taken and put behind the others. -/
theorem RLoop.step {w w5 : World} {gd gm : Nat} {L : List Nat} {h : Hd} {s : St} {k : Nat} {wr w6 : World} {A1 : Option Addr} {c1 : Nat} {x : R5}
    (hm : Box wr gm 63 #[.int .i64 h.k, .int .i64 h.s, .int .i64 h.a, .int .i64 h.b, .int .i64 h.c, .int .i64 h.d, .int .i64 h.e, .int .i64 h.f, .slice A1 k c1])
    (hown : wr.ownsRow w5.heap.size 105 5 (.slice A1 k c1) k (rowCells (rowsVal k s)))
    (hres : Box wr w.heap.size 63 #[.int .i64 0, .int .i64 0, .int .i64 0, .int .i64 0, .int .i64 0, .int .i64 0, .int .i64 0, .int .i64 0, .slice none 0 0])
    (hwr : Box wr (w.heap.size + 1) 29 #[.slice none 0 0, .int .i64 0])
    (hbel : Below w.heap.size w wr) (hsz : w5.heap.size ≤ wr.heap.size) (hgg : w.heap.size + 1 < gd ∧ gd < gm ∧ gm < w5.heap.size) (hx : rowVal (rowsSt k s) = x)
    (hd6 : RDec w6 gd L (intsSt 5 (rowsSt k s)))
    (hc6 : Chg (fun i => i = gd ∨ i = wr.heap.size) (wr.alloc (.cells #[.int .i64 0, .int .i64 0, .int .i64 0, .int .i64 0, .int .i64 0] 105)) w6) :
    w6.cell? ⟨gm, 8, none⟩ = some (.slice A1 k c1) ∧ w5.heap.size ≤ w6.heap.size ∧ w6.ownsRow w5.heap.size 105 5 (.slice A1 k c1) k (rowCells (rowsVal k s)) ∧
      ∀ (v : Value) (W6 w7 : World), Below w6.heap.size w6 W6 → w7.ownsRow w5.heap.size 105 5 v (k + 1) (rowCells (rowsVal k s) ++ [.int .i64 x.p, .int .i64 x.q, .int .i64 x.r, .int .i64 x.s, .int .i64 x.t]) →
        W6.grownBy w7 (Value.slice A1 k c1).ownBlock →
        w7.cell? ⟨gm, 8, none⟩ = some (.slice A1 k c1) ∧ w7.frozen? ⟨gm, 8, none⟩ = false ∧ RLoop w w5 gd gm L h s (k + 1) (w7.setCell ⟨gm, 8, none⟩ v) := by
  obtain ⟨g1, g2, g3⟩ := hgg
  have e1 : ∀ i, (Value.slice A1 k c1).ownBlock = some i → w5.heap.size ≤ i ∧ i < wr.heap.size := hown.lt
  have hm6 : Box w6 gm 63 _ := (hm.kept_below (bel_new wr _) hm.there).kept hc6 (by have := hm.there; omega)
  have hr6 : Box w6 w.heap.size 63 _ := (hres.kept_below (bel_new wr _) hres.there).kept hc6 (by have := hres.there; omega)
  have hw6 : Box w6 (w.heap.size + 1) 29 _ := (hwr.kept_below (bel_new wr _) hwr.there).kept hc6 (by have := hwr.there; omega)
  have ho6 := own_chg (own_alloc hown (.cells #[.int .i64 0, .int .i64 0, .int .i64 0, .int .i64 0, .int .i64 0] 105)) hc6 (fun i hi => by have := e1 i hi; omega)
  have hz6 := hc6.size
  simp at hz6
  have hb6 : Below w.heap.size w w6 := Chg.toBelow (bel_alloc hbel _) hc6 (by simp; omega) (fun i hi e => by omega)
  refine ⟨by simpa using hm6.reads 8, by omega, ho6, ?_⟩
  intro v W6 w7 hbW hown7 hgr
  have hck : Chg (fun i => some i = (Value.slice A1 k c1).ownBlock) w6 w7 := ((Chg.refl _ _).below hbW).grown hgr (fun i _ e => e)
  have hm7 : Box w7 gm 63 _ := hm6.kept hck (fun e => by have := e1 gm e.symm; omega)
  have hr7 : Box w7 w.heap.size 63 _ := hr6.kept hck (fun e => by have := e1 _ e.symm; omega)
  have hw7 : Box w7 (w.heap.size + 1) 29 _ := hw6.kept hck (fun e => by have := e1 _ e.symm; omega)
  have hd7 : RDec w7 gd L (intsSt 5 (rowsSt k s)) := hd6.kept hck (fun e => by have := e1 gd e.symm; omega) (fun b hb e => by have := e1 b e.symm; omega) (fun b ⟨_, _, hp⟩ e => (hp.off_row ho6 (by decide)) e.symm)
  have hb7 : Below w.heap.size w w7 := Chg.toBelow hb6 hck hb6.size (fun i hi e => by have := e1 i e.symm; omega)
  obtain ⟨A2, c2, rfl⟩ := own_slice hown7
  have hne : (Value.slice A2 (k + 1) c2).ownBlock ≠ some gm := fun e => by have := (hown7.lt gm e).1; omega
  have hcs : Chg (· = gm) w7 (w7.setCell ⟨gm, 8, none⟩ (.slice A2 (k + 1) c2)) := (Chg.refl (· = gm) w7).setCell (p := ⟨gm, 8, none⟩) (fun _ => rfl) _
  refine ⟨by simpa using hm7.reads 8, hm7.unmarked 8, ?_, ⟨A2, c2, by simpa using hm7.wrote 8 (.slice A2 (k + 1) c2), ?_⟩, hr7.kept hcs (by omega), hw7.kept hcs (by omega), ?_, ?_⟩
  · rw [rowsSt_snoc]
    exact hd7.aside hm7 (by decide) g2 hcs
  · rw [rowsVal_snoc, rowCells_snoc, hx]
    exact own_set hown7 ⟨gm, 8, none⟩ _ hne
  · exact Chg.toBelow hb7 hcs hb7.size (fun i hi e => by omega)
  · have := hck.size
    show w5.heap.size ≤ (w7.setCell _ _).heap.size
    simp [World.setCell]; omega
theorem rret {w w8 : World} {g : Nat} {c0 c1 c2 c3 c4 c5 c6 c7 c8 d0 d1 : Value} (hg : g = w.heap.size) (hR : Box w8 g 63 #[c0, c1, c2, c3, c4, c5, c6, c7, c8]) (hW : Box w8 (g + 1) 29 #[d0, d1]) (hB : Below w.heap.size w w8) (v0 v1 v2 v3 v4 v5 v6 v7 v8 u0 u1 : Value) :
    Box (set2 (set9 w8 g v0 v1 v2 v3 v4 v5 v6 v7 v8) (g + 1) u0 u1) g 63 #[v0, v1, v2, v3, v4, v5, v6, v7, v8] ∧ Box (set2 (set9 w8 g v0 v1 v2 v3 v4 v5 v6 v7 v8) (g + 1) u0 u1) (g + 1) 29 #[u0, u1] ∧
    Below w.heap.size w (set2 (set9 w8 g v0 v1 v2 v3 v4 v5 v6 v7 v8) (g + 1) u0 u1) ∧ Chg (fun i => i = g ∨ i = g + 1) w8 (set2 (set9 w8 g v0 v1 v2 v3 v4 v5 v6 v7 v8) (g + 1) u0 u1) ∧ (set2 (set9 w8 g v0 v1 v2 v3 v4 v5 v6 v7 v8) (g + 1) u0 u1).heap.size = w8.heap.size := by
  have h9 := set9_chg w8 g v0 v1 v2 v3 v4 v5 v6 v7 v8
  have h2 := set2_chg (set9 w8 g v0 v1 v2 v3 v4 v5 v6 v7 v8) (g + 1) u0 u1
  have hch : Chg (fun i => i = g ∨ i = g + 1) w8 (set2 (set9 w8 g v0 v1 v2 v3 v4 v5 v6 v7 v8) (g + 1) u0 u1) := (h9.mono (fun _ _ e => .inl e)).then h2 (fun _ _ e => .inr e)
  refine ⟨(set9_box hR _ _ _ _ _ _ _ _ _).kept h2 (by omega), set2_box (hW.kept h9 (by omega)) _ _, Chg.toBelow hB hch hB.size (fun i hi e => by omega), hch, by rw [set2_size, set9_size]⟩
theorem PartsAt.chg2 {w w' : World} {B n : Nat} {A : Option Addr} {l : List (ByteArray × Int)} {S : Nat → Prop} (h : PartsAt w B A n l) (hc : Chg S w w') (hS : ∀ b, S b → ∃ t cs, Box w b t cs ∧ ∀ (i : Nat) (s : ByteArray), cs[i]? ≠ some (Value.string s)) : PartsAt w' B A n l :=
  ⟨h.len, fun i x hx => by
    obtain ⟨b, off, e, hlt, h1, h2⟩ := h.at_ i x hx
    have hne : ¬ S b := by
      intro hs
      obtain ⟨t, cs, hb, h0⟩ := hS b hs
      rw [hb.reads] at h1
      exact h0 _ _ h1
    exact ⟨b, off, e, hlt, hc.cell h1 hne, hc.cell h2 hne⟩⟩
theorem nostr9 {a b c d e f g h : Int} {A : Option Addr} {n m : Nat} : ∀ (i : Nat) (s : ByteArray), (#[Value.int .i64 a, .int .i64 b, .int .i64 c, .int .i64 d, .int .i64 e, .int .i64 f, .int .i64 g, .int .i64 h, .slice A n m] : Array Value)[i]? ≠ some (Value.string s) := by
  intro i s hi
  match i, hi with
  | 0, hi => simp at hi
  | 1, hi => simp at hi
  | 2, hi => simp at hi
  | 3, hi => simp at hi
  | 4, hi => simp at hi
  | 5, hi => simp at hi
  | 6, hi => simp at hi
  | 7, hi => simp at hi
  | 8, hi => simp at hi
  | j + 9, hi => simp at hi
theorem nostr2 {A : Option Addr} {n m : Nat} {x : Int} : ∀ (i : Nat) (s : ByteArray), (#[Value.slice A n m, .int .i64 x] : Array Value)[i]? ≠ some (Value.string s) := by
  intro i s hi
  match i, hi with
  | 0, hi => simp at hi
  | 1, hi => simp at hi
  | j + 2, hi => simp at hi
/-- A refusal is returned. -/
theorem rbad {w w8 : World} {P : Option Addr} {m pc x : Nat} {parts : List (ByteArray × Int)} (hR : Box w8 w.heap.size 63 #[.int .i64 0, .int .i64 0, .int .i64 0, .int .i64 0, .int .i64 0, .int .i64 0, .int .i64 0, .int .i64 0, .slice none 0 0])
    (hW : Box w8 (w.heap.size + 1) 29 #[.slice none 0 0, .int .i64 0]) (hB : Below w.heap.size w w8) (hp : PartsAt w8 w8.heap.size P m parts) :
    RDecodePost w (Out.bad parts x) (.returned (.tuple #[.agg #[.int .i64 0, .int .i64 0, .int .i64 0, .int .i64 0, .int .i64 0, .int .i64 0, .int .i64 0, .int .i64 0, .slice none 0 0], .agg #[.slice P m pc, .int .i64 (x : Int)]]))
      (set2 (set9 w8 w.heap.size (.int .i64 0) (.int .i64 0) (.int .i64 0) (.int .i64 0) (.int .i64 0) (.int .i64 0) (.int .i64 0) (.int .i64 0) (.slice none 0 0)) (w.heap.size + 1) (.slice P m pc) (.int .i64 (x : Int))) := by
  obtain ⟨_, _, h3, h4, h5⟩ := rret rfl hR hW hB (.int .i64 0) (.int .i64 0) (.int .i64 0) (.int .i64 0) (.int .i64 0) (.int .i64 0) (.int .i64 0) (.int .i64 0) (.slice none 0 0) (.slice P m pc) (.int .i64 (x : Int))
  refine ⟨none, 0, 0, P, m, pc, rfl, RowsAt.empty _ _ _, h3, fun _ => ?_⟩
  rw [h5]
  exact hp.chg2 h4 (fun b hs => by
    rcases hs with rfl | rfl
    · exact ⟨_, _, hR, nostr9⟩
    · exact ⟨_, _, hW, nostr2⟩)
set_option maxRecDepth 100000 in
set_option maxHeartbeats 3000000 in
theorem refDecode_any (A : Option Addr) (n c : Nat) (l : List Nat) (w : World) (hn : n ≤ 100000) (h : Byt w w.heap.size A n l) :
    Calls Tryd.prog 25 #[.slice A n c] w (RDecodePost w (decOut l)) := by
  have hbd := Lib.hid h.bnd
  have hlen := h.len
  have H := Lib.hid h
  clear h
  go_enter Tryd.func25, Tryd.ntmps25
  go_wp2_with fail
  obtain ⟨W, hW⟩ : ∃ W, W = (((w.alloc (.cells #[.int .i64 0, .int .i64 0, .int .i64 0, .int .i64 0, .int .i64 0, .int .i64 0, .int .i64 0, .int .i64 0, .slice none 0 0] 63)).alloc (.cells #[.slice none 0 0, .int .i64 0] 29)).alloc (.cells #[.slice A n c, .int .i64 0, .slice none 0 0, .int .i64 0] 103)) := ⟨_, rfl⟩
  have hBW : Below w.heap.size w W := by rw [hW]; exact bel_alloc (bel_alloc (bel_new w _) _) _
  have hsW : W.heap.size = w.heap.size + 3 := by rw [hW]; simp
  have hR : Box W w.heap.size 63 #[.int .i64 0, .int .i64 0, .int .i64 0, .int .i64 0, .int .i64 0, .int .i64 0, .int .i64 0, .int .i64 0, .slice none 0 0] := by rw [hW]; exact ((Box.fresh w _ _ rfl).kept_below (bel_new _ _) (by simp)).kept_below (bel_new _ _) (by simp; omega)
  have hWr : Box W (w.heap.size + 1) 29 #[.slice none 0 0, .int .i64 0] := by rw [hW]; exact (Box.fresh _ _ _ (by simp)).kept_below (bel_new _ _) (by simp)
  have hD : RDec W (w.heap.size + 2) l ⟨l, 0, 0⟩ := by
    refine .inl ⟨rfl, rfl, Nat.zero_le _, by omega, A, c, ?_, ?_⟩
    · rw [hW, hlen]; exact Box.fresh _ _ _ (by simp)
    · rw [hlen]; exact (H.out.carry hBW).wider (by omega)
  rw [show w.heap.size + 1 + 1 = w.heap.size + 2 from rfl, ← hW]
  have HR := Lib.hid hR
  have HWr := Lib.hid hWr
  have HD := Lib.hid hD
  clear hW hR hWr hD H
  refine (refDecInt_any (w.heap.size + 2) l ⟨l, 0, 0⟩ W HD.out).mono ?_
  rintro e w2 ⟨rfl, hd2⟩
  have HD2 := Lib.hid (show RDec w2 (w.heap.size + 2) l (intsSt 1 ⟨l, 0, 0⟩) from hd2.1)
  have Bw2 : Below w.heap.size w w2 := Chg.toBelow hBW hd2.2 hBW.size (fun i hi e => by omega)
  have HR2 := Lib.hid (HR.out.kept hd2.2 (by omega))
  have HW2 := Lib.hid (HWr.out.kept hd2.2 (by omega))
  have hz2 := hd2.2.size
  clear hd2 HR HWr HD hBW
  show _
  generalize hk0 : intVal ({ l := l, p := 0, e := 0 } : St).l = k0
  have HK0 := Lib.hid hk0
  clear hk0
  go_wp2_with fail
  refine (refDecInt_any (w.heap.size + 2) l (intsSt 1 ⟨l, 0, 0⟩) w2 HD2.out).mono ?_
  rintro e w3 ⟨rfl, hd3⟩
  have HD3 := Lib.hid (show RDec w3 (w.heap.size + 2) l (intsSt 2 ⟨l, 0, 0⟩) from hd3.1)
  have Bw3 : Below w.heap.size w w3 := Chg.toBelow Bw2 hd3.2 Bw2.size (fun i hi e => by omega)
  have HR3 := Lib.hid (HR2.out.kept hd3.2 (by omega))
  have HW3 := Lib.hid (HW2.out.kept hd3.2 (by omega))
  have hz3 := hd3.2.size
  clear hd3 HR2 HW2 HD2 Bw2
  generalize hs0 : intVal (intsSt 1 ⟨l, 0, 0⟩).l = s0
  have HS0 := Lib.hid hs0
  clear hs0
  go_wp2_with fail
  have hm : Box (w3.alloc (.cells #[.int .i64 0, .int .i64 s0, .int .i64 0, .int .i64 0, .int .i64 0, .int .i64 0, .int .i64 0, .int .i64 0, .slice none 0 0] 63)) w3.heap.size 63 #[.int .i64 0, .int .i64 s0, .int .i64 0, .int .i64 0, .int .i64 0, .int .i64 0, .int .i64 0, .int .i64 0, .slice none 0 0] := Box.fresh w3 _ _ rfl
  have B34 := bel_new w3 (.cells #[.int .i64 0, .int .i64 s0, .int .i64 0, .int .i64 0, .int .i64 0, .int .i64 0, .int .i64 0, .int .i64 0, .slice none 0 0] 63)
  have hz34 : (w3.alloc (.cells #[.int .i64 0, .int .i64 s0, .int .i64 0, .int .i64 0, .int .i64 0, .int .i64 0, .int .i64 0, .int .i64 0, .slice none 0 0] 63)).heap.size = w3.heap.size + 1 := by simp
  generalize (w3.alloc (.cells #[.int .i64 0, .int .i64 s0, .int .i64 0, .int .i64 0, .int .i64 0, .int .i64 0, .int .i64 0, .int .i64 0, .slice none 0 0] 63)) = w4 at *
  have hD4 := HD3.out.below B34
  have Bw4 : Below w.heap.size w w4 := bel_trans Bw3 B34
  have HR4 := Lib.hid (HR3.out.kept_below B34 HR3.out.there)
  have HW4 := Lib.hid (HW3.out.kept_below B34 HW3.out.there)
  have hgg : w.heap.size + 2 < w3.heap.size := by omega
  have hT0 : RTake w4 (w.heap.size + 2) l w3.heap.size 2 63 #[.int .i64 0, .int .i64 s0, .int .i64 0, .int .i64 0, .int .i64 0, .int .i64 0, .int .i64 0, .int .i64 0, .slice none 0 0] (intsSt 2 ⟨l, 0, 0⟩) 0 w4 := ⟨hD4, hm, Chg.refl _ _⟩
  have HT0 := Lib.hid hT0
  have hgm4 : w3.heap.size < w4.heap.size := by omega
  clear hm B34 hD4 hT0 HR3 HW3 HD3 Bw3 hz2 hz3
  go_loopw [7] (fun v7 wr => ∃ k : Nat, k ≤ 6 ∧ v7 = .int .i64 k ∧ Hid (RTake w4 (w.heap.size + 2) l w3.heap.size 2 63 #[.int .i64 0, .int .i64 s0, .int .i64 0, .int .i64 0, .int .i64 0, .int .i64 0, .int .i64 0, .int .i64 0, .slice none 0 0] (intsSt 2 ⟨l, 0, 0⟩) k wr)) (fun v7 _ => 6 - (intOf v7).toNat)
  case atStart => exact ⟨0, by omega, rfl, HT0⟩
  case round =>
    obtain ⟨k, hk, rfl, hK⟩ := hrel
    by_cases hlt : k < 6
    · go_wp2_with fail
      refine (refDecInt_any (w.heap.size + 2) l _ wr hK.out.1).mono ?_
      rintro e w5 ⟨rfl, hd⟩
      obtain ⟨hf, hcell, hnx⟩ := hK.out.step (by decide) hgg hd
      obtain ⟨v, hv⟩ := hcell (by simp; omega)
      have HX := Lib.hid hnx
      clear hd hnx hcell hK
      generalize intVal (intsSt k (intsSt 2 ⟨l, 0, 0⟩)).l = z at *
      have hk6 : (k : Int) < 6 := by omega
      go_wp2_with fail
      go_roundw
      case rel => exact ⟨k + 1, by omega, by go_num, HX⟩
      case measure => simp [intOf]; omega
    · obtain rfl : k = 6 := by omega
      obtain ⟨wq, rfl⟩ : ∃ wq, wq = wr := ⟨_, rfl⟩
      have hD5 : RDec wq (w.heap.size + 2) l (intsSt 8 ⟨l, 0, 0⟩) := hK.out.1
      have hm4' : ∃ a b c d e f : Int, Hid (headOf l = ⟨MsgMath.cut k0, s0, a, b, c, d, e, f⟩) ∧ Box wq w3.heap.size 63 #[.int .i64 0, .int .i64 s0, .int .i64 a, .int .i64 b, .int .i64 c, .int .i64 d, .int .i64 e, .int .i64 f, .slice none 0 0] := by
        refine ⟨_, _, _, _, _, _, Lib.hid ?_, hK.out.2.1⟩
        unfold headOf
        rw [← HK0.out, ← HS0.out]
        rfl
      obtain ⟨x0, x1, x2, x3, x4, x5, HH, hm5⟩ := hm4'
      have HM5 := Lib.hid hm5
      have HD5 := Lib.hid hD5
      have hch := hK.out.2.2
      have Bw5 : Below w.heap.size w wq := Chg.toBelow Bw4 hch Bw4.size (fun i hi e => by omega)
      have HR5 := Lib.hid (HR4.out.kept hch (by omega))
      have HW5 := Lib.hid (HW4.out.kept hch (by omega))
      have hz5 := hch.size
      clear hm5 hD5 hch HR4 HW4 HT0 hK Bw4
      go_wp2_with fail
      refine (refDecInt_any (w.heap.size + 2) l _ wq HD5.out).mono ?_
      rintro e w6 ⟨rfl, hd6⟩
      have HD6 := Lib.hid (show RDec w6 (w.heap.size + 2) l (headSt l) from hd6.1)
      have Bw6 : Below w.heap.size w w6 := Chg.toBelow Bw5 hd6.2 Bw5.size (fun i hi e => by omega)
      have HR6 := Lib.hid (HR5.out.kept hd6.2 (by omega))
      have HW6 := Lib.hid (HW5.out.kept hd6.2 (by omega))
      have HM6 := Lib.hid (HM5.out.kept hd6.2 (by omega))
      have hz6 := hd6.2.size
      clear hd6 HR5 HW5 HM5 HD5 Bw5
      generalize hn0 : intVal (intsSt 8 ⟨l, 0, 0⟩).l = n0
      have HN0 := Lib.hid hn0
      clear hn0
      have c3 := HD6.out.bad3
      by_cases he : (headSt l).e = 0
      · rw [he] at c3
        have HE := Lib.hid he
        have m1 := (HM6.out.reads 1).trans (show _ = some (Value.int .i64 s0) from rfl)
        go_wp2_with (go_at_call 52; refine Hid.out ?_)
        refine Lib.hid ?_
        have hwr := refWrong_any k0 s0 n0 w6
        unfold IntPost at hwr
        have HWR := Lib.hid hwr
        by_cases hck : MsgMath.chk k0 s0 n0 = 0
        · have hn64 : 0 ≤ n0 ∧ n0 ≤ 64 := by have h1 := MsgMath.chk_ok hck; have := MsgMath.most_bd k0; omega
          obtain ⟨N, rfl⟩ := Int.eq_ofNat_of_zero_le hn64.1
          have hcut : MsgMath.cut k0 = k0 := MsgMath.cut_of_known (MsgMath.chk_ok hck).1
          rw [hck] at HWR
          have HCK := Lib.hid hck
          have m0 := (HM6.out.reads 0).trans (show _ = some (Value.int .i64 0) from rfl)
          have fm := HM6.out.unmarked 0
          have hmw := HM6.out.wrote 0 (.int .i64 k0)
          have hcw : Chg (· = w3.heap.size) w6 (w6.setCell ⟨w3.heap.size, 0, none⟩ (.int .i64 k0)) := (Chg.refl (· = w3.heap.size) w6).setCell (p := ⟨w3.heap.size, 0, none⟩) (fun _ => rfl) _
          have h0 : RLoop w w6 (w.heap.size + 2) w3.heap.size l ⟨MsgMath.cut k0, s0, x0, x1, x2, x3, x4, x5⟩ (headSt l) 0 (w6.setCell ⟨w3.heap.size, 0, none⟩ (.int .i64 k0)) := by
            refine ⟨HD6.out.aside HM6.out (by decide) hgg hcw, ⟨none, 0, ?_, World.ownsRow_nil _ _ _ _⟩, HR6.out.kept hcw (by omega), HW6.out.kept hcw (by omega), Chg.toBelow Bw6 hcw Bw6.size (fun i hi e => by omega), hcw.size⟩
            dsimp only; rw [hcut]; simpa using hmw
          have H0 := Lib.hid h0
          have hgg2 : w.heap.size + 1 < w.heap.size + 2 ∧ w.heap.size + 2 < w3.heap.size ∧ w3.heap.size < w6.heap.size := ⟨by omega, hgg, by omega⟩
          have HCUT := Lib.hid hcut
          clear hwr hck hcut hmw hcw h0 HR6 HW6 HD6 Bw6 he c3
          obtain ⟨i0, hi0, hzz0, hzz1, hzz2⟩ := info_parts refmrow_info
          have HI0 := Lib.hid hi0
          have HI1 := Lib.hid hzz0
          have HI2 := Lib.hid hzz1
          have HI3 := Lib.hid hzz2
          have HGG := Lib.hid hgg2
          have HN64 := Lib.hid hn64
          clear hi0 hzz0 hzz1 hzz2 hgg2 hn64
          refine HWR.out.mono ?_
          rintro e w7 ⟨rfl, rfl⟩
          go_wp2_with fail
          clear m0 m1 fm
          go_loopw [10] (fun v10 wr => ∃ k : Nat, k ≤ N ∧ v10 = .int .i64 k ∧ Hid (RLoop w w6 (w.heap.size + 2) w3.heap.size l ⟨MsgMath.cut k0, s0, x0, x1, x2, x3, x4, x5⟩ (headSt l) k wr)) (fun v10 _ => N - (intOf v10).toNat)
          case atStart => exact ⟨0, by omega, rfl, H0⟩
          case round =>
            obtain ⟨k, hk, rfl, hK⟩ := hrel
            obtain ⟨wk, rfl⟩ : ∃ wk, wk = wr := ⟨_, rfl⟩
            obtain ⟨hd, ⟨A1, c1, hm, hown⟩, hres, hwrr, hbel, hsz⟩ := hK.out
            by_cases hltk : k < N
            · have HM := Lib.hid hm
              have HOW := Lib.hid hown
              have HRS := Lib.hid hres
              have HWS := Lib.hid hwrr
              have hT0 : RTake (wk.alloc (.cells #[.int .i64 0, .int .i64 0, .int .i64 0, .int .i64 0, .int .i64 0] 105)) (w.heap.size + 2) l wk.heap.size 0 105 #[.int .i64 0, .int .i64 0, .int .i64 0, .int .i64 0, .int .i64 0] (rowsSt k (headSt l)) 0 (wk.alloc (.cells #[.int .i64 0, .int .i64 0, .int .i64 0, .int .i64 0, .int .i64 0] 105)) := ⟨hd.below (bel_new wk _), Box.fresh wk _ _ rfl, Chg.refl _ _⟩
              have HT0 := Lib.hid hT0
              have hgk : w.heap.size + 2 < wk.heap.size := by omega
              have HBEL := Lib.hid hbel
              have HSZ := Lib.hid hsz
              clear hd hm hown hres hwrr hT0 hK hbel hsz
              go_wp2_with fail
              have HLT := Lib.hid hltk
              have HKN := Lib.hid hk
              clear hltk hk HE HN0 HCK HWR H0 HCUT HM6 HH HS0 HK0 hbd hlen hn
              go_loopw [12] (fun v12 wr => ∃ j : Nat, j ≤ 5 ∧ v12 = .int .i64 j ∧ Hid (RTake (wk.alloc (.cells #[.int .i64 0, .int .i64 0, .int .i64 0, .int .i64 0, .int .i64 0] 105)) (w.heap.size + 2) l wk.heap.size 0 105 #[.int .i64 0, .int .i64 0, .int .i64 0, .int .i64 0, .int .i64 0] (rowsSt k (headSt l)) j wr)) (fun v12 _ => 5 - (intOf v12).toNat)
              case atStart => exact ⟨0, by omega, rfl, HT0⟩
              case round =>
                obtain ⟨j, hj, rfl, hJ⟩ := hrel
                by_cases hltj : j < 5
                · go_wp2_with fail
                  refine (refDecInt_any (w.heap.size + 2) l _ wr hJ.out.1).mono ?_
                  rintro e w5' ⟨rfl, hd'⟩
                  obtain ⟨hf, hcell, hnx⟩ := hJ.out.step (by decide) hgk hd'
                  obtain ⟨v, hv⟩ := hcell (by simp; omega)
                  have HX := Lib.hid hnx
                  clear hd' hnx hcell hJ
                  rw [Nat.zero_add] at hf hv
                  generalize intVal (intsSt j (rowsSt k (headSt l))).l = z at *
                  have hj5 : (j : Int) < 5 := by omega
                  go_wp2_with fail
                  go_roundw
                  case rel => exact ⟨j + 1, by omega, by go_num, by rw [Nat.zero_add] at HX; exact HX⟩
                  case measure => simp [intOf]; omega
                · obtain rfl : j = 5 := by omega
                  obtain ⟨w9, rfl⟩ : ∃ w9, w9 = wr := ⟨_, rfl⟩
                  have hr6 := hJ.out.2.1
                  rw [putL5] at hr6
                  generalize hx : rowVal (rowsSt k (headSt l)) = x at hr6
                  obtain ⟨m8, hsz6, hown6, hnx⟩ := RLoop.step (h := ⟨MsgMath.cut k0, s0, x0, x1, x2, x3, x4, x5⟩) HM.out HOW.out HRS.out HWS.out HBEL.out HSZ.out HGG.out hx hJ.out.1 hJ.out.2.2
                  have r0 := hr6.reads 0
                  have r1 := hr6.reads 1
                  have r2 := hr6.reads 2
                  have r3 := hr6.reads 3
                  have r4 := hr6.reads 4
                  simp at r0 r1 r2 r3 r4
                  have HNX := Lib.hid hnx
                  have HOW6 := Lib.hid hown6
                  clear hnx hown6 hr6 HM HOW HRS HWS hx hJ HBEL HT0
                  have hn64 := HN64.out
                  have hltk := HLT.out
                  have hgs : w6.heap.size ≤ w9.heap.size := hsz6
                  go_wp2_with (at_builtin; refine Hid.out ?_)
                  refine Lib.hid ?_
                  refine wpList_append_own_at _ rfl (.tmp 72) (.tmp 74) _ rfl w6.heap.size 105 i0 _ 5 40 Tryd.underlying61 HI0.out HI1.out HI2.out HI3.out rfl (by omega) (.slice A1 k c1) k _ rfl (own_alloc HOW6.out _) ⟨w9.heap.size, 0, none⟩ 1 1 [.int .i64 x.p, .int .i64 x.q, .int .i64 x.r, .int .i64 x.s, .int .i64 x.t] rfl rfl (row_new _ _ _ _ _ _ _) (row_one _ _ _ _ _) (by simp only [maxLen]; omega) (by omega) (by simp; omega) ?_
                  intro v7 w7 hown7 hgr7 _ _
                  obtain ⟨A7, c7, rfl⟩ := own_slice hown7
                  obtain ⟨g8, f8, hfin⟩ := HNX.out _ _ w7 (bel_new w9 _) hown7 hgr7
                  have HFN := Lib.hid hfin
                  have hNN : N ≤ 64 := by omega
                  clear hfin hown7 hgr7 hn64
                  go_wp2_with fail
                  go_roundw
                  case rel => exact ⟨k + 1, by omega, by go_num, HFN⟩
                  case measure => simp [intOf]; omega
            · obtain rfl : k = N := by omega
              have hall : rowsSt k (headSt l) = allSt l := by
                unfold allSt headCount
                rw [HN0.out, Int.toNat_natCast]
              rw [hall] at hd
              have hhead : MsgMath.chk (rawKind l) (headSeq l) (headCount l) = 0 := by
                unfold rawKind headSeq headCount
                rw [HK0.out, HS0.out, HN0.out]; exact HCK.out
              have HHD := Lib.hid hhead
              have c3 := hd.bad3
              have HDk := Lib.hid hd
              have HM := Lib.hid hm
              have HOW := Lib.hid hown
              have HRS := Lib.hid hres
              have HWS := Lib.hid hwrr
              have HBEL := Lib.hid hbel
              clear hd hm hown hres hwrr hK hall hhead hbel H0 HM6 HWR hsz
              by_cases he2 : (allSt l).e = 0
              · rw [he2] at c3
                have hlf := refLeft_ok (w.heap.size + 2) l (allSt l) wk HDk.out he2
                obtain ⟨m0, m1, m2, m3, m4, m5, m6, m7, m8⟩ := box_cells9 HM.out
                have HE2 := Lib.hid he2
                by_cases hl0 : (allSt l).l = []
                · have ho : decOut l = ⟨[], 0, ⟨MsgMath.cut k0, s0, x0, x1, x2, x3, x4, x5⟩, rowsVal k (headSt l)⟩ := by
                    unfold decOut
                    rw [if_neg (by simp [HE.out]), if_neg (by simp [HHD.out]), if_neg (by simp [he2]), if_neg (by simp [hl0]), HH.out]
                    unfold headCount
                    rw [HN0.out, Int.toNat_natCast]
                  have HO := Lib.hid ho
                  rw [hl0] at hlf
                  have HLF := Lib.hid hlf
                  clear ho hlf hl0 he2 HE HHD HCK HN0 HS0 HK0 HH HCUT HDk HE2
                  go_wp2_with (go_at_call 54; refine Hid.out ?_)
                  refine Lib.hid ?_
                  refine HLF.out.mono ?_
                  rintro e w8 ⟨rfl, B8⟩
                  have hm8 := HM.out.kept_below B8 HM.out.there
                  obtain ⟨n0', n1', n2', n3', n4', n5', n6', n7', n8'⟩ := box_cells9 hm8
                  have hr8 := HRS.out.kept_below B8 HRS.out.there
                  have hw8 := HWS.out.kept_below B8 HWS.out.there
                  obtain ⟨r0, r1, r2, r3, r4, r5, r6, r7, r8⟩ := box_cells9 hr8
                  have f0 := hr8.unmarked 0
                  have f1 := hr8.unmarked 1
                  have f2 := hr8.unmarked 2
                  have f3 := hr8.unmarked 3
                  have f4 := hr8.unmarked 4
                  have f5 := hr8.unmarked 5
                  have f6 := hr8.unmarked 6
                  have f7 := hr8.unmarked 7
                  have f8 := hr8.unmarked 8
                  have s0' := (hw8.reads 0).trans (show _ = some (Value.slice none 0 0) from rfl)
                  have s1' := (hw8.reads 1).trans (show _ = some (Value.int .i64 0) from rfl)
                  have g0 := hw8.unmarked 0
                  have g1 := hw8.unmarked 1
                  have ho8 := own_chg HOW.out (Chg.of_below B8 (fun _ => False)) (fun _ _ h => h)
                  have HO8 := Lib.hid ho8
                  have HR8 := Lib.hid hr8
                  have HW8 := Lib.hid hw8
                  have HB8 := Lib.hid B8
                  clear hr8 hw8 hm8 B8 c3 ho8 m0 m1 m2 m3 m4 m5 m6 m7 m8 HM HOW HRS HWS
                  go_wp2_with fail
                  rw [HO.out, set9_def, set2_def]
                  have B08 : Below w.heap.size w w8 := bel_trans HBEL.out HB8.out
                  obtain ⟨hb9, hbw9, hbl9, hch9, hsz9⟩ := rret rfl HR8.out HW8.out B08 (.int .i64 (MsgMath.cut k0)) (.int .i64 s0) (.int .i64 x0) (.int .i64 x1) (.int .i64 x2) (.int .i64 x3) (.int .i64 x4) (.int .i64 x5) (.slice A1 k c1) (.slice none 0 0) (.int .i64 0)
                  have hra : RowsAt w8 w8.heap.size A1 k (rowsVal k (headSt l)) := RowsAt.ofOwn HO8.out (rowsVal_len _ _) (rowsVal_ok _ (intsSt_bd 9 hbd.out))
                  have fin : RDecodePost w ⟨[], 0, ⟨MsgMath.cut k0, s0, x0, x1, x2, x3, x4, x5⟩, rowsVal k (headSt l)⟩ (.returned (.tuple #[.agg #[.int .i64 (MsgMath.cut k0), .int .i64 s0, .int .i64 x0, .int .i64 x1, .int .i64 x2, .int .i64 x3, .int .i64 x4, .int .i64 x5, .slice A1 k c1], .agg #[.slice none 0 0, .int .i64 0]])) (set2 (set9 w8 w.heap.size (.int .i64 (MsgMath.cut k0)) (.int .i64 s0) (.int .i64 x0) (.int .i64 x1) (.int .i64 x2) (.int .i64 x3) (.int .i64 x4) (.int .i64 x5) (.slice A1 k c1)) (w.heap.size + 1) (.slice none 0 0) (.int .i64 0)) :=
                    ⟨A1, k, c1, none, 0, 0, rfl, hra.kept hch9 (fun b o e hn hb => by
                      have h1 := (HO8.out.lt b (by rw [e]; rfl)).1
                      omega), hbl9, fun h => absurd rfl h⟩
                  generalize set2 (set9 w8 w.heap.size (.int .i64 (MsgMath.cut k0)) (.int .i64 s0) (.int .i64 x0) (.int .i64 x1) (.int .i64 x2) (.int .i64 x3) (.int .i64 x4) (.int .i64 x5) (.slice A1 k c1)) (w.heap.size + 1) (.slice none 0 0) (.int .i64 0) = W9 at *
                  obtain ⟨q0, q1, q2, q3, q4, q5, q6, q7, q8⟩ := box_cells9 hb9
                  have t0 := (hbw9.reads 0).trans (show _ = some (Value.slice none 0 0) from rfl)
                  have t1 := (hbw9.reads 1).trans (show _ = some (Value.int .i64 0) from rfl)
                  exact bodyPost_ret (v := .tuple #[.agg #[.int .i64 (MsgMath.cut k0), .int .i64 s0, .int .i64 x0, .int .i64 x1, .int .i64 x2, .int .i64 x3, .int .i64 x4, .int .i64 x5, .slice A1 k c1], .agg #[.slice none 0 0, .int .i64 0]]) (by simp [results, Tryd.results25, go_sem, q0, q1, q2, q3, q4, q5, q6, q7, q8, t0, t1]) rfl fin
                · have hlp : 0 < (allSt l).l.length := by
                    rcases Nat.eq_zero_or_pos (allSt l).l.length with h | h
                    · exact absurd (List.eq_nil_of_length_eq_zero h) hl0
                    · exact h
                  have ho : decOut l = Out.bad [(msgBytes, MsgMath.cut k0)] 2 := by
                    unfold decOut
                    rw [if_neg (by simp [HE.out]), if_neg (by simp [HHD.out]), if_neg (by simp [he2]), if_pos hl0]
                    unfold rawKind
                    rw [HK0.out]
                  have HO := Lib.hid ho
                  generalize (allSt l).l.length = LL at hlp hlf
                  have HLF := Lib.hid hlf
                  clear ho hlf hl0 he2 HE HHD HCK HN0 HS0 HK0 HH HCUT HDk HE2
                  go_wp2_with (go_at_call 54; refine Hid.out ?_)
                  refine Lib.hid ?_
                  refine HLF.out.mono ?_
                  rintro e w7 ⟨rfl, B7⟩
                  have n0' := (B7.cell (p := ⟨w3.heap.size, 0, none⟩) HM.out.there).trans m0
                  clear m0 m1 m2 m3 m4 m5 m6 m7 m8
                  go_wp2_with (go_at_call 19; refine Hid.out ?_)
                  refine Lib.hid ?_
                  refine (refAtB _ _ _ _).mono ?_
                  rintro e w8 ⟨bP, pc, rfl, hp8, B78⟩
                  have B8 := bel_trans B7 B78
                  have hr8 := HRS.out.kept_below B8 HRS.out.there
                  have hw8 := HWS.out.kept_below B8 HWS.out.there
                  obtain ⟨r0, r1, r2, r3, r4, r5, r6, r7, r8⟩ := box_cells9 hr8
                  have f0 := hr8.unmarked 0
                  have f1 := hr8.unmarked 1
                  have f2 := hr8.unmarked 2
                  have f3 := hr8.unmarked 3
                  have f4 := hr8.unmarked 4
                  have f5 := hr8.unmarked 5
                  have f6 := hr8.unmarked 6
                  have f7 := hr8.unmarked 7
                  have f8 := hr8.unmarked 8
                  have s0' := (hw8.reads 0).trans (show _ = some (Value.slice none 0 0) from rfl)
                  have s1' := (hw8.reads 1).trans (show _ = some (Value.int .i64 0) from rfl)
                  have g0 := hw8.unmarked 0
                  have g1 := hw8.unmarked 1
                  have HR8 := Lib.hid hr8
                  have HW8 := Lib.hid hw8
                  have HP8 := Lib.hid hp8
                  have HB8 := Lib.hid B8
                  clear hr8 hw8 hp8 B8 B7 B78 c3 HM HOW HRS HWS n0'
                  go_wp2_with fail
                  rw [HO.out, set9_def, set2_def]
                  have B08 : Below w.heap.size w w8 := bel_trans HBEL.out HB8.out
                  have fin := rbad (x := 2) (pc := pc) HR8.out HW8.out B08 (Box.parts HP8.out)
                  obtain ⟨hb9, hbw9, _⟩ := rret rfl HR8.out HW8.out B08 (.int .i64 0) (.int .i64 0) (.int .i64 0) (.int .i64 0) (.int .i64 0) (.int .i64 0) (.int .i64 0) (.int .i64 0) (.slice none 0 0) (.slice (some ⟨bP, 0, none⟩) 1 pc) (.int .i64 2)
                  change RDecodePost w (Out.bad [(msgBytes, MsgMath.cut k0)] 2) (.returned (.tuple #[.agg #[.int .i64 0, .int .i64 0, .int .i64 0, .int .i64 0, .int .i64 0, .int .i64 0, .int .i64 0, .int .i64 0, .slice none 0 0], .agg #[.slice (some ⟨bP, 0, none⟩) 1 pc, .int .i64 2]])) (set2 (set9 w8 w.heap.size (.int .i64 0) (.int .i64 0) (.int .i64 0) (.int .i64 0) (.int .i64 0) (.int .i64 0) (.int .i64 0) (.int .i64 0) (.slice none 0 0)) (w.heap.size + 1) (.slice (some ⟨bP, 0, none⟩) 1 pc) (.int .i64 2)) at fin
                  generalize set2 (set9 w8 w.heap.size (.int .i64 0) (.int .i64 0) (.int .i64 0) (.int .i64 0) (.int .i64 0) (.int .i64 0) (.int .i64 0) (.int .i64 0) (.slice none 0 0)) (w.heap.size + 1) (.slice (some ⟨bP, 0, none⟩) 1 pc) (.int .i64 2) = W9 at *
                  obtain ⟨q0, q1, q2, q3, q4, q5, q6, q7, q8⟩ := box_cells9 hb9
                  have t0 := (hbw9.reads 0).trans (show _ = some (Value.slice (some ⟨bP, 0, none⟩) 1 pc) from rfl)
                  have t1 := (hbw9.reads 1).trans (show _ = some (Value.int .i64 2) from rfl)
                  exact bodyPost_ret (v := .tuple #[.agg #[.int .i64 0, .int .i64 0, .int .i64 0, .int .i64 0, .int .i64 0, .int .i64 0, .int .i64 0, .int .i64 0, .slice none 0 0], .agg #[.slice (some ⟨bP, 0, none⟩) 1 pc, .int .i64 2]]) (by simp [results, Tryd.results25, go_sem, q0, q1, q2, q3, q4, q5, q6, q7, q8, t0, t1]) rfl fin
              · have ho : decOut l = Out.bad [(msgBytes, 0), (byteBytes, ((allSt l).p : Int))] (allSt l).e := by
                  unfold decOut
                  rw [if_neg (by simp [HE.out]), if_neg (by simp [HHD.out]), if_pos he2]
                have HO := Lib.hid ho
                rcases HDk.out with ⟨e0, _⟩ | ⟨_, _, v, q, bP, pc, hbx, hpx⟩
                · exact absurd e0 he2
                have k2 := (hbx.reads 2).trans (show _ = some (Value.slice (some ⟨bP, 0, none⟩) 1 pc) from rfl)
                obtain ⟨X, hX⟩ : ∃ X, X = (allSt l).e := ⟨_, rfl⟩
                obtain ⟨pp, hpp⟩ : ∃ pp, pp = (allSt l).p := ⟨_, rfl⟩
                rw [← hX] at c3 HO
                rw [← hpp] at HO hpx
                have hne : ((X : Int) != 0) = true := by simp; omega
                have HIN := Lib.hid (refIn_one msgBytes byteBytes 0 pp X bP pc wk hpx)
                clear ho hbx hpx hX hpp he2 HDk HM HOW HE HHD HCK HN0 HS0 HK0 HH HCUT
                go_wp2_with (go_at_call 22; refine Hid.out ?_)
                refine Lib.hid ?_
                refine HIN.out.mono ?_
                rintro e w8 ⟨A8, n8, c8, rfl, hp8, B8⟩
                have hr8 := HRS.out.kept_below B8 HRS.out.there
                have hw8 := HWS.out.kept_below B8 HWS.out.there
                obtain ⟨r0, r1, r2, r3, r4, r5, r6, r7, r8⟩ := box_cells9 hr8
                have f0 := hr8.unmarked 0
                have f1 := hr8.unmarked 1
                have f2 := hr8.unmarked 2
                have f3 := hr8.unmarked 3
                have f4 := hr8.unmarked 4
                have f5 := hr8.unmarked 5
                have f6 := hr8.unmarked 6
                have f7 := hr8.unmarked 7
                have f8 := hr8.unmarked 8
                have s0' := (hw8.reads 0).trans (show _ = some (Value.slice none 0 0) from rfl)
                have s1' := (hw8.reads 1).trans (show _ = some (Value.int .i64 0) from rfl)
                have g0 := hw8.unmarked 0
                have g1 := hw8.unmarked 1
                have HR8 := Lib.hid hr8
                have HW8 := Lib.hid hw8
                have HP8 := Lib.hid hp8
                have HB8 := Lib.hid B8
                clear hr8 hw8 hp8 B8 c3 k2
                go_wp2_with fail
                rw [HO.out, set9_def, set2_def]
                have B08 : Below w.heap.size w w8 := bel_trans HBEL.out HB8.out
                have fin := rbad (x := X) (pc := c8) HR8.out HW8.out B08 HP8.out
                obtain ⟨hb9, hbw9, _⟩ := rret rfl HR8.out HW8.out B08 (.int .i64 0) (.int .i64 0) (.int .i64 0) (.int .i64 0) (.int .i64 0) (.int .i64 0) (.int .i64 0) (.int .i64 0) (.slice none 0 0) (.slice A8 n8 c8) (.int .i64 (X : Int))
                generalize set2 (set9 w8 w.heap.size (.int .i64 0) (.int .i64 0) (.int .i64 0) (.int .i64 0) (.int .i64 0) (.int .i64 0) (.int .i64 0) (.int .i64 0) (.slice none 0 0)) (w.heap.size + 1) (.slice A8 n8 c8) (.int .i64 (X : Int)) = W9 at *
                obtain ⟨q0, q1, q2, q3, q4, q5, q6, q7, q8⟩ := box_cells9 hb9
                have t0 := (hbw9.reads 0).trans (show _ = some (Value.slice A8 n8 c8) from rfl)
                have t1 := (hbw9.reads 1).trans (show _ = some (Value.int .i64 (X : Int)) from rfl)
                exact bodyPost_ret (v := .tuple #[.agg #[.int .i64 0, .int .i64 0, .int .i64 0, .int .i64 0, .int .i64 0, .int .i64 0, .int .i64 0, .int .i64 0, .slice none 0 0], .agg #[.slice A8 n8 c8, .int .i64 (X : Int)]]) (by simp [results, Tryd.results25, go_sem, q0, q1, q2, q3, q4, q5, q6, q7, q8, t0, t1]) rfl fin
        · have ho : decOut l = Out.bad [(msgBytes, MsgMath.cut k0)] (MsgMath.chk k0 s0 n0) := by
            unfold decOut rawKind headSeq headCount
            rw [HK0.out, HS0.out, HN0.out, if_neg (by simp [he]), if_pos hck]
          obtain ⟨X, hX⟩ : ∃ X, X = MsgMath.chk k0 s0 n0 := ⟨_, rfl⟩
          rw [← hX] at HWR ho
          have hX0 : X ≠ 0 := by rw [hX]; exact hck
          have HO := Lib.hid ho
          have hne : ((X : Int) != 0) = true := by simp; omega
          have HX0 := Lib.hid hX0
          clear hwr ho hX hck he hX0
          refine HWR.out.mono ?_
          rintro e w7 ⟨rfl, rfl⟩
          go_wp2_with (go_at_call 53; refine Hid.out ?_)
          refine Lib.hid ?_
          refine (refCut_any k0 _).mono ?_
          rintro e w7 ⟨rfl, rfl⟩
          go_wp2_with (go_at_call 19; refine Hid.out ?_)
          refine Lib.hid ?_
          refine (refAtB _ _ _ _).mono ?_
          rintro e w8 ⟨bP, pc, rfl, hp8, B8⟩
          have hr8 := HR6.out.kept_below B8 HR6.out.there
          have hw8 := HW6.out.kept_below B8 HW6.out.there
          obtain ⟨r0, r1, r2, r3, r4, r5, r6, r7, r8⟩ := box_cells9 hr8
          have f0 := hr8.unmarked 0
          have f1 := hr8.unmarked 1
          have f2 := hr8.unmarked 2
          have f3 := hr8.unmarked 3
          have f4 := hr8.unmarked 4
          have f5 := hr8.unmarked 5
          have f6 := hr8.unmarked 6
          have f7 := hr8.unmarked 7
          have f8 := hr8.unmarked 8
          have s0' := (hw8.reads 0).trans (show _ = some (Value.slice none 0 0) from rfl)
          have s1' := (hw8.reads 1).trans (show _ = some (Value.int .i64 0) from rfl)
          have g0 := hw8.unmarked 0
          have g1 := hw8.unmarked 1
          have HR8 := Lib.hid hr8
          have HW8 := Lib.hid hw8
          have HP8 := Lib.hid hp8
          have HB8 := Lib.hid B8
          clear hr8 hw8 hp8 B8
          go_wp2_with fail
          rw [HO.out, set9_def, set2_def]
          have B08 : Below w.heap.size w w8 := bel_trans Bw6 HB8.out
          have fin := rbad (x := X) (pc := pc) HR8.out HW8.out B08 (Box.parts HP8.out)
          obtain ⟨hb9, hbw9, _⟩ := rret rfl HR8.out HW8.out B08 (.int .i64 0) (.int .i64 0) (.int .i64 0) (.int .i64 0) (.int .i64 0) (.int .i64 0) (.int .i64 0) (.int .i64 0) (.slice none 0 0) (.slice (some ⟨bP, 0, none⟩) 1 pc) (.int .i64 (X : Int))
          generalize set2 (set9 w8 w.heap.size (.int .i64 0) (.int .i64 0) (.int .i64 0) (.int .i64 0) (.int .i64 0) (.int .i64 0) (.int .i64 0) (.int .i64 0) (.slice none 0 0)) (w.heap.size + 1) (.slice (some ⟨bP, 0, none⟩) 1 pc) (.int .i64 (X : Int)) = W9 at *
          obtain ⟨q0, q1, q2, q3, q4, q5, q6, q7, q8⟩ := box_cells9 hb9
          have t0 := (hbw9.reads 0).trans (show _ = some (Value.slice (some ⟨bP, 0, none⟩) 1 pc) from rfl)
          have t1 := (hbw9.reads 1).trans (show _ = some (Value.int .i64 (X : Int)) from rfl)
          exact bodyPost_ret (v := .tuple #[.agg #[.int .i64 0, .int .i64 0, .int .i64 0, .int .i64 0, .int .i64 0, .int .i64 0, .int .i64 0, .int .i64 0, .slice none 0 0], .agg #[.slice (some ⟨bP, 0, none⟩) 1 pc, .int .i64 (X : Int)]]) (by simp [results, Tryd.results25, go_sem, q0, q1, q2, q3, q4, q5, q6, q7, q8, t0, t1]) rfl fin
      · have ho : decOut l = Out.bad [(msgBytes, 0), (byteBytes, ((headSt l).p : Int))] (headSt l).e := by unfold decOut; rw [if_pos he]
        have HO := Lib.hid ho
        rcases HD6.out with ⟨e0, _⟩ | ⟨_, _, v, q, bP, pc, hbx, hpx⟩
        · exact absurd e0 he
        have k2 := (hbx.reads 2).trans (show _ = some (Value.slice (some ⟨bP, 0, none⟩) 1 pc) from rfl)
        obtain ⟨X, hX⟩ : ∃ X, X = (headSt l).e := ⟨_, rfl⟩
        obtain ⟨pp, hpp⟩ : ∃ pp, pp = (headSt l).p := ⟨_, rfl⟩
        rw [← hX] at c3 HO
        rw [← hpp] at HO hpx
        have hne : ((X : Int) != 0) = true := by simp; omega
        have HIN := Lib.hid (refIn_one msgBytes byteBytes 0 pp X bP pc w6 hpx)
        clear ho hbx hpx hX hpp he HD6
        go_wp2_with (go_at_call 22; refine Hid.out ?_)
        refine Lib.hid ?_
        refine HIN.out.mono ?_
        rintro e w8 ⟨A8, n8, c8, rfl, hp8, B8⟩
        have hr8 := HR6.out.kept_below B8 HR6.out.there
        have hw8 := HW6.out.kept_below B8 HW6.out.there
        obtain ⟨r0, r1, r2, r3, r4, r5, r6, r7, r8⟩ := box_cells9 hr8
        have f0 := hr8.unmarked 0
        have f1 := hr8.unmarked 1
        have f2 := hr8.unmarked 2
        have f3 := hr8.unmarked 3
        have f4 := hr8.unmarked 4
        have f5 := hr8.unmarked 5
        have f6 := hr8.unmarked 6
        have f7 := hr8.unmarked 7
        have f8 := hr8.unmarked 8
        have s0' := (hw8.reads 0).trans (show _ = some (Value.slice none 0 0) from rfl)
        have s1' := (hw8.reads 1).trans (show _ = some (Value.int .i64 0) from rfl)
        have g0 := hw8.unmarked 0
        have g1 := hw8.unmarked 1
        have HR8 := Lib.hid hr8
        have HW8 := Lib.hid hw8
        have HP8 := Lib.hid hp8
        have HB8 := Lib.hid B8
        clear hr8 hw8 hp8 B8 c3 k2
        go_wp2_with fail
        rw [HO.out, set9_def, set2_def]
        have B08 : Below w.heap.size w w8 := bel_trans Bw6 HB8.out
        have fin := rbad (x := X) (pc := c8) HR8.out HW8.out B08 HP8.out
        obtain ⟨hb9, hbw9, _⟩ := rret rfl HR8.out HW8.out B08 (.int .i64 0) (.int .i64 0) (.int .i64 0) (.int .i64 0) (.int .i64 0) (.int .i64 0) (.int .i64 0) (.int .i64 0) (.slice none 0 0) (.slice A8 n8 c8) (.int .i64 (X : Int))
        generalize set2 (set9 w8 w.heap.size (.int .i64 0) (.int .i64 0) (.int .i64 0) (.int .i64 0) (.int .i64 0) (.int .i64 0) (.int .i64 0) (.int .i64 0) (.slice none 0 0)) (w.heap.size + 1) (.slice A8 n8 c8) (.int .i64 (X : Int)) = W9 at *
        obtain ⟨q0, q1, q2, q3, q4, q5, q6, q7, q8⟩ := box_cells9 hb9
        have t0 := (hbw9.reads 0).trans (show _ = some (Value.slice A8 n8 c8) from rfl)
        have t1 := (hbw9.reads 1).trans (show _ = some (Value.int .i64 (X : Int)) from rfl)
        exact bodyPost_ret (v := .tuple #[.agg #[.int .i64 0, .int .i64 0, .int .i64 0, .int .i64 0, .int .i64 0, .int .i64 0, .int .i64 0, .int .i64 0, .slice none 0 0], .agg #[.slice A8 n8 c8, .int .i64 (X : Int)]]) (by simp [results, Tryd.results25, go_sem, q0, q1, q2, q3, q4, q5, q6, q7, q8, t0, t1]) rfl fin
end Go.Proofs.YtjfjdicdokdekaaDoor
