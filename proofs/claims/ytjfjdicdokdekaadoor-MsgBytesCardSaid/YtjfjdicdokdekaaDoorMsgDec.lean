/- The landed msg.Decode, whatever the bytes. -/
import Derived.Test.YtjfjdicdokdekaaDoorMsgEnc
set_option linter.unusedSimpArgs false
namespace Go.Proofs.YtjfjdicdokdekaaDoor
open Go.RowKit Go.Mem1 Go.CodMath

/-- So many rows read. -/
def rowVal (s : St) : R5 := ⟨intVal s.l, intVal (intSt s).l, intVal (intsSt 2 s).l, intVal (intsSt 3 s).l, intVal (intsSt 4 s).l⟩
def rowsVal : Nat → St → List R5
  | 0, _ => []
  | n + 1, s => rowVal s :: rowsVal n (intsSt 5 s)
def rowsSt : Nat → St → St
  | 0, s => s
  | n + 1, s => rowsSt n (intsSt 5 s)
theorem rowsSt_snoc : ∀ (n : Nat) (s : St), rowsSt (n + 1) s = intsSt 5 (rowsSt n s)
  | 0, _ => rfl
  | n + 1, s => by rw [rowsSt, rowsSt_snoc n, rowsSt]
theorem rowsVal_snoc : ∀ (n : Nat) (s : St), rowsVal (n + 1) s = rowsVal n s ++ [rowVal (rowsSt n s)]
  | 0, _ => rfl
  | n + 1, s => by rw [rowsVal, rowsVal_snoc n, rowsVal, rowsSt, List.cons_append]
theorem rowsVal_len : ∀ (n : Nat) (s : St), (rowsVal n s).length = n
  | 0, _ => rfl
  | n + 1, s => by rw [rowsVal, List.length_cons, rowsVal_len n]
theorem intVal_bd {l : List Nat} (h : ∀ x ∈ l, x < 256) : -9223372036854775808 ≤ intVal l ∧ intVal l ≤ 9223372036854775807 := by
  unfold intVal
  split
  · exact unz_bd (num_bd h).1
  · omega
theorem intSt_bd {s : St} (h : ∀ x ∈ s.l, x < 256) : ∀ x ∈ (intSt s).l, x < 256 := by
  unfold intSt failSt
  split
  · exact fun x hx => h x (List.mem_of_mem_drop hx)
  · split
    · exact fun x hx => by cases hx
    · exact h
theorem intsSt_bd : ∀ (n : Nat) {s : St}, (∀ x ∈ s.l, x < 256) → ∀ x ∈ (intsSt n s).l, x < 256
  | 0, _, h => h
  | n + 1, s, h => by rw [intsSt]; exact intsSt_bd n (intSt_bd h)
theorem rowVal_ok {s : St} (h : ∀ x ∈ s.l, x < 256) : (rowVal s).ok := by
  intro z hz
  simp only [R5.l, rowVal, List.mem_cons, List.mem_nil_iff, or_false] at hz
  rcases hz with rfl | rfl | rfl | rfl | rfl
  · exact intVal_bd h
  · exact intVal_bd (intSt_bd h)
  · exact intVal_bd (intsSt_bd 2 h)
  · exact intVal_bd (intsSt_bd 3 h)
  · exact intVal_bd (intsSt_bd 4 h)
theorem rowsSt_bd : ∀ (n : Nat) {s : St}, (∀ x ∈ s.l, x < 256) → ∀ x ∈ (rowsSt n s).l, x < 256
  | 0, _, h => h
  | n + 1, s, h => by rw [rowsSt]; exact rowsSt_bd n (intsSt_bd 5 h)
theorem rowsVal_ok : ∀ (n : Nat) {s : St}, (∀ x ∈ s.l, x < 256) → ∀ r ∈ rowsVal n s, r.ok
  | 0, _, _ => fun r hr => by cases hr
  | n + 1, s, h => by
    intro r hr
    rw [rowsVal] at hr
    rcases List.mem_cons.1 hr with rfl | hr
    · exact rowVal_ok h
    · exact rowsVal_ok n (intsSt_bd 5 h) r hr

/-- What Decode tells: parts and an Errno (0: none), a message. -/
structure Out where
  parts : List (ByteArray × Int)
  err : Nat
  hd : Hd
  rows : List R5
def Out.bad (parts : List (ByteArray × Int)) (err : Nat) : Out := ⟨parts, err, default, []⟩
/-- The first nine numbers. -/
def headSt (l : List Nat) : St := intsSt 9 ⟨l, 0, 0⟩
def rawKind (l : List Nat) : Int := intVal l
def headSeq (l : List Nat) : Int := intVal (intsSt 1 ⟨l, 0, 0⟩).l
def headCount (l : List Nat) : Int := intVal (intsSt 8 ⟨l, 0, 0⟩).l
def headOf (l : List Nat) : Hd :=
  ⟨MsgMath.cut (intVal l), intVal (intsSt 1 ⟨l, 0, 0⟩).l, intVal (intsSt 2 ⟨l, 0, 0⟩).l, intVal (intsSt 3 ⟨l, 0, 0⟩).l, intVal (intsSt 4 ⟨l, 0, 0⟩).l, intVal (intsSt 5 ⟨l, 0, 0⟩).l, intVal (intsSt 6 ⟨l, 0, 0⟩).l, intVal (intsSt 7 ⟨l, 0, 0⟩).l⟩
def allSt (l : List Nat) : St := rowsSt (headCount l).toNat (headSt l)
def decOut (l : List Nat) : Out :=
  if (headSt l).e ≠ 0 then Out.bad [(msgBytes, 0), (byteBytes, ((headSt l).p : Int))] (headSt l).e
  else if MsgMath.chk (rawKind l) (headSeq l) (headCount l) ≠ 0 then Out.bad [(msgBytes, MsgMath.cut (rawKind l))] (MsgMath.chk (rawKind l) (headSeq l) (headCount l))
  else if (allSt l).e ≠ 0 then Out.bad [(msgBytes, 0), (byteBytes, ((allSt l).p : Int))] (allSt l).e
  else if (allSt l).l ≠ [] then Out.bad [(msgBytes, MsgMath.cut (rawKind l))] 2
  else ⟨[], 0, headOf l, rowsVal (headCount l).toNat (headSt l)⟩
def DecodePost (w : World) (o : Out) (e : Ending) (w' : World) : Prop :=
  ∃ v A n c, e = .returned (.tuple #[.agg #[.int .i64 o.hd.k, .int .i64 o.hd.s, .int .i64 o.hd.a, .int .i64 o.hd.b, .int .i64 o.hd.c, .int .i64 o.hd.d, .int .i64 o.hd.e, .int .i64 o.hd.f, .slice A n c], v]) ∧
    RowsAt w' w'.heap.size A n o.rows ∧ (A = none → c = 0) ∧ Below w.heap.size w w' ∧ (o.err = 0 → v = .nilIface) ∧
    (o.err ≠ 0 → ∃ b, v = .iface 78 (.pointer (some ⟨b, 0, none⟩)) ∧ IsErr w' w'.heap.size o.parts (o.err : Int) v)
theorem DecodePost.ofBad {w w' : World} {at_ : Int} {l : List (ByteArray × Int)} {x b : Nat} (hx : x ≠ 0) (hE : IsErr w' w'.heap.size ((msgBytes, at_) :: l) (x : Int) (.iface 78 (.pointer (some ⟨b, 0, none⟩)))) (hB : Below w.heap.size w w') :
    DecodePost w (Out.bad ((msgBytes, at_) :: l) x) (.returned (.tuple #[.agg #[.int .i64 0, .int .i64 0, .int .i64 0, .int .i64 0, .int .i64 0, .int .i64 0, .int .i64 0, .int .i64 0, .slice none 0 0], .iface 78 (.pointer (some ⟨b, 0, none⟩))])) w' :=
  ⟨_, none, 0, 0, rfl, RowsAt.empty _ _ _, fun _ => rfl, hB, fun h => absurd h hx, fun _ => ⟨b, rfl, hE⟩⟩

theorem IsErr.chg {w w' : World} {B g : Nat} {t : TypeId} {cs : Array Value} (hb : Box w g t cs) (h0 : ∀ s, cs[0]? ≠ some (.string s)) (hc : Chg (· = g) w w') : ∀ {l : List (ByteArray × Int)} {n : Int} {v : Value}, IsErr w B l n v → IsErr w' B l n v
  | [], _, _, h => h
  | (_, _) :: _, _, _, ⟨b, u, e, hlt, h1, h2, h3, hr⟩ => by
    have hne : b ≠ g := by
      rintro rfl
      rw [hb.reads 0] at h1
      exact h0 _ h1
    exact ⟨b, u, e, hlt, hc.cell h1 hne, hc.cell h2 hne, hc.cell h3 hne, IsErr.chg hb h0 hc hr⟩
/-- Nine cells written. -/
def set9 (w : World) (g : Nat) (v0 v1 v2 v3 v4 v5 v6 v7 v8 : Value) : World :=
  ((((((((w.setCell ⟨g, 0, none⟩ v0).setCell ⟨g, 1, none⟩ v1).setCell ⟨g, 2, none⟩ v2).setCell ⟨g, 3, none⟩ v3).setCell ⟨g, 4, none⟩ v4).setCell ⟨g, 5, none⟩ v5).setCell ⟨g, 6, none⟩ v6).setCell ⟨g, 7, none⟩ v7).setCell ⟨g, 8, none⟩ v8
theorem set9_def (w : World) (g : Nat) (v0 v1 v2 v3 v4 v5 v6 v7 v8 : Value) :
    ((((((((w.setCell ⟨g, 0, none⟩ v0).setCell ⟨g, 1, none⟩ v1).setCell ⟨g, 2, none⟩ v2).setCell ⟨g, 3, none⟩ v3).setCell ⟨g, 4, none⟩ v4).setCell ⟨g, 5, none⟩ v5).setCell ⟨g, 6, none⟩ v6).setCell ⟨g, 7, none⟩ v7).setCell ⟨g, 8, none⟩ v8 = set9 w g v0 v1 v2 v3 v4 v5 v6 v7 v8 := rfl
theorem set9_box {w : World} {g : Nat} {t : TypeId} {c0 c1 c2 c3 c4 c5 c6 c7 c8 : Value} (h : Box w g t #[c0, c1, c2, c3, c4, c5, c6, c7, c8]) (v0 v1 v2 v3 v4 v5 v6 v7 v8 : Value) :
    Box (set9 w g v0 v1 v2 v3 v4 v5 v6 v7 v8) g t #[v0, v1, v2, v3, v4, v5, v6, v7, v8] := by
  have := ((((((((h.wrote 0 v0).wrote 1 v1).wrote 2 v2).wrote 3 v3).wrote 4 v4).wrote 5 v5).wrote 6 v6).wrote 7 v7).wrote 8 v8
  simpa [set9] using this
theorem set9_chg (w : World) (g : Nat) (v0 v1 v2 v3 v4 v5 v6 v7 v8 : Value) : Chg (· = g) w (set9 w g v0 v1 v2 v3 v4 v5 v6 v7 v8) :=
  (((((((((Chg.refl (· = g) w).setCell (p := ⟨g, 0, none⟩) (fun _ => rfl) v0).setCell (p := ⟨g, 1, none⟩) (fun _ => rfl) v1).setCell (p := ⟨g, 2, none⟩) (fun _ => rfl) v2).setCell (p := ⟨g, 3, none⟩) (fun _ => rfl) v3).setCell (p := ⟨g, 4, none⟩) (fun _ => rfl) v4).setCell (p := ⟨g, 5, none⟩) (fun _ => rfl) v5).setCell (p := ⟨g, 6, none⟩) (fun _ => rfl) v6).setCell (p := ⟨g, 7, none⟩) (fun _ => rfl) v7).setCell (p := ⟨g, 8, none⟩) (fun _ => rfl) v8
theorem set9_size (w : World) (g : Nat) (v0 v1 v2 v3 v4 v5 v6 v7 v8 : Value) : (set9 w g v0 v1 v2 v3 v4 v5 v6 v7 v8).heap.size = w.heap.size := by
  simp [set9, World.setCell]
theorem set9_below {a w : World} {B g : Nat} (h : Below B a w) (hg : B ≤ g) (hB : B ≤ w.heap.size) (v0 v1 v2 v3 v4 v5 v6 v7 v8 : Value) : Below B a (set9 w g v0 v1 v2 v3 v4 v5 v6 v7 v8) :=
  Chg.toBelow h (set9_chg w g v0 v1 v2 v3 v4 v5 v6 v7 v8) hB (fun i hi e => by omega)
theorem set9_bad {w w7 : World} {g : Nat} {t : TypeId} {cs : Array Value} {at_ : Int} {l : List (ByteArray × Int)} {x b : Nat} (hx : x ≠ 0) (hE : IsErr w7 w7.heap.size ((msgBytes, at_) :: l) (x : Int) (.iface 78 (.pointer (some ⟨b, 0, none⟩)))) (hB : Below w.heap.size w w7) (hb : Box w7 g t cs) (h0 : ∀ s, cs[0]? ≠ some (.string s)) (hg : w.heap.size ≤ g) (v0 v1 v2 v3 v4 v5 v6 v7 v8 : Value) :
    DecodePost w (Out.bad ((msgBytes, at_) :: l) x) (.returned (.tuple #[.agg #[.int .i64 0, .int .i64 0, .int .i64 0, .int .i64 0, .int .i64 0, .int .i64 0, .int .i64 0, .int .i64 0, .slice none 0 0], .iface 78 (.pointer (some ⟨b, 0, none⟩))])) (set9 w7 g v0 v1 v2 v3 v4 v5 v6 v7 v8) :=
  DecodePost.ofBad hx (by rw [set9_size]; exact hE.chg hb h0 (set9_chg ..)) (set9_below hB hg hB.size ..)
theorem ErrPost.isErr {w' : World} {s : St} {b : Nat} (h : Box w' b 82 #[.string byteBytes, .int .i64 (s.p : Int), .iface 77 (.int .i64 (s.e : Int))]) :
    IsErr w' w'.heap.size [(byteBytes, (s.p : Int))] (s.e : Int) (.iface 78 (.pointer (some ⟨b, 0, none⟩))) :=
  ⟨b, _, rfl, h.there, (h.reads 0).trans rfl, (h.reads 1).trans rfl, (h.reads 2).trans rfl, rfl⟩
theorem row_info : (Tryd.prog.info? 88).map (fun i => (i.zero, i.size, i.bytes)) = some (some (.agg #[.int .i64 0, .int .i64 0, .int .i64 0, .int .i64 0, .int .i64 0]), 5, 40) := by kernel_rfl
theorem putL5 (c0 c1 c2 c3 c4 : Value) (s : St) : putL #[c0, c1, c2, c3, c4] 0 (intsVal 5 s) = #[.int .i64 (rowVal s).p, .int .i64 (rowVal s).q, .int .i64 (rowVal s).r, .int .i64 (rowVal s).s, .int .i64 (rowVal s).t] := by
  have e : intsVal 5 s = [(rowVal s).p, (rowVal s).q, (rowVal s).r, (rowVal s).s, (rowVal s).t] := by simp only [intsVal, rowVal, intsSt]
  rw [e]
  simp [putL]
theorem row_new (w : World) (c0 c1 c2 c3 c4 : Value) (t : TypeId) : ∀ j u, [c0, c1, c2, c3, c4][j]? = some u → (w.alloc (.cells #[c0, c1, c2, c3, c4] t)).cell? ((⟨w.heap.size, 0, none⟩ : Addr).add j) = some u := by
  intro j u hu
  match j, hu with
  | 0, hu => injection hu with hu; subst hu; simp [Addr.add]
  | 1, hu => injection hu with hu; subst hu; simp [Addr.add]
  | 2, hu => injection hu with hu; subst hu; simp [Addr.add]
  | 3, hu => injection hu with hu; subst hu; simp [Addr.add]
  | 4, hu => injection hu with hu; subst hu; simp [Addr.add]
  | j + 5, hu => simp at hu
theorem row_one (a b c d e : Int) : ∀ u ∈ [Value.int .i64 a, Value.int .i64 b, Value.int .i64 c, Value.int .i64 d, Value.int .i64 e], u.oneCell' = true := by
  intro u hu
  simp at hu
  rcases hu with rfl | rfl | rfl | rfl | rfl <;> rfl
/-- So many rows are read. -/
def DecLoop (w w5 : World) (B gd gm : Nat) (h : Hd) (s : St) (k : Nat) (wr : World) : Prop :=
  DecAt wr B gd (rowsSt k s) ∧ (∃ A c, Box wr gm 58 #[.int .i64 h.k, .int .i64 h.s, .int .i64 h.a, .int .i64 h.b, .int .i64 h.c, .int .i64 h.d, .int .i64 h.e, .int .i64 h.f, .slice A k c] ∧
    wr.ownsRow w5.heap.size 88 5 (.slice A k c) k (rowCells (rowsVal k s))) ∧
  Box wr w.heap.size 58 #[.int .i64 0, .int .i64 0, .int .i64 0, .int .i64 0, .int .i64 0, .int .i64 0, .int .i64 0, .int .i64 0, .slice none 0 0] ∧ Below w.heap.size w wr ∧ w5.heap.size ≤ wr.heap.size
theorem rowCells_snoc (rs : List R5) (x : R5) : rowCells (rs ++ [x]) = rowCells rs ++ [.int .i64 x.p, .int .i64 x.q, .int .i64 x.r, .int .i64 x.s, .int .i64 x.t] := by simp [rowCells, R5.l]
theorem RowsAt.ofOwn {w : World} {base n c : Nat} {e : TypeId} {A : Option Addr} {rs : List R5} (h : w.ownsRow base e 5 (.slice A n c) n (rowCells rs)) (hl : rs.length = n) (hok : ∀ r ∈ rs, r.ok) : RowsAt w w.heap.size A n rs := by
  refine ⟨hl, ⟨by rw [rowCells_len, hl], fun hn => ?_⟩, hok⟩
  rcases h.2 with ⟨hv, h0⟩ | ⟨g, cap, cur, hv, hb, hg, _⟩
  · omega
  · injection hv with hA _ _
    subst hA
    refine ⟨g, 0, rfl, (Array.getElem?_eq_some_iff.1 hg).1, fun k u hu => ?_⟩
    have := h.cells (g := g) rfl k u hu
    rcases Nat.eq_zero_or_pos k with h0 | h0
    · subst h0; simpa [Addr.add] using this
    · simpa [Addr.add, show k ≠ 0 by omega] using this
theorem own_nilcap {w : World} {base n c size : Nat} {e : TypeId} {A : Option Addr} {xs : List Value} (h : w.ownsRow base e size (.slice A n c) n xs) : A = none → c = 0 := by
  rintro rfl
  rcases h.2 with ⟨hv, _⟩ | ⟨_, _, _, hv, _⟩
  · injection hv
  · injection hv with hv; cases hv
theorem DecLoop.size {w w5 : World} {B gd gm : Nat} {h : Hd} {s : St} {k : Nat} {wr : World} (hh : DecLoop w w5 B gd gm h s k wr) : w5.heap.size ≤ wr.heap.size := hh.2.2.2.2
/-- A row is taken and put behind the others. -/
theorem DecLoop.step {w w5 : World} {B gd gm : Nat} {h : Hd} {s : St} {k : Nat} {wr w6 : World} {A1 : Option Addr} {c1 : Nat} {x : R5}
    (hm : Box wr gm 58 #[.int .i64 h.k, .int .i64 h.s, .int .i64 h.a, .int .i64 h.b, .int .i64 h.c, .int .i64 h.d, .int .i64 h.e, .int .i64 h.f, .slice A1 k c1])
    (hown : wr.ownsRow w5.heap.size 88 5 (.slice A1 k c1) k (rowCells (rowsVal k s)))
    (hres : Box wr w.heap.size 58 #[.int .i64 0, .int .i64 0, .int .i64 0, .int .i64 0, .int .i64 0, .int .i64 0, .int .i64 0, .int .i64 0, .slice none 0 0])
    (hbel : Below w.heap.size w wr) (hsz : w5.heap.size ≤ wr.heap.size) (hgg : w.heap.size < gd ∧ gd < gm ∧ gm < w5.heap.size) (hx : rowVal (rowsSt k s) = x)
    (hd6 : DecAt w6 B gd (intsSt 5 (rowsSt k s)))
    (hc6 : Chg (fun i => i = gd ∨ i = wr.heap.size) (wr.alloc (.cells #[.int .i64 0, .int .i64 0, .int .i64 0, .int .i64 0, .int .i64 0] 88)) w6) :
    w6.cell? ⟨gm, 8, none⟩ = some (.slice A1 k c1) ∧ w5.heap.size ≤ w6.heap.size ∧ w6.ownsRow w5.heap.size 88 5 (.slice A1 k c1) k (rowCells (rowsVal k s)) ∧
      ∀ (v : Value) (w7 : World), w7.ownsRow w5.heap.size 88 5 v (k + 1) (rowCells (rowsVal k s) ++ [.int .i64 x.p, .int .i64 x.q, .int .i64 x.r, .int .i64 x.s, .int .i64 x.t]) →
        (w6.alloc (.cells #[.int .i64 x.p, .int .i64 x.q, .int .i64 x.r, .int .i64 x.s, .int .i64 x.t] 88)).grownBy w7 (Value.slice A1 k c1).ownBlock →
        w7.cell? ⟨gm, 8, none⟩ = some (.slice A1 k c1) ∧ w7.frozen? ⟨gm, 8, none⟩ = false ∧ DecLoop w w5 B gd gm h s (k + 1) (w7.setCell ⟨gm, 8, none⟩ v) := by
  obtain ⟨g1, g2, g3⟩ := hgg
  have e1 : ∀ i, (Value.slice A1 k c1).ownBlock = some i → w5.heap.size ≤ i ∧ i < wr.heap.size := hown.lt
  have hm6 : Box w6 gm 58 _ := (hm.kept_below (bel_new wr _) hm.there).kept hc6 (by have := hm.there; omega)
  have hr6 : Box w6 w.heap.size 58 _ := (hres.kept_below (bel_new wr _) hres.there).kept hc6 (by have := hres.there; omega)
  have ho6 := own_chg (own_alloc hown (.cells #[.int .i64 0, .int .i64 0, .int .i64 0, .int .i64 0, .int .i64 0] 88)) hc6 (fun i hi => by have := e1 i hi; omega)
  have hz6 := hc6.size
  simp at hz6
  have hb6 : Below w.heap.size w w6 := Chg.toBelow (bel_alloc hbel _) hc6 (by simp; omega) (fun i hi e => by omega)
  refine ⟨by simpa using hm6.reads 8, by omega, ho6, ?_⟩
  intro v w7 hown7 hgr
  have hck : Chg (fun i => some i = (Value.slice A1 k c1).ownBlock) w6 w7 := (Chg.refl _ _).alloc _ |>.grown hgr (fun i _ e => e)
  have hm7 : Box w7 gm 58 _ := hm6.kept hck (fun e => by have := e1 gm e.symm; omega)
  have hr7 : Box w7 w.heap.size 58 _ := hr6.kept hck (fun e => by have := e1 _ e.symm; omega)
  have hd7 : DecAt w7 B gd (intsSt 5 (rowsSt k s)) := hd6.kept hck (fun b hb e => by have := e1 b e.symm; omega)
  have hb7 : Below w.heap.size w w7 := Chg.toBelow hb6 hck hb6.size (fun i hi e => by have := e1 i e.symm; omega)
  obtain ⟨A2, c2, rfl⟩ := own_slice hown7
  have hne : (Value.slice A2 (k + 1) c2).ownBlock ≠ some gm := fun e => by have := (hown7.lt gm e).1; omega
  refine ⟨by simpa using hm7.reads 8, hm7.unmarked 8, ?_, ⟨A2, c2, by simpa using hm7.wrote 8 (.slice A2 (k + 1) c2), ?_⟩, ?_, ?_, ?_⟩
  · rw [rowsSt_snoc]
    exact hd7.aside g2 ((Chg.refl (· = gm) w7).setCell (fun _ => rfl) _)
  · rw [rowsVal_snoc, rowCells_snoc, hx]
    exact own_set hown7 ⟨gm, 8, none⟩ _ hne
  · exact hr7.kept ((Chg.refl (· = gm) w7).setCell (p := ⟨gm, 8, none⟩) (fun _ => rfl) _) (by omega)
  · exact Chg.toBelow hb7 ((Chg.refl (· = gm) w7).setCell (p := ⟨gm, 8, none⟩) (fun _ => rfl) _) hb7.size (fun i hi e => by omega)
  · have := hck.size
    show w5.heap.size ≤ (w7.setCell _ _).heap.size
    simp [World.setCell]; omega
set_option maxRecDepth 100000 in
set_option maxHeartbeats 3000000 in
theorem decode_any (A : Option Addr) (n c : Nat) (l : List Nat) (w : World) (hn : n ≤ 1000000) (hc0 : A = none → c = 0) (h : Byt w w.heap.size A n l) :
    Calls Tryd.prog 24 #[.slice A n c] w (DecodePost w (decOut l)) := by
  have hbd := Lib.hid h.bnd
  have hof := fun w' (hB : Below w.heap.size w w') => of_any A n c l w' hn hc0 ((h.carry hB).wider hB.size)
  have HOF := Lib.hid hof
  clear hof h hc0
  go_enter Tryd.func24, Tryd.ntmps24
  go_wp2_with fail
  refine (HOF.out _ (bel_new _ _)).mono ?_
  rintro e w1 ⟨gd, rfl, hd1, B1⟩
  have hg1 := hd1.there
  have Bw1 : Below w.heap.size w w1 := bel_trans (bel_new _ _) B1
  simp at hg1
  have hb1 : Box w1 w.heap.size 58 #[.int .i64 0, .int .i64 0, .int .i64 0, .int .i64 0, .int .i64 0, .int .i64 0, .int .i64 0, .int .i64 0, .slice none 0 0] := (Box.fresh w _ _ rfl).kept_below B1 (by simp)
  have HD1 := Lib.hid hd1
  have HB1 := Lib.hid hb1
  clear B1 hb1 HOF HD1
  generalize (w.alloc (.cells #[.int .i64 0, .int .i64 0, .int .i64 0, .int .i64 0, .int .i64 0, .int .i64 0, .int .i64 0, .int .i64 0, .slice none 0 0] 58)).heap.size = B at hd1
  have HD1 := Lib.hid hd1
  clear hd1
  go_wp2_with fail
  refine (decInt_any gd B ⟨l, 0, 0⟩ w1 HD1.out).mono ?_
  rintro e w2 ⟨rfl, hd2, hc2⟩
  have HD2 := Lib.hid (show DecAt w2 B gd (intsSt 1 ⟨l, 0, 0⟩) from hd2)
  have Bw2 : Below w.heap.size w w2 := Chg.toBelow Bw1 hc2 Bw1.size (fun i hi e => by omega)
  have hb2 : Box w2 w.heap.size 58 _ := HB1.out.kept hc2 (by omega)
  have HB2 := Lib.hid hb2
  have hz2 := hc2.size
  clear hd2 hc2 hb2 HB1 HD1
  show _
  generalize hk0 : intVal ({ l := l, p := 0, e := 0 } : St).l = k0
  have HK0 := Lib.hid hk0
  clear hk0
  go_wp2_with fail
  refine (cut_any k0 w2).mono ?_
  rintro e w2' ⟨rfl, rfl⟩
  go_wp2_with fail
  refine (decInt_any gd B (intsSt 1 ⟨l, 0, 0⟩) w2 HD2.out).mono ?_
  rintro e w3 ⟨rfl, hd3, hc3⟩
  have HD3 := Lib.hid (show DecAt w3 B gd (intsSt 2 ⟨l, 0, 0⟩) from hd3)
  have Bw3 : Below w.heap.size w w3 := Chg.toBelow Bw2 hc3 Bw2.size (fun i hi e => by omega)
  have hb3 : Box w3 w.heap.size 58 _ := HB2.out.kept hc3 (by omega)
  have HB3 := Lib.hid hb3
  have hz3 := hc3.size
  clear hd3 hc3 hb3 HB2 HD2
  generalize hs0 : intVal (intsSt 1 ⟨l, 0, 0⟩).l = s0
  have HS0 := Lib.hid hs0
  clear hs0
  go_wp2_with fail
  have hm : Box (w3.alloc (.cells #[.int .i64 (MsgMath.cut k0), .int .i64 s0, .int .i64 0, .int .i64 0, .int .i64 0, .int .i64 0, .int .i64 0, .int .i64 0, .slice none 0 0] 58)) w3.heap.size 58 _ := Box.fresh w3 _ _ rfl
  refine (take_any gd B w3.heap.size 2 6 6 58 _ (intsSt 2 ⟨l, 0, 0⟩) _ (HD3.out.below (bel_new w3 _)) hm (by omega) (by simp) (by omega)).mono ?_
  rintro e w4 ⟨rfl, hd4, hm4, hc4⟩
  have HD4 := Lib.hid (show DecAt w4 B gd (intsSt 8 ⟨l, 0, 0⟩) from hd4)
  have hb4 : Box w4 w.heap.size 58 _ := (HB3.out.kept_below (bel_new w3 _) (by omega)).kept hc4 (by omega)
  have Bw4 : Below w.heap.size w w4 := Chg.toBelow (bel_alloc Bw3 _) hc4 (by simp; omega) (fun i hi e => by omega)
  have hz4 := hc4.size
  simp at hz4
  have hm4' : ∃ a b c d e f : Int, Hid (headOf l = ⟨MsgMath.cut k0, s0, a, b, c, d, e, f⟩) ∧ Box w4 w3.heap.size 58 #[.int .i64 (MsgMath.cut k0), .int .i64 s0, .int .i64 a, .int .i64 b, .int .i64 c, .int .i64 d, .int .i64 e, .int .i64 f, .slice none 0 0] := by
    refine ⟨_, _, _, _, _, _, Lib.hid ?_, hm4⟩
    unfold headOf
    rw [← HK0.out, ← HS0.out]
    rfl
  obtain ⟨x0, x1, x2, x3, x4, x5, HH, hm5⟩ := hm4'
  have HM4 := Lib.hid hm5
  have HB4 := Lib.hid hb4
  clear hd4 hm4 hc4 hm hm5 hb4 HB3 HD3
  go_wp2_with fail
  refine (decInt_any gd B (intsSt 8 ⟨l, 0, 0⟩) w4 HD4.out).mono ?_
  rintro e w5 ⟨rfl, hd5, hc5⟩
  have HD5 := Lib.hid (show DecAt w5 B gd (headSt l) from hd5)
  have Bw5 : Below w.heap.size w w5 := Chg.toBelow Bw4 hc5 Bw4.size (fun i hi e => by omega)
  have HB5 := Lib.hid (HB4.out.kept hc5 (by omega))
  have HM5 := Lib.hid (HM4.out.kept hc5 (by omega))
  have hz5 := hc5.size
  clear hd5 hc5 HB4 HM4 HD4
  generalize hn0 : intVal (intsSt 8 ⟨l, 0, 0⟩).l = n0
  have HN0 := Lib.hid hn0
  clear hn0
  go_wp2_with fail
  by_cases he : (headSt l).e = 0
  · refine (decErr_nil gd B _ w5 HD5.out he).mono ?_
    rintro e w6 ⟨rfl, rfl⟩
    have HE := Lib.hid he
    have m0 := HM5.out.reads 0
    have m1 := HM5.out.reads 1
    simp at m0 m1
    by_cases hck : MsgMath.chk k0 s0 n0 = 0
    · have hck' : MsgMath.chk (MsgMath.cut k0) s0 n0 = 0 := by rw [MsgMath.chk_cut]; exact hck
      have hcc := check_ok (MsgMath.cut k0) s0 n0 w5 hck'
      have HCC := Lib.hid hcc
      have HCK := Lib.hid hck
      have hn64 : 0 ≤ n0 ∧ n0 ≤ 64 := by have h1 := MsgMath.chk_ok hck; have := MsgMath.most_bd k0; omega
      obtain ⟨N, rfl⟩ := Int.eq_ofNat_of_zero_le hn64.1
      clear hck hck' hcc he
      go_wp2_with (go_at_call 49; refine HCC.out.mono ?_; rintro e w6 ⟨rfl, rfl⟩)
      have h0 : DecLoop w w5 B gd w3.heap.size ⟨MsgMath.cut k0, s0, x0, x1, x2, x3, x4, x5⟩ (headSt l) 0 w5 :=
        ⟨HD5.out, ⟨none, 0, HM5.out, World.ownsRow_nil _ _ _ _⟩, HB5.out, Bw5, Nat.le_refl _⟩
      have hgg : w.heap.size < gd ∧ gd < w3.heap.size ∧ w3.heap.size < w5.heap.size := ⟨by omega, by omega, by omega⟩
      have H0 := Lib.hid h0
      clear h0 m0 m1 HB5 HM5 HD5 HCC Bw1 Bw2 Bw3 Bw4 Bw5 hz2 hz3 hz4 hz5 hg1
      obtain ⟨i0, hi0, hzz0, hzz1, hzz2⟩ := info_parts row_info
      go_loopw [43] (fun v43 wr => ∃ k : Nat, k ≤ N ∧ v43 = .int .i64 k ∧ Hid (DecLoop w w5 B gd w3.heap.size ⟨MsgMath.cut k0, s0, x0, x1, x2, x3, x4, x5⟩ (headSt l) k wr)) (fun v43 _ => N - (intOf v43).toNat)
      case atStart => exact ⟨0, by omega, rfl, H0⟩
      case round =>
        obtain ⟨k, hk, rfl, hK⟩ := hrel
        by_cases hlt : k < N
        · obtain ⟨hd, ⟨A1, c1, hm, hown⟩, hres, hbel, hsz⟩ := hK.out
          have HDk := Lib.hid hd
          have HM := Lib.hid hm
          have HOW := Lib.hid hown
          have HRS := Lib.hid hres
          clear hd hm hown hres
          go_wp2_with fail
          refine (take_any gd B wr.heap.size 0 5 5 88 #[.int .i64 0, .int .i64 0, .int .i64 0, .int .i64 0, .int .i64 0] (rowsSt k (headSt l)) _ (HDk.out.below (bel_new wr _)) (Box.fresh wr _ _ rfl) (by omega) (by simp) (by omega)).mono ?_
          rintro e w6 ⟨rfl, hd6, hm6, hc6⟩
          have hr6 := hm6
          rw [putL5] at hr6
          clear hm6
          generalize hx : rowVal (rowsSt k (headSt l)) = x at hr6
          obtain ⟨m8, hsz6, hown6, hnx⟩ := DecLoop.step (h := ⟨MsgMath.cut k0, s0, x0, x1, x2, x3, x4, x5⟩) HM.out HOW.out HRS.out hbel hsz hgg hx hd6 hc6
          have r0 := hr6.reads 0
          have r1 := hr6.reads 1
          have r2 := hr6.reads 2
          have r3 := hr6.reads 3
          have r4 := hr6.reads 4
          simp at r0 r1 r2 r3 r4
          have HNX := Lib.hid hnx
          have HOW6 := Lib.hid hown6
          have hmv := Lib.hid hi0
          have hmv0 := Lib.hid hzz0
          have hmv1 := Lib.hid hzz1
          have hmv2 := Lib.hid hzz2
          clear hd6 hc6 hnx hown6 hr6 HM HOW HRS HDk hx hK hbel hi0 hzz0 hzz1 hzz2
          go_wp2_with (at_builtin; refine Hid.out ?_)
          refine Lib.hid ?_
          refine wpList_append_own_at _ rfl (.tmp 49) (.tmp 51) _ rfl w5.heap.size 88 i0 _ 5 40 Tryd.underlying56 hmv.out hmv0.out hmv1.out hmv2.out rfl (by omega) (.slice A1 k c1) k _ rfl (own_alloc HOW6.out _) ⟨w6.heap.size, 0, none⟩ 1 1 [.int .i64 x.p, .int .i64 x.q, .int .i64 x.r, .int .i64 x.s, .int .i64 x.t] rfl rfl (row_new _ _ _ _ _ _ _) (row_one _ _ _ _ _) (by simp only [maxLen]; omega) (by omega) (by simp; omega) ?_
          intro v7 w7 hown7 hgr7 _ _
          obtain ⟨A7, c7, rfl⟩ := own_slice hown7
          obtain ⟨g8, f8, hfin⟩ := HNX.out _ w7 hown7 hgr7
          have HFN := Lib.hid hfin
          clear hfin hown7 hgr7
          go_wp2_with fail
          go_roundw
          case rel => exact ⟨k + 1, by omega, by go_num, HFN⟩
          case measure => simp [intOf]; omega
        · obtain rfl : k = N := by omega
          obtain ⟨hd, ⟨A1, c1, hm, hown⟩, hres, hbel, hsz⟩ := hK.out
          have hall : rowsSt k (headSt l) = allSt l := by
            unfold allSt headCount
            rw [HN0.out, Int.toNat_natCast]
          rw [hall] at hd
          have HDk := Lib.hid hd
          have HM := Lib.hid hm
          have HOW := Lib.hid hown
          have HRS := Lib.hid hres
          have hhead : MsgMath.chk (rawKind l) (headSeq l) (headCount l) = 0 := by
            unfold rawKind headSeq headCount
            rw [HK0.out, HS0.out, HN0.out]; exact HCK.out
          have HHD := Lib.hid hhead
          have m0 := hm.reads 0
          have m1 := hm.reads 1
          have m2 := hm.reads 2
          have m3 := hm.reads 3
          have m4 := hm.reads 4
          have m5 := hm.reads 5
          have m6 := hm.reads 6
          have m7 := hm.reads 7
          have m8 := hm.reads 8
          simp at m0 m1 m2 m3 m4 m5 m6 m7 m8
          clear hd hm hown hres hK hall hhead hi0 hzz0 hzz1 hzz2 hlt
          go_wp2_with (go_at_call 47; refine Hid.out ?_)
          refine Lib.hid ?_
          by_cases he2 : (allSt l).e = 0
          · refine (decErr_nil gd B _ wr HDk.out he2).mono ?_
            rintro e w6 ⟨rfl, rfl⟩
            have HE2 := Lib.hid he2
            clear he2
            go_wp2_with (go_at_call 50; refine Hid.out ?_)
            refine Lib.hid ?_
            refine (decLeft_any gd B _ wr HDk.out).mono ?_
            rintro e w6 ⟨rfl, rfl⟩
            by_cases hl0 : (allSt l).l = []
            · have hlen : (allSt l).l.length = 0 := by rw [hl0]; rfl
              rw [hlen]
              have ho : decOut l = ⟨[], 0, headOf l, rowsVal k (headSt l)⟩ := by
                unfold decOut
                rw [if_neg (by simp [HE.out]), if_neg (by simp [HHD.out]), if_neg (by simp [HE2.out]), if_neg (by simp [hl0])]
                unfold headCount
                rw [HN0.out, Int.toNat_natCast]
              rw [HH.out] at ho
              have HO := Lib.hid ho
              have hb7 := HRS.out
              have r0 := hb7.reads 0
              have r1 := hb7.reads 1
              have r2 := hb7.reads 2
              have r3 := hb7.reads 3
              have r4 := hb7.reads 4
              have r5 := hb7.reads 5
              have r6 := hb7.reads 6
              have r7 := hb7.reads 7
              have r8 := hb7.reads 8
              simp at r0 r1 r2 r3 r4 r5 r6 r7 r8
              have f0 := hb7.unmarked 0
              have f1 := hb7.unmarked 1
              have f2 := hb7.unmarked 2
              have f3 := hb7.unmarked 3
              have f4 := hb7.unmarked 4
              have f5 := hb7.unmarked 5
              have f6 := hb7.unmarked 6
              have f7 := hb7.unmarked 7
              have f8 := hb7.unmarked 8
              clear ho hb7 hlen hl0
              go_wp2_with fail
              rw [HO.out, set9_def]
              have hb9 := set9_box HRS.out (.int .i64 (MsgMath.cut k0)) (.int .i64 s0) (.int .i64 x0) (.int .i64 x1) (.int .i64 x2) (.int .i64 x3) (.int .i64 x4) (.int .i64 x5) (.slice A1 k c1)
              have hch := set9_chg wr w.heap.size (.int .i64 (MsgMath.cut k0)) (.int .i64 s0) (.int .i64 x0) (.int .i64 x1) (.int .i64 x2) (.int .i64 x3) (.int .i64 x4) (.int .i64 x5) (.slice A1 k c1)
              have hra : RowsAt wr wr.heap.size A1 k (rowsVal k (headSt l)) := RowsAt.ofOwn HOW.out (rowsVal_len _ _) (rowsVal_ok _ (intsSt_bd 9 hbd.out))
              have fin : DecodePost w ⟨[], 0, ⟨MsgMath.cut k0, s0, x0, x1, x2, x3, x4, x5⟩, rowsVal k (headSt l)⟩ (.returned (.tuple #[.agg #[.int .i64 (MsgMath.cut k0), .int .i64 s0, .int .i64 x0, .int .i64 x1, .int .i64 x2, .int .i64 x3, .int .i64 x4, .int .i64 x5, .slice A1 k c1], .nilIface])) (set9 wr w.heap.size (.int .i64 (MsgMath.cut k0)) (.int .i64 s0) (.int .i64 x0) (.int .i64 x1) (.int .i64 x2) (.int .i64 x3) (.int .i64 x4) (.int .i64 x5) (.slice A1 k c1)) :=
                ⟨.nilIface, A1, k, c1, rfl, hra.kept hch (fun b o e hn hb => by
                  have := HOW.out.lt b (by rw [e]; rfl)
                  omega), own_nilcap HOW.out, set9_below hbel (Nat.le_refl _) hbel.size .., fun _ => rfl, fun h => absurd rfl h⟩
              generalize set9 wr w.heap.size (.int .i64 (MsgMath.cut k0)) (.int .i64 s0) (.int .i64 x0) (.int .i64 x1) (.int .i64 x2) (.int .i64 x3) (.int .i64 x4) (.int .i64 x5) (.slice A1 k c1) = W9 at *
              have q0 := hb9.reads 0
              have q1 := hb9.reads 1
              have q2 := hb9.reads 2
              have q3 := hb9.reads 3
              have q4 := hb9.reads 4
              have q5 := hb9.reads 5
              have q6 := hb9.reads 6
              have q7 := hb9.reads 7
              have q8 := hb9.reads 8
              simp at q0 q1 q2 q3 q4 q5 q6 q7 q8
              exact bodyPost_ret (v := .tuple #[.agg #[.int .i64 (MsgMath.cut k0), .int .i64 s0, .int .i64 x0, .int .i64 x1, .int .i64 x2, .int .i64 x3, .int .i64 x4, .int .i64 x5, .slice A1 k c1], .nilIface]) (by simp [results, Tryd.results24, go_sem, q0, q1, q2, q3, q4, q5, q6, q7, q8]) rfl fin
            · have hlp : 0 < (allSt l).l.length := by
                rcases Nat.eq_zero_or_pos (allSt l).l.length with h | h
                · exact absurd (List.eq_nil_of_length_eq_zero h) hl0
                · exact h
              have ho : decOut l = Out.bad [(msgBytes, MsgMath.cut k0)] 2 := by
                unfold decOut
                rw [if_neg (by simp [HE.out]), if_neg (by simp [HHD.out]), if_neg (by simp [HE2.out]), if_pos hl0]
                unfold rawKind
                rw [HK0.out]
              have HO := Lib.hid ho
              generalize (allSt l).l.length = L at *
              have hf := mfault_any (MsgMath.cut k0) [] 2 (.iface 77 (.int .i64 2)) wr rfl
              have HF := Lib.hid hf
              clear ho hl0 hf
              go_wp2_with (go_at_call 48; refine Hid.out ?_)
              refine Lib.hid ?_
              refine HF.out.mono ?_
              rintro e w7 ⟨b7, rfl, hE7, B7⟩
              have hb7 := HRS.out.kept_below B7 HRS.out.there
              have r0 := hb7.reads 0
              have r1 := hb7.reads 1
              have r2 := hb7.reads 2
              have r3 := hb7.reads 3
              have r4 := hb7.reads 4
              have r5 := hb7.reads 5
              have r6 := hb7.reads 6
              have r7 := hb7.reads 7
              have r8 := hb7.reads 8
              simp at r0 r1 r2 r3 r4 r5 r6 r7 r8
              have f0 := hb7.unmarked 0
              have f1 := hb7.unmarked 1
              have f2 := hb7.unmarked 2
              have f3 := hb7.unmarked 3
              have f4 := hb7.unmarked 4
              have f5 := hb7.unmarked 5
              have f6 := hb7.unmarked 6
              have f7 := hb7.unmarked 7
              have f8 := hb7.unmarked 8
              have HB7 := Lib.hid hb7
              have HE7 := Lib.hid hE7
              have HF7 := Lib.hid B7
              have HHE : Hid ((2 : Nat) ≠ 0) := Lib.hid (by decide)
              clear hb7 hE7 B7 m0 m1 m2 m3 m4 m5 m6 m7 m8
              go_wp2_with fail
              rw [HO.out, set9_def]
              have hb9 := set9_box HB7.out (.int .i64 0) (.int .i64 0) (.int .i64 0) (.int .i64 0) (.int .i64 0) (.int .i64 0) (.int .i64 0) (.int .i64 0) (.slice none 0 0)
              have fin := set9_bad HHE.out HE7.out (bel_trans hbel HF7.out) HB7.out (fun s h => by simp at h) (Nat.le_refl _) (.int .i64 0) (.int .i64 0) (.int .i64 0) (.int .i64 0) (.int .i64 0) (.int .i64 0) (.int .i64 0) (.int .i64 0) (.slice none 0 0)
              generalize set9 w7 w.heap.size (.int .i64 0) (.int .i64 0) (.int .i64 0) (.int .i64 0) (.int .i64 0) (.int .i64 0) (.int .i64 0) (.int .i64 0) (.slice none 0 0) = W9 at *
              have q0 := hb9.reads 0
              have q1 := hb9.reads 1
              have q2 := hb9.reads 2
              have q3 := hb9.reads 3
              have q4 := hb9.reads 4
              have q5 := hb9.reads 5
              have q6 := hb9.reads 6
              have q7 := hb9.reads 7
              have q8 := hb9.reads 8
              simp at q0 q1 q2 q3 q4 q5 q6 q7 q8
              exact bodyPost_ret (v := .tuple #[.agg #[.int .i64 0, .int .i64 0, .int .i64 0, .int .i64 0, .int .i64 0, .int .i64 0, .int .i64 0, .int .i64 0, .slice none 0 0], .iface 78 (.pointer (some ⟨b7, 0, none⟩))]) (by simp [results, Tryd.results24, go_sem, q0, q1, q2, q3, q4, q5, q6, q7, q8]) rfl fin
          · have ho : decOut l = Out.bad [(msgBytes, 0), (byteBytes, ((allSt l).p : Int))] (allSt l).e := by
              unfold decOut
              rw [if_neg (by simp [HE.out]), if_neg (by simp [HHD.out]), if_pos he2]
            have HO := Lib.hid ho
            refine (decErr_bad gd B _ wr HDk.out he2).mono ?_
            rintro e w6 ⟨b, rfl, hbx, B6⟩
            have hE6 := ErrPost.isErr hbx
            have Bw6 : Below w.heap.size w w6 := bel_trans hbel B6
            have HB6 := Lib.hid (HRS.out.kept_below B6 HRS.out.there)
            have HHE := Lib.hid he2
            have HE6 := Lib.hid hE6
            clear he2 ho hbx hE6 B6 HRS HM m0 m1 m2 m3 m4 m5 m6 m7 m8
            go_wp2_with (go_at_call 48; refine Hid.out ?_)
            refine Lib.hid ?_
            refine (mfault_any 0 _ _ _ w6 HE6.out).mono ?_
            rintro e w7 ⟨b7, rfl, hE7, B7⟩
            have hb7 := HB6.out.kept_below B7 HB6.out.there
            have r0 := hb7.reads 0
            have r1 := hb7.reads 1
            have r2 := hb7.reads 2
            have r3 := hb7.reads 3
            have r4 := hb7.reads 4
            have r5 := hb7.reads 5
            have r6 := hb7.reads 6
            have r7 := hb7.reads 7
            have r8 := hb7.reads 8
            simp at r0 r1 r2 r3 r4 r5 r6 r7 r8
            have f0 := hb7.unmarked 0
            have f1 := hb7.unmarked 1
            have f2 := hb7.unmarked 2
            have f3 := hb7.unmarked 3
            have f4 := hb7.unmarked 4
            have f5 := hb7.unmarked 5
            have f6 := hb7.unmarked 6
            have f7 := hb7.unmarked 7
            have f8 := hb7.unmarked 8
            have HB7 := Lib.hid hb7
            have HE7 := Lib.hid hE7
            have HF7 := Lib.hid B7
            clear hb7 hE7 HE6 B7
            go_wp2_with fail
            rw [HO.out, set9_def]
            have hb9 := set9_box HB7.out (.int .i64 0) (.int .i64 0) (.int .i64 0) (.int .i64 0) (.int .i64 0) (.int .i64 0) (.int .i64 0) (.int .i64 0) (.slice none 0 0)
            have fin := set9_bad HHE.out HE7.out (bel_trans Bw6 HF7.out) HB7.out (fun s h => by simp at h) (Nat.le_refl _) (.int .i64 0) (.int .i64 0) (.int .i64 0) (.int .i64 0) (.int .i64 0) (.int .i64 0) (.int .i64 0) (.int .i64 0) (.slice none 0 0)
            generalize set9 w7 w.heap.size (.int .i64 0) (.int .i64 0) (.int .i64 0) (.int .i64 0) (.int .i64 0) (.int .i64 0) (.int .i64 0) (.int .i64 0) (.slice none 0 0) = W9 at *
            have q0 := hb9.reads 0
            have q1 := hb9.reads 1
            have q2 := hb9.reads 2
            have q3 := hb9.reads 3
            have q4 := hb9.reads 4
            have q5 := hb9.reads 5
            have q6 := hb9.reads 6
            have q7 := hb9.reads 7
            have q8 := hb9.reads 8
            simp at q0 q1 q2 q3 q4 q5 q6 q7 q8
            exact bodyPost_ret (v := .tuple #[.agg #[.int .i64 0, .int .i64 0, .int .i64 0, .int .i64 0, .int .i64 0, .int .i64 0, .int .i64 0, .int .i64 0, .slice none 0 0], .iface 78 (.pointer (some ⟨b7, 0, none⟩))]) (by simp [results, Tryd.results24, go_sem, q0, q1, q2, q3, q4, q5, q6, q7, q8]) rfl fin
    · have ho : decOut l = Out.bad [(msgBytes, MsgMath.cut k0)] (MsgMath.chk k0 s0 n0) := by
        unfold decOut rawKind headSeq headCount
        rw [HK0.out, HS0.out, HN0.out, if_neg (by simp [he]), if_pos hck]
      have hck' : MsgMath.chk (MsgMath.cut k0) s0 n0 ≠ 0 := by rw [MsgMath.chk_cut]; exact hck
      have hcc := check_bad (MsgMath.cut k0) s0 n0 w5 hck'
      rw [MsgMath.chk_cut] at hcc
      have HCC := Lib.hid hcc
      have HHE := Lib.hid hck
      have HO := Lib.hid ho
      clear hck hck' hcc ho he HM5
      go_wp2_with fail
      refine HCC.out.mono ?_
      rintro e w7 ⟨b7, rfl, hE7, B7⟩
      have hb7 := HB5.out.kept_below B7 HB5.out.there
      have r0 := hb7.reads 0
      have r1 := hb7.reads 1
      have r2 := hb7.reads 2
      have r3 := hb7.reads 3
      have r4 := hb7.reads 4
      have r5 := hb7.reads 5
      have r6 := hb7.reads 6
      have r7 := hb7.reads 7
      have r8 := hb7.reads 8
      simp at r0 r1 r2 r3 r4 r5 r6 r7 r8
      have f0 := hb7.unmarked 0
      have f1 := hb7.unmarked 1
      have f2 := hb7.unmarked 2
      have f3 := hb7.unmarked 3
      have f4 := hb7.unmarked 4
      have f5 := hb7.unmarked 5
      have f6 := hb7.unmarked 6
      have f7 := hb7.unmarked 7
      have f8 := hb7.unmarked 8
      have HB7 := Lib.hid hb7
      have HE7 := Lib.hid hE7
      have HF7 := Lib.hid B7
      clear hb7 hE7 B7
      go_wp2_with fail
      rw [HO.out, set9_def]
      have hb9 := set9_box HB7.out (.int .i64 0) (.int .i64 0) (.int .i64 0) (.int .i64 0) (.int .i64 0) (.int .i64 0) (.int .i64 0) (.int .i64 0) (.slice none 0 0)
      have fin := set9_bad HHE.out HE7.out (bel_trans Bw5 HF7.out) HB7.out (fun s h => by simp at h) (Nat.le_refl _) (.int .i64 0) (.int .i64 0) (.int .i64 0) (.int .i64 0) (.int .i64 0) (.int .i64 0) (.int .i64 0) (.int .i64 0) (.slice none 0 0)
      generalize set9 w7 w.heap.size (.int .i64 0) (.int .i64 0) (.int .i64 0) (.int .i64 0) (.int .i64 0) (.int .i64 0) (.int .i64 0) (.int .i64 0) (.slice none 0 0) = W9 at *
      have q0 := hb9.reads 0
      have q1 := hb9.reads 1
      have q2 := hb9.reads 2
      have q3 := hb9.reads 3
      have q4 := hb9.reads 4
      have q5 := hb9.reads 5
      have q6 := hb9.reads 6
      have q7 := hb9.reads 7
      have q8 := hb9.reads 8
      simp at q0 q1 q2 q3 q4 q5 q6 q7 q8
      exact bodyPost_ret (v := .tuple #[.agg #[.int .i64 0, .int .i64 0, .int .i64 0, .int .i64 0, .int .i64 0, .int .i64 0, .int .i64 0, .int .i64 0, .slice none 0 0], .iface 78 (.pointer (some ⟨b7, 0, none⟩))]) (by simp [results, Tryd.results24, go_sem, q0, q1, q2, q3, q4, q5, q6, q7, q8]) rfl fin
  · have ho : decOut l = Out.bad [(msgBytes, 0), (byteBytes, ((headSt l).p : Int))] (headSt l).e := by unfold decOut; rw [if_pos he]
    have HO := Lib.hid ho
    refine (decErr_bad gd B _ w5 HD5.out he).mono ?_
    rintro e w6 ⟨b, rfl, hbx, B6⟩
    have hE6 := ErrPost.isErr hbx
    have Bw6 : Below w.heap.size w w6 := bel_trans Bw5 B6
    have HB6 := Lib.hid (HB5.out.kept_below B6 HB5.out.there)
    have HHE := Lib.hid he
    have HE6 := Lib.hid hE6
    clear he ho hbx hE6 B6 HB5 HM5
    go_wp2_with fail
    refine (mfault_any 0 _ _ _ w6 HE6.out).mono ?_
    rintro e w7 ⟨b7, rfl, hE7, B7⟩
    have hb7 := HB6.out.kept_below B7 HB6.out.there
    have r0 := hb7.reads 0
    have r1 := hb7.reads 1
    have r2 := hb7.reads 2
    have r3 := hb7.reads 3
    have r4 := hb7.reads 4
    have r5 := hb7.reads 5
    have r6 := hb7.reads 6
    have r7 := hb7.reads 7
    have r8 := hb7.reads 8
    simp at r0 r1 r2 r3 r4 r5 r6 r7 r8
    have f0 := hb7.unmarked 0
    have f1 := hb7.unmarked 1
    have f2 := hb7.unmarked 2
    have f3 := hb7.unmarked 3
    have f4 := hb7.unmarked 4
    have f5 := hb7.unmarked 5
    have f6 := hb7.unmarked 6
    have f7 := hb7.unmarked 7
    have f8 := hb7.unmarked 8
    have HB7 := Lib.hid hb7
    have HE7 := Lib.hid hE7
    have HF7 := Lib.hid B7
    clear hb7 hE7 HE6 B7
    go_wp2_with fail
    rw [HO.out, set9_def]
    have hb9 := set9_box HB7.out (.int .i64 0) (.int .i64 0) (.int .i64 0) (.int .i64 0) (.int .i64 0) (.int .i64 0) (.int .i64 0) (.int .i64 0) (.slice none 0 0)
    have fin := set9_bad HHE.out HE7.out (bel_trans Bw6 HF7.out) HB7.out (fun s h => by simp at h) (Nat.le_refl _) (.int .i64 0) (.int .i64 0) (.int .i64 0) (.int .i64 0) (.int .i64 0) (.int .i64 0) (.int .i64 0) (.int .i64 0) (.slice none 0 0)
    generalize set9 w7 w.heap.size (.int .i64 0) (.int .i64 0) (.int .i64 0) (.int .i64 0) (.int .i64 0) (.int .i64 0) (.int .i64 0) (.int .i64 0) (.slice none 0 0) = W9 at *
    have q0 := hb9.reads 0
    have q1 := hb9.reads 1
    have q2 := hb9.reads 2
    have q3 := hb9.reads 3
    have q4 := hb9.reads 4
    have q5 := hb9.reads 5
    have q6 := hb9.reads 6
    have q7 := hb9.reads 7
    have q8 := hb9.reads 8
    simp at q0 q1 q2 q3 q4 q5 q6 q7 q8
    exact bodyPost_ret (v := .tuple #[.agg #[.int .i64 0, .int .i64 0, .int .i64 0, .int .i64 0, .int .i64 0, .int .i64 0, .int .i64 0, .int .i64 0, .slice none 0 0], .iface 78 (.pointer (some ⟨b7, 0, none⟩))]) (by simp [results, Tryd.results24, go_sem, q0, q1, q2, q3, q4, q5, q6, q7, q8]) rfl fin
end Go.Proofs.YtjfjdicdokdekaaDoor
