/- The law's Of: a message as the reference's; the reference's Same. -/
import Derived.Test.YtjfjdicdokdekaaDoorMsgDec
import Derived.Test.YtjfjdicdokdekaaDoorMsgSame
import Derived.Deep.RegionLaw
set_option linter.unusedSimpArgs false
namespace Go.Mem1
open Go.RowKit
variable {P : Program} {w : World}
/-- An append of elements of several cells, at a step of a region that draws its order. -/
theorem step_append_at {ops : Array Oper} {o : Oper} {a : Act} {K : Act → World → Prop} {Q : Exit → Act → World → Prop} {E : Prop} (hgd : o.guard = none) (s x : Operand) (t : TypeId)
    (ho : o.op = .call { callee := .builtin .append, args := #[s, x], argTypes := #[t, t] })
    (base : Nat) (e : TypeId) (i : TypeInfo) (z : Value) (size bytes : Nat) (ht : P.underlying t = some (.slice e)) (hi : P.info? e = some i) (hz : i.zero = some z)
    (hsize : i.size = size) (hby : i.bytes = bytes) (hzs : z.cells.size = size) (hsz : 0 < size) (v : Value) (n : Nat) (xs : List Value) (hs : a.eval s = v) (hown : w.ownsRow base e size v n xs)
    (ad : Addr) (m c : Nat) (news : List Value) (hx : a.eval x = .slice (some ad) m c) (hl : news.length = m * size) (hnews : ∀ j u, news[j]? = some u → w.cell? (ad.add j) = some u) (h1 : ∀ u ∈ news, u.oneCell' = true)
    (h63 : n + m ≤ maxLen) (hbb : (n + m) * bytes ≤ 140737488355328) (hbase : base ≤ w.heap.size)
    (h : ∀ v' w', w'.ownsRow base e size v' (n + m) (xs ++ news) → w.grownBy w' v.ownBlock → (v'.ownBlock = v.ownBlock ∨ v'.ownBlock = some w.heap.size) → K (a.put o.dst v') w') :
    if Region.wanted o (yielded ops a.tmps) = true then Oper.wp P o a w K Q else E := by
  rw [if_pos (by simp [Region.wanted, hgd])]
  obtain ⟨v', w', hrun, h2, h3, _, h4⟩ := run_append_own_at (P := P) w base t o.type e i z size bytes ht hi hz hsize hby hzs hsz v n xs hown ad m c news hl hnews h1 h63 hbb hbase
  unfold Oper.wp execOp
  simp only [ho, resolve, invoke, builtin, Sem.run_bind, Sem.run_pure, Result.andThen_ok, List.map_toArray, List.map_cons, List.map_nil, hs, hx, hrun]
  exact h v' w' h2 h3 h4
end Go.Mem1
namespace Go.Proofs.YtjfjdicdokdekaaDoor
open Go.RowKit Go.Mem1 Go.CodMath

theorem box_cells9 {w : World} {g : Nat} {t : TypeId} {c0 c1 c2 c3 c4 c5 c6 c7 c8 : Value} (h : Box w g t #[c0, c1, c2, c3, c4, c5, c6, c7, c8]) :
    w.cell? ⟨g, 0, none⟩ = some c0 ∧ w.cell? ⟨g, 1, none⟩ = some c1 ∧ w.cell? ⟨g, 2, none⟩ = some c2 ∧ w.cell? ⟨g, 3, none⟩ = some c3 ∧ w.cell? ⟨g, 4, none⟩ = some c4 ∧ w.cell? ⟨g, 5, none⟩ = some c5 ∧ w.cell? ⟨g, 6, none⟩ = some c6 ∧ w.cell? ⟨g, 7, none⟩ = some c7 ∧ w.cell? ⟨g, 8, none⟩ = some c8 :=
  ⟨(h.reads 0).trans rfl, (h.reads 1).trans rfl, (h.reads 2).trans rfl, (h.reads 3).trans rfl, (h.reads 4).trans rfl, (h.reads 5).trans rfl, (h.reads 6).trans rfl, (h.reads 7).trans rfl, (h.reads 8).trans rfl⟩
theorem refrow_info : (Tryd.prog.info? 105).map (fun i => (i.zero, i.size, i.bytes)) = some (some (.agg #[.int .i64 0, .int .i64 0, .int .i64 0, .int .i64 0, .int .i64 0]), 5, 40) := by kernel_rfl
def OfMPost (w : World) (h : Hd) (rs : List R5) (e : Ending) (w' : World) : Prop :=
  ∃ A n c, e = .returned (.agg #[.int .i64 h.k, .int .i64 h.s, .int .i64 h.a, .int .i64 h.b, .int .i64 h.c, .int .i64 h.d, .int .i64 h.e, .int .i64 h.f, .slice A n c]) ∧ RowsAt w' w'.heap.size A n rs ∧ (A = none → c = 0) ∧ Below w.heap.size w w'
/-- So many rows are copied; the argument's box, the result's, the copy's: one behind the other. -/
def OfLoop (w : World) (h : Hd) (rs : List R5) (A0 : Option Addr) (n c0 : Nat) (k : Nat) (wr : World) : Prop :=
  (∃ A c, Box wr (w.heap.size + 1 + 1) 63 #[.int .i64 h.k, .int .i64 h.s, .int .i64 h.a, .int .i64 h.b, .int .i64 h.c, .int .i64 h.d, .int .i64 h.e, .int .i64 h.f, .slice A k c] ∧ wr.ownsRow (w.heap.size + 3) 105 5 (.slice A k c) k (rowCells (rs.take k))) ∧
  Box wr (w.heap.size + 1) 63 #[.int .i64 0, .int .i64 0, .int .i64 0, .int .i64 0, .int .i64 0, .int .i64 0, .int .i64 0, .int .i64 0, .slice none 0 0] ∧ Box wr w.heap.size 58 #[.int .i64 h.k, .int .i64 h.s, .int .i64 h.a, .int .i64 h.b, .int .i64 h.c, .int .i64 h.d, .int .i64 h.e, .int .i64 h.f, .slice A0 n c0] ∧ Below w.heap.size w wr ∧ w.heap.size + 3 ≤ wr.heap.size
theorem OfLoop.step {w : World} {h : Hd} {rs : List R5} {A0 : Option Addr} {n c0 k : Nat} {wr W1 : World} {A : Option Addr} {c : Nat} {x : R5}
    (hm : Box wr (w.heap.size + 1 + 1) 63 #[.int .i64 h.k, .int .i64 h.s, .int .i64 h.a, .int .i64 h.b, .int .i64 h.c, .int .i64 h.d, .int .i64 h.e, .int .i64 h.f, .slice A k c]) (hown : wr.ownsRow (w.heap.size + 3) 105 5 (.slice A k c) k (rowCells (rs.take k)))
    (hz : Box wr (w.heap.size + 1) 63 #[.int .i64 0, .int .i64 0, .int .i64 0, .int .i64 0, .int .i64 0, .int .i64 0, .int .i64 0, .int .i64 0, .slice none 0 0]) (h0 : Box wr w.heap.size 58 #[.int .i64 h.k, .int .i64 h.s, .int .i64 h.a, .int .i64 h.b, .int .i64 h.c, .int .i64 h.d, .int .i64 h.e, .int .i64 h.f, .slice A0 n c0]) (hbel : Below w.heap.size w wr) (hsz : w.heap.size + 3 ≤ wr.heap.size) (hx : rs[k]? = some x) (hW : Below wr.heap.size wr W1) :
    ∀ (v : Value) (w7 : World), w7.ownsRow (w.heap.size + 3) 105 5 v (k + 1) (rowCells (rs.take k) ++ [.int .i64 x.p, .int .i64 x.q, .int .i64 x.r, .int .i64 x.s, .int .i64 x.t]) →
      W1.grownBy w7 (Value.slice A k c).ownBlock →
      w7.cell? ⟨w.heap.size + 1 + 1, 8, none⟩ = some (.slice A k c) ∧ w7.frozen? ⟨w.heap.size + 1 + 1, 8, none⟩ = false ∧ w7.cell? ⟨w.heap.size, 8, none⟩ = some (.slice A0 n c0) ∧ Below w.heap.size w w7 ∧
      OfLoop w h rs A0 n c0 (k + 1) (w7.setCell ⟨w.heap.size + 1 + 1, 8, none⟩ v) := by
  intro v w7 hown7 hgr
  have e1 : ∀ i, (Value.slice A k c).ownBlock = some i → w.heap.size + 3 ≤ i ∧ i < wr.heap.size := hown.lt
  have hck : Chg (fun i => some i = (Value.slice A k c).ownBlock) wr w7 := (Chg.of_below hW _).grown hgr (fun i _ e => e)
  have hm7 : Box w7 (w.heap.size + 1 + 1) 63 _ := hm.kept hck (fun e => by have := e1 _ e.symm; omega)
  have hz7 : Box w7 (w.heap.size + 1) 63 _ := hz.kept hck (fun e => by have := e1 _ e.symm; omega)
  have h07 : Box w7 w.heap.size 58 _ := h0.kept hck (fun e => by have := e1 _ e.symm; omega)
  have hb7 : Below w.heap.size w w7 := Chg.toBelow hbel hck hbel.size (fun i hi e => by have := e1 i e.symm; omega)
  obtain ⟨A2, c2, rfl⟩ := own_slice hown7
  have hne : (Value.slice A2 (k + 1) c2).ownBlock ≠ some (w.heap.size + 1 + 1) := fun e => by have := (hown7.lt _ e).1; omega
  have hset : Chg (· = w.heap.size + 1 + 1) w7 (w7.setCell ⟨w.heap.size + 1 + 1, 8, none⟩ (.slice A2 (k + 1) c2)) := (Chg.refl (· = w.heap.size + 1 + 1) w7).setCell (p := ⟨w.heap.size + 1 + 1, 8, none⟩) (fun _ => rfl) _
  refine ⟨(hm7.reads 8).trans rfl, hm7.unmarked 8, (h07.reads 8).trans rfl, hb7, ⟨A2, c2, by simpa using hm7.wrote 8 (.slice A2 (k + 1) c2), ?_⟩, hz7.kept hset (by omega), h07.kept hset (by omega), Chg.toBelow hb7 hset hb7.size (fun i hi e => by omega), ?_⟩
  · have et : rowCells (rs.take (k + 1)) = rowCells (rs.take k) ++ [.int .i64 x.p, .int .i64 x.q, .int .i64 x.r, .int .i64 x.s, .int .i64 x.t] := by
      rw [List.take_add_one, hx, Option.toList_some, rowCells_snoc]
    rw [et]
    exact own_set hown7 ⟨w.heap.size + 1 + 1, 8, none⟩ _ hne
  · have := hck.size
    simp [World.setCell]; omega
set_option maxRecDepth 100000 in
set_option maxHeartbeats 2000000 in
theorem of_msg (h : Hd) (rs : List R5) (A : Option Addr) (n c : Nat) (w : World) (hr : RowsAt w w.heap.size A n rs) (hn : n ≤ 1000) :
    Calls Tryd.prog 27 #[.agg #[.int .i64 h.k, .int .i64 h.s, .int .i64 h.a, .int .i64 h.b, .int .i64 h.c, .int .i64 h.d, .int .i64 h.e, .int .i64 h.f, .slice A n c]] w (OfMPost w h rs) := by
  have HR := Lib.hid hr
  clear hr
  obtain ⟨i0, hi0, hz0, hz1, hz2⟩ := info_parts refrow_info
  have HI0 := Lib.hid hi0
  have HI1 := Lib.hid hz0
  have HI2 := Lib.hid hz1
  have HI3 := Lib.hid hz2
  clear hi0 hz0 hz1 hz2
  go_enter Tryd.func27, Tryd.ntmps27
  go_wp2_with fail
  have hl0 : OfLoop w h rs A n c 0 (((w.alloc (.cells #[.int .i64 h.k, .int .i64 h.s, .int .i64 h.a, .int .i64 h.b, .int .i64 h.c, .int .i64 h.d, .int .i64 h.e, .int .i64 h.f, .slice A n c] 58)).alloc (.cells #[.int .i64 0, .int .i64 0, .int .i64 0, .int .i64 0, .int .i64 0, .int .i64 0, .int .i64 0, .int .i64 0, .slice none 0 0] 63)).alloc (.cells #[.int .i64 h.k, .int .i64 h.s, .int .i64 h.a, .int .i64 h.b, .int .i64 h.c, .int .i64 h.d, .int .i64 h.e, .int .i64 h.f, .slice none 0 0] 63)) := by
    refine ⟨⟨none, 0, Box.fresh _ _ _ (by simp), World.ownsRow_nil _ _ _ _⟩, (Box.fresh _ _ _ (by simp)).kept_below (bel_new _ _) (by simp), ((Box.fresh w _ _ rfl).kept_below (bel_new _ _) (by simp)).kept_below (bel_new _ _) (by simp; omega), bel_alloc (bel_alloc (bel_new w _) _) _, by simp⟩
  have HL0 := Lib.hid hl0
  have hlen := HR.out.len
  have HLEN := Lib.hid hlen
  clear hl0 hlen
  go_loopw [4] (fun v4 wr => ∃ k : Nat, k ≤ n ∧ v4 = .int .i64 k ∧ Hid (OfLoop w h rs A n c k wr)) (fun v4 _ => n - (intOf v4).toNat)
  case atStart => exact ⟨0, by omega, rfl, HL0⟩
  case round =>
    obtain ⟨k, hk, rfl, hL⟩ := hrel
    obtain ⟨⟨A1, c1, hm, hown⟩, hz, hb0, hbel, hsz⟩ := hL.out
    have m8 := (hb0.reads 8).trans (show _ = some (Value.slice A n c) from rfl)
    have x8 := (hm.reads 8).trans (show _ = some (Value.slice A1 k c1) from rfl)
    by_cases hlt : k < n
    · obtain ⟨b, off, x, rfl, hbl, hx, hxo, y0, y1, y2, y3, y4⟩ := (HR.out.carry hbel).at_ hlt
      have hst := fun W1 (hW : Below wr.heap.size wr W1) => OfLoop.step hm hown hz hb0 hbel hsz hx hW
      have HST := Lib.hid hst
      have HOW := Lib.hid hown
      have i1 : (0 : Int) ≤ (k : Int) := by omega
      have i2 : (k : Int) < (n : Int) := by omega
      clear hst hm hown hz hb0 hx hxo
      have x8' : ∀ o, (wr.alloc o).cell? ⟨w.heap.size + 1 + 1, 8, none⟩ = some (.slice A1 k c1) := fun o => ((bel_new wr o).cell (p := ⟨w.heap.size + 1 + 1, 8, none⟩) (by show w.heap.size + 1 + 1 < wr.heap.size; omega)).trans x8
      go_wp2_with fail
      go_region_law (refine step_append_at rfl (.tmp 20) (.tmp 26) _ rfl (w.heap.size + 3) 105 i0 _ 5 40 Tryd.underlying61 HI0.out HI1.out HI2.out HI3.out rfl (by omega) (.slice A1 k c1) k _ rfl (own_alloc HOW.out (.cells #[.int .i64 x.p, .int .i64 x.q, .int .i64 x.r, .int .i64 x.s, .int .i64 x.t] 105)).drew ⟨wr.heap.size, 0, none⟩ 1 1 [.int .i64 x.p, .int .i64 x.q, .int .i64 x.r, .int .i64 x.s, .int .i64 x.t] rfl rfl (row_new _ _ _ _ _ _ _) (row_one _ _ _ _ _) (by simp only [maxLen]; omega) (by omega) (by simp; omega) ?_; intro v7 w7 hown7 hgr7 _; obtain ⟨A7, c7, rfl⟩ := own_slice hown7; obtain ⟨g8, f8, g0, hb7, hfin⟩ := HST.out _ ((bel_new wr (.cells #[.int .i64 x.p, .int .i64 x.q, .int .i64 x.r, .int .i64 x.s, .int .i64 x.t] 105)).drew) _ w7 hown7 hgr7; have HFN := Lib.hid hfin; clear hfin hown7 hgr7)
      all_goals
        go_wp2_with fail
        go_roundw
        case rel => exact ⟨k + 1, by omega, by go_num, HFN⟩
        case measure => simp [intOf]; omega
    · obtain rfl : k = n := by omega
      have htk : rs.take k = rs := List.take_of_length_le (by have := HLEN.out; omega)
      rw [htk] at hown
      have hra : RowsAt wr wr.heap.size A1 k rs := RowsAt.ofOwn hown HLEN.out HR.out.ok
      obtain ⟨c0, c1', c2, c3, c4, c5, c6, c7, _⟩ := box_cells9 hm
      obtain ⟨z0, z1, z2, z3, z4, z5, z6, z7, z8⟩ := box_cells9 hz
      have f0 := hz.unmarked 0
      have f1 := hz.unmarked 1
      have f2 := hz.unmarked 2
      have f3 := hz.unmarked 3
      have f4 := hz.unmarked 4
      have f5 := hz.unmarked 5
      have f6 := hz.unmarked 6
      have f7 := hz.unmarked 7
      have f8 := hz.unmarked 8
      have HRA := Lib.hid hra
      have HZ := Lib.hid hz
      have HOW := Lib.hid hown
      clear hra hm hz hb0 hown htk
      go_wp2_with fail
      rw [set9_def]
      have hb9 := set9_box HZ.out (.int .i64 h.k) (.int .i64 h.s) (.int .i64 h.a) (.int .i64 h.b) (.int .i64 h.c) (.int .i64 h.d) (.int .i64 h.e) (.int .i64 h.f) (.slice A1 k c1)
      have hch := set9_chg wr (w.heap.size + 1) (.int .i64 h.k) (.int .i64 h.s) (.int .i64 h.a) (.int .i64 h.b) (.int .i64 h.c) (.int .i64 h.d) (.int .i64 h.e) (.int .i64 h.f) (.slice A1 k c1)
      have fin : OfMPost w h rs (.returned (.agg #[.int .i64 h.k, .int .i64 h.s, .int .i64 h.a, .int .i64 h.b, .int .i64 h.c, .int .i64 h.d, .int .i64 h.e, .int .i64 h.f, .slice A1 k c1])) (set9 wr (w.heap.size + 1) (.int .i64 h.k) (.int .i64 h.s) (.int .i64 h.a) (.int .i64 h.b) (.int .i64 h.c) (.int .i64 h.d) (.int .i64 h.e) (.int .i64 h.f) (.slice A1 k c1)) :=
        ⟨A1, k, c1, rfl, HRA.out.kept hch (fun b o e hn hb => by
          have := HOW.out.lt b (by rw [e]; rfl)
          omega), own_nilcap HOW.out, set9_below hbel (by omega) hbel.size ..⟩
      generalize set9 wr (w.heap.size + 1) (.int .i64 h.k) (.int .i64 h.s) (.int .i64 h.a) (.int .i64 h.b) (.int .i64 h.c) (.int .i64 h.d) (.int .i64 h.e) (.int .i64 h.f) (.slice A1 k c1) = W9 at *
      obtain ⟨q0, q1, q2, q3, q4, q5, q6, q7, q8⟩ := box_cells9 hb9
      exact bodyPost_ret (v := .agg #[.int .i64 h.k, .int .i64 h.s, .int .i64 h.a, .int .i64 h.b, .int .i64 h.c, .int .i64 h.d, .int .i64 h.e, .int .i64 h.f, .slice A1 k c1]) (by simp [results, Tryd.results27, go_sem, q0, q1, q2, q3, q4, q5, q6, q7, q8]) rfl fin

set_option maxRecDepth 100000 in
set_option maxHeartbeats 2000000 in
theorem refSame_any (ha hb : Hd) (A A' : Option Addr) (n n' c c' : Nat) (ra rb : List R5) (w : World) (B B' : Nat) (h : RowsAt w B A n ra) (h' : RowsAt w B' A' n' rb) (hB : B ≤ w.heap.size) (hB' : B' ≤ w.heap.size) (hn : n ≤ maxLen) :
    Calls Tryd.prog 26 #[.agg #[.int .i64 ha.k, .int .i64 ha.s, .int .i64 ha.a, .int .i64 ha.b, .int .i64 ha.c, .int .i64 ha.d, .int .i64 ha.e, .int .i64 ha.f, .slice A n c],
      .agg #[.int .i64 hb.k, .int .i64 hb.s, .int .i64 hb.a, .int .i64 hb.b, .int .i64 hb.c, .int .i64 hb.d, .int .i64 hb.e, .int .i64 hb.f, .slice A' n' c']] w
      fun e w' => e = .returned (.bool (sameB ha hb ra rb)) ∧ Below w.heap.size w w' := by
  unfold maxLen at hn
  have hq := fun w => neqAs ha hb w
  have l1 := h.len
  have l2 := h'.len
  have H := Lib.hid h
  have H' := Lib.hid h'
  clear h h'
  have hs : sameB ha hb ra rb = (ha.k == hb.k && ha.s == hb.s && ha.as == hb.as && eqRows ra rb) := rfl
  have h1 : ∃ b, (ha.k == hb.k) = b := ⟨_, rfl⟩
  obtain ⟨b1, h1⟩ := h1
  have h2 : ∃ b, (ha.s == hb.s) = b := ⟨_, rfl⟩
  obtain ⟨b2, h2⟩ := h2
  have h3 : ∃ b, (ha.as == hb.as) = b := ⟨_, rfl⟩
  obtain ⟨b3, h3⟩ := h3
  rw [h1, h2, h3] at hs
  simp only [h3] at hq
  have g1 : (ha.k != hb.k) = !b1 := by rw [bne, h1]
  have g2 : (ha.s != hb.s) = !b2 := by rw [bne, h2]
  have HS := Lib.hid hs
  have L1 := Lib.hid l1
  have L2 := Lib.hid l2
  clear hs h3 l1 l2
  cases b1
  · have g1' : (ha.k != hb.k) = true := g1
    clear h2 g1 g2
    go_enter Tryd.func26, Tryd.ntmps26
    go_wp2_with fail
    go_ret
    exact ⟨ret_bool (by rw [HS.out]; rfl), bel_alloc (bel_new _ _) _⟩
  · have g1' : (ha.k != hb.k) = false := g1
    cases b2
    · have g2' : (ha.s != hb.s) = true := g2
      clear g1 g2
      go_enter Tryd.func26, Tryd.ntmps26
      go_wp2_with fail
      go_ret
      exact ⟨ret_bool (by rw [HS.out]; rfl), bel_alloc (bel_new _ _) _⟩
    · have g2' : (ha.s != hb.s) = false := g2
      clear g1 g2
      cases b3
      · go_enter Tryd.func26, Tryd.ntmps26
        go_wp2_with fail
        go_ret
        exact ⟨ret_bool (by rw [HS.out]; rfl), bel_alloc (bel_new _ _) _⟩
      · have HS2 : Hid (sameB ha hb ra rb = eqRows ra rb) := by
          have := HS.out
          simp only [Bool.true_and] at this
          exact this
        by_cases hnn : n = n'
        · subst hnn
          go_enter Tryd.func26, Tryd.ntmps26
          go_wp2_with fail
          have W0 : ∃ W2, W2 = ((w.alloc (.cells #[.int .i64 ha.k, .int .i64 ha.s, .int .i64 ha.a, .int .i64 ha.b, .int .i64 ha.c, .int .i64 ha.d, .int .i64 ha.e, .int .i64 ha.f, .slice A n c] 63)).alloc (.cells #[.int .i64 hb.k, .int .i64 hb.s, .int .i64 hb.a, .int .i64 hb.b, .int .i64 hb.c, .int .i64 hb.d, .int .i64 hb.e, .int .i64 hb.f, .slice A' n c'] 63)) := ⟨_, rfl⟩
          obtain ⟨W2, hW2⟩ := W0
          have hba : Box W2 w.heap.size 63 #[.int .i64 ha.k, .int .i64 ha.s, .int .i64 ha.a, .int .i64 ha.b, .int .i64 ha.c, .int .i64 ha.d, .int .i64 ha.e, .int .i64 ha.f, .slice A n c] := by rw [hW2]; exact (Box.fresh w _ _ rfl).kept_below (bel_new _ _) (by simp)
          have hbb : Box W2 (w.heap.size + 1) 63 #[.int .i64 hb.k, .int .i64 hb.s, .int .i64 hb.a, .int .i64 hb.b, .int .i64 hb.c, .int .i64 hb.d, .int .i64 hb.e, .int .i64 hb.f, .slice A' n c'] := by rw [hW2]; exact Box.fresh _ _ _ (by simp)
          have B2 : Below w.heap.size w W2 := by rw [hW2]; exact bel_alloc (bel_new w _) _
          rw [← hW2]
          have HBA := Lib.hid hba
          have HBB := Lib.hid hbb
          have HB2 := Lib.hid B2
          clear hW2 hba hbb B2
          go_loopw [5] (fun v5 wr => ∃ k m : Nat, k ≤ n ∧ v5 = .int .i64 k ∧ Hid (wr = W2.drewN m) ∧ Hid (ra.take k = rb.take k)) (fun v5 _ => n - (intOf v5).toNat)
          case atStart => exact ⟨0, 0, by omega, rfl, Lib.hid rfl, Lib.hid rfl⟩
          case round =>
            obtain ⟨k, m, hk, rfl, hW, hT⟩ := hrel
            have B3 : Below w.heap.size w wr := by rw [hW.out]; exact bel_drewN HB2.out m
            have hca : wr.cell? ⟨w.heap.size, 8, none⟩ = some (.slice A n c) := by rw [hW.out]; exact (HBA.out.reads 8).trans rfl
            have hcb : wr.cell? ⟨w.heap.size + 1, 8, none⟩ = some (.slice A' n c') := by rw [hW.out]; exact (HBB.out.reads 8).trans rfl
            by_cases hlt : k < n
            · obtain ⟨b, off, x, rfl, hb1, hx, _, x0, x1, x2, x3, x4⟩ := (H.out.carry (B3.mono hB)).at_ hlt
              obtain ⟨b', off', y, rfl, hb2, hy, _, y0, y1, y2, y3, y4⟩ := (H'.out.carry (B3.mono hB')).at_ hlt
              have hqr := fun w => neqRefRow x y w
              have HX := Lib.hid hx
              have HY := Lib.hid hy
              have i1 : (0 : Int) ≤ (k : Int) := by omega
              have i2 : (k : Int) < (n : Int) := by omega
              have HXY0 : ∃ bb, (x.l == y.l) = bb := ⟨_, rfl⟩
              obtain ⟨bb, hbb⟩ := HXY0
              simp only [hbb] at hqr
              have HBBB := Lib.hid hbb
              clear hbb hx hy
              cases bb
              · go_wp2_with fail
                go_quiet (fail)
                go_wp2_with fail
                go_ret
                exact ⟨ret_bool (by rw [HS2.out, eqRows_at HX.out HY.out HBBB.out]), bel_drewN B3 _⟩
              · go_wp2_with fail
                go_quiet (fail)
                go_wp2_with fail
                go_roundw
                obtain ⟨m2, hm2⟩ := drewN_drewN W2 m nq
                case rel => exact ⟨k + 1, m2, by omega, by go_num, Lib.hid (by rw [hW.out]; exact hm2), Lib.hid (by
                  rw [List.take_add_one, List.take_add_one, hT.out, HX.out, HY.out]
                  have := R5.ext_l (beq_iff_eq.1 HBBB.out)
                  rw [this])⟩
                case measure => simp [intOf]; omega
            · obtain rfl : k = n := by omega
              have he : eqRows ra rb = true := by
                rw [eqRows_iff]
                have := hT.out
                rwa [List.take_of_length_le (by have := L1.out; omega), List.take_of_length_le (by have := L2.out; omega)] at this
              have HE := Lib.hid he
              clear he
              go_wp2_with fail
              go_ret
              exact ⟨ret_bool (by rw [HS2.out, HE.out]), B3⟩
        · have he : eqRows ra rb = false := eqRows_len (by have := L1.out; have := L2.out; omega)
          have hne : ((n : Int) == (n' : Int)) = false := by simp; omega
          have hne' : ((n : Int) != (n' : Int)) = true := by simp; omega
          have HE := Lib.hid he
          clear he hnn
          go_enter Tryd.func26, Tryd.ntmps26
          go_wp2_with fail
          go_ret
          exact ⟨ret_bool (by rw [HS2.out, HE.out]), bel_alloc (bel_new _ _) _⟩
end Go.Proofs.YtjfjdicdokdekaaDoor
