/- From a reading of an argument to a message. -/
import Derived.Test.YtegjimagphdncaaDoorMsgEnc
import Derived.ProofKit
import Derived.OpenShut
import Derived.ChangeOld
import Derived.Below
import Derived.Deep.Slices
namespace Go.Proofs.YtegjimagphdncaaDoor
open Go Go.ChangeShapes Go.WideShapes Go.ChangeAt Go.RowKit Go.Mem1 Go.Deep

theorem i64_wf {z : Int} (h : (Lit.int .i64 z).wf = true) : -9223372036854775808 ≤ z ∧ z ≤ 9223372036854775807 := by
  simpa [Lit.wf, IntKind.min, IntKind.max, IntKind.signed, IntKind.bits] using h
set_option maxRecDepth 100000 in
theorem open_rows_cs {H : Type} {enc : TypeId × Value → H} {W : World} {held : Bool} {fuel : Nat} {cs : List Value} {x : DataW H × List MemPlace}
    (hf : DataW.trod enc Tryd.prog W 0 (fun _ => true) held fuel 23 cs = some x) : ∃ a n c rs, cs = [Value.slice a n c] ∧ RowsAt W W.heap.size a n rs ∧ (a = none → c = 0) ∧ n ≤ maxLen := by
  have hC : Tryd.prog.cellsOf 56 = 5 := by kernel_rfl
  have h1 : Tryd.prog.cellsOf 2 = 1 := by kernel_rfl
  rcases open_slice Tryd.underlying23 hf with ⟨hcs, _⟩ | ⟨x, n, c, m, k, D, Pl, hcs, _, hl, hm, hmm, _, hx⟩
  · exact ⟨none, 0, 0, [], hcs, RowsAt.empty _ _ _, fun _ => rfl, by unfold maxLen; omega⟩
  · simp only [if_true] at hmm
    subst hmm
    rw [hC] at hx
    obtain ⟨f, hfx⟩ := choose_lt (α := R5) (n := n) (p := fun i r => r.ok ∧ ∃ b off, x = ⟨b, off, none⟩ ∧ b < W.heap.size ∧ ∀ j u, (r.l.map (Value.int .i64))[j]? = some u → W.cell? ⟨b, off + (i * 5 + j), none⟩ = some u) (fun i hi => by
      obtain ⟨cs', hc, ht⟩ := hx i (by omega)
      obtain ⟨_, hlen, hat⟩ := World.cells?_some hc
      obtain ⟨xs, n2, _, _, _, hxl, hf2⟩ := DataW.trod_array Tryd.underlying56 ht
      rw [h1] at hf2
      match cs', hlen, xs, hxl with
      | [u0, u1, u2, u3, u4], _, [y0, y1, y2, y3, y4], _ =>
        obtain ⟨z0, e0, _, w0⟩ := DataW.trod_int Tryd.underlying2 (x := y0) (by simpa using hf2 0 (by omega))
        obtain ⟨z1, e1, _, w1⟩ := DataW.trod_int Tryd.underlying2 (x := y1) (by simpa using hf2 1 (by omega))
        obtain ⟨z2, e2, _, w2⟩ := DataW.trod_int Tryd.underlying2 (x := y2) (by simpa using hf2 2 (by omega))
        obtain ⟨z3, e3, _, w3⟩ := DataW.trod_int Tryd.underlying2 (x := y3) (by simpa using hf2 3 (by omega))
        obtain ⟨z4, e4, _, w4⟩ := DataW.trod_int Tryd.underlying2 (x := y4) (by simpa using hf2 4 (by omega))
        injection e0 with e0; injection e1 with e1; injection e2 with e2; injection e3 with e3; injection e4 with e4
        subst e0; subst e1; subst e2; subst e3; subst e4
        have g0 := hat 0 (by omega)
        have g1 := hat 1 (by omega)
        have g2 := hat 2 (by omega)
        have g3 := hat 3 (by omega)
        have g4 := hat 4 (by omega)
        obtain ⟨b, off, spot⟩ := x
        have hsp : spot = none := by
          obtain ⟨cs0, hc0', ht0⟩ := hx 0 (by omega)
          obtain ⟨_, hlen0, hat0⟩ := World.cells?_some hc0'
          match cs0, hlen0 with
          | [_, _, _, _, _], _ =>
            have h00 := hat0 0 (by omega)
            simpa [Addr.add] using World.cell?_spot (show W.cell? _ = some _ from h00)
        subst hsp
        rw [Go.Deep.add_add, Addr.add_lit] at g0 g1 g2 g3 g4
        refine ⟨⟨z0, z1, z2, z3, z4⟩, ?_, b, off, rfl, World.block_lt_of_cell? W _ g0, ?_⟩
        · intro z hz
          simp only [R5.l, List.mem_cons, List.mem_nil_iff, or_false] at hz
          rcases hz with rfl | rfl | rfl | rfl | rfl
          · exact i64_wf w0
          · exact i64_wf w1
          · exact i64_wf w2
          · exact i64_wf w3
          · exact i64_wf w4
        · intro j u hu
          match j, hu with
          | 0, hu => rw [← hu]; exact g0
          | 1, hu => rw [← hu]; exact g1
          | 2, hu => rw [← hu]; exact g2
          | 3, hu => rw [← hu]; exact g3
          | 4, hu => rw [← hu]; exact g4
          | j + 5, hu => simp [R5.l] at hu)
    have hlr : ((List.range n).map f).length = n := by simp
    have hat : ∀ i, i < n → ((List.range n).map f)[i]? = some (f i) := fun i hi => by rw [List.getElem?_map, List.getElem?_range hi]; rfl
    refine ⟨some x, n, m, (List.range n).map f, hcs, ⟨hlr, ⟨by rw [rowCells_len, hlr], fun hn => ?_⟩, fun r hr => ?_⟩, fun h => (by cases h), by omega⟩
    · obtain ⟨_, b, off, rfl, hb, _⟩ := hfx 0 (by omega)
      refine ⟨b, off, rfl, hb, fun k u hu => ?_⟩
      have hk : k < n * 5 := by
        rcases Nat.lt_or_ge k (n * 5) with h | h
        · exact h
        · rw [List.getElem?_eq_none (by rw [rowCells_len, hlr]; exact h)] at hu; cases hu
      obtain ⟨_, b', off', e', _, hcell⟩ := hfx (k / 5) (by omega)
      cases e'
      have ek : k = k / 5 * 5 + k % 5 := by omega
      rw [ek, rowCells_at (hat (k / 5) (by omega)) (by omega)] at hu
      rw [ek]
      exact hcell _ u hu
    · obtain ⟨i, hi, rfl⟩ := List.mem_map.1 hr
      exact (hfx i (by simpa using hi)).1
set_option maxRecDepth 100000 in
theorem open_msg {H : Type} {enc : TypeId × Value → H} {W : World} {held : Bool} {r : Reach} {b0 : Nat} {v : Value} {d : DataW H} {p : List MemPlace}
    (hv : Value.okWide Tryd.prog W r b0 25 v) (h : ∃ m, DataW.trod enc Tryd.prog W 0 (fun _ => true) held m 25 v.cells.toList = some (d, p)) :
    ∃ (h : Hd) (A : Option Addr) (n c : Nat) (rs : List R5), v = .agg #[.int .i64 h.k, .int .i64 h.s, .int .i64 h.a, .int .i64 h.b, .int .i64 h.c, .int .i64 h.d, .int .i64 h.e, .int .i64 h.f, .slice A n c] ∧ h.ok ∧ RowsAt W W.heap.size A n rs ∧ (A = none → c = 0) ∧ n ≤ maxLen := by
  have hC : Tryd.prog.cellsOf 25 = 9 := by kernel_rfl
  have h1 : Tryd.prog.cellsOf 2 = 1 := by kernel_rfl
  have h3 : Tryd.prog.cellsOf 3 = 1 := by kernel_rfl
  have h6 : Tryd.prog.cellsOf 22 = 6 := by kernel_rfl
  have hs : Tryd.prog.cellsOf 23 = 1 := by kernel_rfl
  obtain ⟨cs, rfl, hsz⟩ := okWide_struct Tryd.underlying25 hv
  obtain ⟨l⟩ := cs
  obtain ⟨fuel, hf⟩ := h
  match l, hsz.trans hC with
  | [c0, c1, c2, c3, c4, c5, c6, c7, c8], _ =>
    obtain ⟨xs, n2, _, _, _, hlen, hg⟩ := DataW.trod_struct Tryd.underlying25 hf
    match xs, hlen with
    | [y0, y1, y2, y3], _ =>
      have f0 : DataW.trod enc Tryd.prog W 0 (fun _ => true) held n2 3 (([c0, c1, c2, c3, c4, c5, c6, c7, c8].drop 0).take (Tryd.prog.cellsOf 3)) = some y0 := hg 0 _ rfl
      have f1 : DataW.trod enc Tryd.prog W 0 (fun _ => true) held n2 2 (([c0, c1, c2, c3, c4, c5, c6, c7, c8].drop 1).take (Tryd.prog.cellsOf 2)) = some y1 := hg 1 _ rfl
      have f2 : DataW.trod enc Tryd.prog W 0 (fun _ => true) held n2 22 (([c0, c1, c2, c3, c4, c5, c6, c7, c8].drop 2).take (Tryd.prog.cellsOf 22)) = some y2 := hg 2 _ rfl
      have f3 : DataW.trod enc Tryd.prog W 0 (fun _ => true) held n2 23 (([c0, c1, c2, c3, c4, c5, c6, c7, c8].drop 8).take (Tryd.prog.cellsOf 23)) = some y3 := hg 3 _ rfl
      rw [h3] at f0
      rw [h1] at f1
      rw [h6] at f2
      rw [hs] at f3
      obtain ⟨k, e0, _, w0⟩ := DataW.trod_int Tryd.underlying3 (x := y0) (by simpa using f0)
      obtain ⟨s, e1, _, w1⟩ := DataW.trod_int Tryd.underlying2 (x := y1) (by simpa using f1)
      obtain ⟨ys, n3, _, _, _, hla, ha⟩ := DataW.trod_array Tryd.underlying22 (cs := [c2, c3, c4, c5, c6, c7]) (x := y2) (by simpa using f2)
      rw [h1] at ha
      match ys, hla with
      | [a0, a1, a2, a3, a4, a5], _ =>
        obtain ⟨z0, g0, _, v0⟩ := DataW.trod_int Tryd.underlying2 (x := a0) (by simpa using ha 0 (by omega))
        obtain ⟨z1, g1, _, v1⟩ := DataW.trod_int Tryd.underlying2 (x := a1) (by simpa using ha 1 (by omega))
        obtain ⟨z2, g2, _, v2⟩ := DataW.trod_int Tryd.underlying2 (x := a2) (by simpa using ha 2 (by omega))
        obtain ⟨z3, g3, _, v3⟩ := DataW.trod_int Tryd.underlying2 (x := a3) (by simpa using ha 3 (by omega))
        obtain ⟨z4, g4, _, v4⟩ := DataW.trod_int Tryd.underlying2 (x := a4) (by simpa using ha 4 (by omega))
        obtain ⟨z5, g5, _, v5⟩ := DataW.trod_int Tryd.underlying2 (x := a5) (by simpa using ha 5 (by omega))
        obtain ⟨A, n, c, rs, g6, hr, hc0, hn⟩ := open_rows_cs (cs := [c8]) (x := y3) (by simpa using f3)
        injection e0 with e0; injection e1 with e1
        injection g0 with g0; injection g1 with g1; injection g2 with g2; injection g3 with g3; injection g4 with g4; injection g5 with g5; injection g6 with g6
        subst e0; subst e1; subst g0; subst g1; subst g2; subst g3; subst g4; subst g5; subst g6
        refine ⟨⟨k, s, z0, z1, z2, z3, z4, z5⟩, A, n, c, rs, rfl, ?_, hr, hc0, hn⟩
        intro z hz
        simp only [Hd.l, List.mem_cons, List.mem_nil_iff, or_false] at hz
        rcases hz with rfl | rfl | rfl | rfl | rfl | rfl | rfl | rfl
        · exact i64_wf w0
        · exact i64_wf w1
        · exact i64_wf v0
        · exact i64_wf v1
        · exact i64_wf v2
        · exact i64_wf v3
        · exact i64_wf v4
        · exact i64_wf v5
end Go.Proofs.YtegjimagphdncaaDoor
